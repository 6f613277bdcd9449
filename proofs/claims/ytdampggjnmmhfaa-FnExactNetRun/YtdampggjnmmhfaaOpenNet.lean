/-
  A net that came in as data, opened: its list of texts can be read.
-/
import Derived.Test.YtdampggjnmmhfaaRow
import Derived.Test.YtdampggjnmmhfaaAgg
import Derived.Carry
namespace Go.Proofs.Ytdampggjnmmhfaa
open Go.ChangeShapes Go.WideShapes Go.ChangeAt Go.RowKit Go.Deep
set_option linter.unusedVariables false

theorem array1 {α : Type} {cs : Array α} (h : cs.size = 1) : ∃ c0, cs = #[c0] := by
  obtain ⟨l⟩ := cs
  match l, h with
  | [c0], _ => exact ⟨c0, rfl⟩

theorem list1 {α : Type} {l : List α} (h : l.length = 1) : ∃ c0, l = [c0] := by
  match l, h with
  | [c0], _ => exact ⟨c0, rfl⟩

theorem open_texts {H : Type} {enc : TypeId × Value → H} {P : Program} {w : World} {t e : TypeId} {fuel : Nat} {c : Value} {x : DataW H × List MemPlace} (ht : P.underlying t = some (.slice e)) (he : P.underlying e = some .string) (hc : P.cellsOf e = 1)
    (h : DataW.trod enc P w 0 (fun _ => true) true fuel t [c] = some x) : ∃ (a : Option Addr) (n cap : Nat) (ss : List ByteArray), c = .slice a n cap ∧ Reads w a n ss ∧ ∀ i, i < n → (txt ss i).size ≤ maxLen := by
  rcases open_strings ht he hc h with ⟨hcs, _⟩ | ⟨a, len, cap, ss, hcs, _, hl, hm, hz, _, hcell, hsz⟩
  · simp only [List.cons.injEq, and_true] at hcs
    exact ⟨none, 0, 0, [], hcs, ⟨rfl, Nat.zero_le _, fun i hi => by omega⟩, fun i hi => by omega⟩
  · simp only [List.cons.injEq, and_true] at hcs
    simp only [if_true] at hz
    have htx : ∀ i, i < len → txt (ss.take len) i = txt ss i := fun i hi => by simp [txt, List.getD, hi]
    refine ⟨some a, len, cap, ss.take len, hcs, ⟨by rw [List.length_take]; omega, Nat.le_trans hl hm, fun i hi => ⟨a, rfl, ?_, ?_⟩⟩, fun i hi => ?_⟩
    · have hb := World.block_lt_of_cell? w (a.add i) (hcell i (by omega))
      have hbl : (a.add i).block = a.block := by unfold Addr.add; split <;> rfl
      omega
    · rw [htx i hi]
      exact hcell i (by omega)
    · rw [htx i hi]
      refine hsz _ ?_
      have : i < ss.length := by omega
      simp [txt, List.getD, List.getElem?_eq_getElem this]

theorem open_net {H : Type} {enc : TypeId × Value → H} {W : World} {base : Nat} {v : Value} {d : DataW H} {p : List MemPlace} (hv : Value.okWide Try.prog W .any base 24 v) (h : DataW.Trod enc Try.prog W 0 (fun _ => true) true 24 v d p) :
    ∃ (a : Option Addr) (n cap : Nat) (ss : List ByteArray), v = .agg #[.slice a n cap] ∧ Reads W a n ss ∧ ∀ i, i < n → (txt ss i).size ≤ maxLen := by
  obtain ⟨cs, ys, m, rfl, hcs, _, _, hys, hf⟩ := open_aggs Try.underlying24 (by kernel_rfl) (by kernel_rfl) hv h
  obtain ⟨c0, rfl⟩ := array1 hcs
  obtain ⟨y0, rfl⟩ := list1 hys
  have k0 := hf 0 _ rfl c0 y0 rfl rfl
  obtain ⟨a, n, cap, ss, rfl, R, hs⟩ := open_texts Try.underlying22 Try.underlying9 (by kernel_rfl) k0
  exact ⟨a, n, cap, ss, rfl, R, hs⟩

theorem open_netop {H : Type} {enc : TypeId × Value → H} {W : World} {base : Nat} {v : Value} {d : DataW H} {p : List MemPlace} (hv : Value.okWide Try.prog W .any base 35 v) (h : DataW.Trod enc Try.prog W 0 (fun _ => true) true 35 v d p) :
    ∃ (k a hf tn : Int), v = .agg #[.int .i64 k, .int .i64 a, .int .i64 hf, .int .i64 tn] ∧ (Lit.int .i64 k).wf = true ∧ (Lit.int .i64 a).wf = true ∧ (Lit.int .i64 hf).wf = true ∧ (Lit.int .i64 tn).wf = true := by
  obtain ⟨cs, ys, m, rfl, hcs, _, _, hys, hf⟩ := open_aggs Try.underlying35 (by kernel_rfl) (by kernel_rfl) hv h
  obtain ⟨l⟩ := cs
  match l, hcs with
  | [c0, c1, c2, c3], _ =>
    match ys, hys with
    | [y0, y1, y2, y3], _ =>
      obtain ⟨a0, e0, _, w0⟩ := DataW.trod_int Try.underlying3 (hf 0 _ rfl c0 y0 rfl rfl)
      obtain ⟨a1, e1, _, w1⟩ := DataW.trod_int Try.underlying3 (hf 1 _ rfl c1 y1 rfl rfl)
      obtain ⟨a2, e2, _, w2⟩ := DataW.trod_int Try.underlying3 (hf 2 _ rfl c2 y2 rfl rfl)
      obtain ⟨a3, e3, _, w3⟩ := DataW.trod_int Try.underlying3 (hf 3 _ rfl c3 y3 rfl rfl)
      simp only [List.cons.injEq, and_true] at e0 e1 e2 e3
      subst e0
      subst e1
      subst e2
      subst e3
      exact ⟨a0, a1, a2, a3, rfl, w0, w1, w2, w3⟩
end Go.Proofs.Ytdampggjnmmhfaa
