/-
  A wait and a list of numbers that came in as data, opened.
-/
import Derived.Test.YtppmanjeeffddaaOpenNet
import Derived.Test.YtppmanjeeffddaaNum
namespace Go.Proofs.Ytppmanjeeffddaa
open Go.ChangeShapes Go.WideShapes Go.ChangeAt Go.RowKit Go.Deep
set_option linter.unusedVariables false

theorem open_rtt {H : Type} {enc : TypeId × Value → H} {W : World} {base : Nat} {v : Value} {d : DataW H} {p : List MemPlace} (hv : Value.okWide Try.prog W .any base 34 v) (h : DataW.Trod enc Try.prog W 0 (fun _ => true) true 34 v d p) :
    ∃ (a : Bool) (s z k : Int), v = .agg #[.bool a, .int .i64 s, .int .i64 z, .int .i64 k] ∧ (Lit.int .i64 s).wf = true ∧ (Lit.int .i64 z).wf = true ∧ (Lit.int .i64 k).wf = true := by
  obtain ⟨cs, ys, m, rfl, hcs, _, _, hys, hf⟩ := open_aggs Try.underlying34 (by kernel_rfl) (by kernel_rfl) hv h
  obtain ⟨l⟩ := cs
  match l, hcs with
  | [c0, c1, c2, c3], _ =>
    match ys, hys with
    | [y0, y1, y2, y3], _ =>
      obtain ⟨a0, e0, _⟩ := DataW.trod_bool Try.underlying4 (hf 0 _ rfl c0 y0 rfl rfl)
      obtain ⟨a1, e1, _, w1⟩ := DataW.trod_int Try.underlying3 (hf 1 _ rfl c1 y1 rfl rfl)
      obtain ⟨a2, e2, _, w2⟩ := DataW.trod_int Try.underlying3 (hf 2 _ rfl c2 y2 rfl rfl)
      obtain ⟨a3, e3, _, w3⟩ := DataW.trod_int Try.underlying3 (hf 3 _ rfl c3 y3 rfl rfl)
      simp only [List.cons.injEq, and_true] at e0 e1 e2 e3
      subst e0
      subst e1
      subst e2
      subst e3
      exact ⟨a0, a1, a2, a3, rfl, w1, w2, w3⟩

theorem open_ints {H : Type} {enc : TypeId × Value → H} {W : World} {base : Nat} {v : Value} {d : DataW H} {p : List MemPlace} (hv : Value.okWide Try.prog W .any base 24 v) (h : DataW.Trod enc Try.prog W 0 (fun _ => true) true 24 v d p) :
    ∃ (a : Option Addr) (n cap : Nat) (ns : List Int), v = .slice a n cap ∧ Rd shI W a n ns ∧ ∀ i, i < n → (Lit.int .i64 (iAt ns i)).wf = true := by
  obtain ⟨a0, l0, c0, rfl⟩ := okWide_slice Try.underlying24 hv
  obtain ⟨fuel, hf⟩ := h
  rcases open_slice Try.underlying24 hf with ⟨hcs, _⟩ | ⟨a, len, cap, m, n, D, Pl, hcs, hb, hl, hm, hmm, _, hx⟩
  · simp [Value.cells] at hcs
    obtain ⟨rfl, rfl, rfl⟩ := hcs
    exact ⟨none, 0, 0, [], rfl, ⟨rfl, Nat.zero_le _, fun i hi => by omega⟩, fun i hi => by omega⟩
  · simp [Value.cells] at hcs
    obtain ⟨e1, e2, e3⟩ := hcs
    rw [e1, e2, e3]
    clear hv hf e1 e2 e3
    have hm' : m = cap := by simpa using hmm
    have ce : Try.prog.cellsOf 3 = 1 := by kernel_rfl
    have each : ∀ i, i < m → ∃ o : Int, W.cell? (a.add i) = some (.int .i64 o) ∧ (Lit.int .i64 o).wf = true := by
      intro i hi
      obtain ⟨cs', h1, h2⟩ := hx i hi
      rw [ce] at h1
      obtain ⟨_, hlen, hcell⟩ := World.cells?_some h1
      match cs', hlen with
      | [v0], _ =>
        obtain ⟨b0, e0, _, w0⟩ := DataW.trod_int Try.underlying3 h2
        simp only [List.cons.injEq, and_true] at e0
        subst e0
        have q0 := hcell 0 (by omega)
        rw [add_add] at q0
        exact ⟨b0, by simpa using q0, w0⟩
    obtain ⟨q, hq⟩ := choose_lt each
    have e : ∀ i, i < len → iAt ((List.range len).map q) i = q i := fun i hi => by simp [iAt, List.getD, hi]
    refine ⟨some a, len, cap, (List.range len).map q, rfl, ⟨by simp, Nat.le_trans hl hm, fun i hi => ⟨a, rfl, ?_, fun j hj => ?_⟩⟩, fun i hi => ?_⟩
    · have hb2 := World.block_lt_of_cell? W _ (hq i (by omega)).1
      have hbl : (a.add i).block = a.block := by unfold Addr.add; split <;> rfl
      omega
    · have h1 : shI.get ((List.range len).map q) i = q i := e i hi
      rw [h1]
      obtain ⟨q0, _⟩ := hq i (by omega)
      match j, hj with
      | 0, _ =>
        rw [show i * shI.k + 0 = i by simp [shI]]
        exact q0
    · rw [e i hi]
      exact (hq i (by omega)).2
end Go.Proofs.Ytppmanjeeffddaa
