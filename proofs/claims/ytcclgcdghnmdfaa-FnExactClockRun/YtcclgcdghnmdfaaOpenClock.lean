/-
  A clock that came in as data, opened: its list of timers can be read.
-/
import Derived.Test.YtcclgcdghnmdfaaTim
import Derived.Test.YtcclgcdghnmdfaaOpenNet
namespace Go.Proofs.Ytcclgcdghnmdfaa
open Go.ChangeShapes Go.WideShapes Go.ChangeAt Go.RowKit Go.Deep
set_option linter.unusedVariables false
set_option maxRecDepth 10000

theorem open_tims {H : Type} {enc : TypeId × Value → H} {W : World} {fuel : Nat} {c : Value} {x : DataW H × List MemPlace} (hf : DataW.trod enc Try.prog W 0 (fun _ => true) true fuel 22 [c] = some x) :
    ∃ (a : Option Addr) (n cap : Nat) (ts : List (Int × Int)), c = .slice a n cap ∧ Rd shT W a n ts ∧ ∀ i, i < n → (Lit.int .i64 (tAt ts i).1).wf = true ∧ (Lit.int .i64 (tAt ts i).2).wf = true := by
  rcases open_slice Try.underlying22 hf with ⟨hcs, _⟩ | ⟨a, len, cap, m, n, D, Pl, hcs, hb, hl, hm, hmm, _, hx⟩
  · simp only [List.cons.injEq, and_true] at hcs
    exact ⟨none, 0, 0, [], hcs, ⟨rfl, Nat.zero_le _, fun i hi => by omega⟩, fun i hi => by omega⟩
  · simp only [List.cons.injEq, and_true] at hcs
    have hm' : m = cap := by simpa using hmm
    have ce : Try.prog.cellsOf 78 = 2 := by kernel_rfl
    have each : ∀ i, i < m → ∃ o : Int × Int, W.cell? (a.add (i * 2)) = some (.int .i64 o.1) ∧ W.cell? (a.add (i * 2 + 1)) = some (.int .i64 o.2) ∧ (Lit.int .i64 o.1).wf = true ∧ (Lit.int .i64 o.2).wf = true := by
      intro i hi
      obtain ⟨cs', h1, h2⟩ := hx i hi
      rw [ce] at h1
      obtain ⟨_, hlen, hcell⟩ := World.cells?_some h1
      obtain ⟨xs, k, hk, hxy, _, hxl, hg⟩ := DataW.trod_struct Try.underlying78 h2
      match xs, hxl, cs', hlen with
      | [y0, y1], _, [v0, v1], _ =>
        have g0 := hg 0 _ rfl
        have g1 := hg 1 _ rfl
        have ci : Try.prog.cellsOf 3 = 1 := by kernel_rfl
        simp [ci] at g0 g1
        obtain ⟨b0, e0, _, w0⟩ := DataW.trod_int Try.underlying3 g0
        obtain ⟨b1, e1, _, w1⟩ := DataW.trod_int Try.underlying3 g1
        simp only [List.cons.injEq, and_true] at e0 e1
        subst e0
        subst e1
        have q0 := hcell 0 (by omega)
        have q1 := hcell 1 (by omega)
        rw [add_add] at q0 q1
        exact ⟨(b0, b1), by simpa using q0, by simpa using q1, w0, w1⟩
    obtain ⟨q, hq⟩ := choose_lt each
    have e : ∀ i, i < len → tAt ((List.range len).map q) i = q i := fun i hi => by simp [tAt, List.getD, hi]
    refine ⟨some a, len, cap, (List.range len).map q, hcs, ⟨by simp, Nat.le_trans hl hm, fun i hi => ⟨a, rfl, ?_, fun j hj => ?_⟩⟩, fun i hi => ?_⟩
    · have hb2 := World.block_lt_of_cell? W _ (hq i (by omega)).1
      have hbl : (a.add (i * 2)).block = a.block := by unfold Addr.add; split <;> rfl
      omega
    · have h1 : shT.get ((List.range len).map q) i = q i := e i hi
      rw [h1]
      obtain ⟨q0, q1, _⟩ := hq i (by omega)
      match j, hj with
      | 0, _ => exact q0
      | 1, _ => exact q1
    · rw [e i hi]
      exact (hq i (by omega)).2.2

theorem open_clock {H : Type} {enc : TypeId × Value → H} {W : World} {base : Nat} {v : Value} {d : DataW H} {p : List MemPlace} (hv : Value.okWide Try.prog W .any base 24 v) (h : DataW.Trod enc Try.prog W 0 (fun _ => true) true 24 v d p) :
    ∃ (now : Int) (a : Option Addr) (n cap : Nat) (ts : List (Int × Int)), v = .agg #[.int .i64 now, .slice a n cap] ∧ (Lit.int .i64 now).wf = true ∧ Rd shT W a n ts ∧ ∀ i, i < n → (Lit.int .i64 (tAt ts i).1).wf = true ∧ (Lit.int .i64 (tAt ts i).2).wf = true := by
  obtain ⟨cs, ys, m, rfl, hcs, _, _, hys, hf⟩ := open_aggs Try.underlying24 (by kernel_rfl) (by kernel_rfl) hv h
  obtain ⟨l⟩ := cs
  match l, hcs with
  | [c0, c1], _ =>
    match ys, hys with
    | [y0, y1], _ =>
      obtain ⟨a0, e0, _, w0⟩ := DataW.trod_int Try.underlying3 (hf 0 _ rfl c0 y0 rfl rfl)
      simp only [List.cons.injEq, and_true] at e0
      subst e0
      obtain ⟨a, n, cap, ts, rfl, R, hs⟩ := open_tims (hf 1 _ rfl c1 y1 rfl rfl)
      exact ⟨a0, a, n, cap, ts, rfl, w0, R, hs⟩
end Go.Proofs.Ytcclgcdghnmdfaa
