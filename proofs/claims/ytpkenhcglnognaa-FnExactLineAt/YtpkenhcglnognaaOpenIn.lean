/-
  A buffer of bytes that came, as data, opened: its list of parts can be read.
-/
import Derived.Test.YtpkenhcglnognaaPrt
import Derived.Test.YtpkenhcglnognaaM1
import Derived.Test.YtpkenhcglnognaaAgg
import Derived.Carry
namespace Go.Proofs.Ytpkenhcglnognaa
open Go.ChangeShapes Go.WideShapes Go.ChangeAt Go.RowKit Go.Deep
set_option linter.unusedVariables false
set_option maxRecDepth 10000
set_option maxRecDepth 10000

theorem open_parts {H : Type} {enc : TypeId × Value → H} {W : World} {fuel : Nat} {c : Value} {x : DataW H × List MemPlace} (hf : DataW.trod enc Try.prog W 0 (fun _ => true) true fuel 73 [c] = some x) :
    ∃ (a : Option Addr) (n cap : Nat) (ps : List (Int × ByteArray)), c = .slice a n cap ∧ Rd shP W a n ps ∧ ∀ i, i < n → (Lit.int .u32 (pAt ps i).1).wf = true ∧ (pAt ps i).2.size ≤ maxLen := by
  rcases open_slice Try.underlying73 hf with ⟨hcs, _⟩ | ⟨a, len, cap, m, n, D, Pl, hcs, hb, hl, hm, hmm, _, hx⟩
  · simp only [List.cons.injEq, and_true] at hcs
    exact ⟨none, 0, 0, [], hcs, ⟨rfl, Nat.zero_le _, fun i hi => by omega⟩, fun i hi => by omega⟩
  · simp only [List.cons.injEq, and_true] at hcs
    have hm' : m = cap := by simpa using hmm
    have ce : Try.prog.cellsOf 120 = 2 := by kernel_rfl
    have each : ∀ i, i < m → ∃ o : Int × ByteArray, W.cell? (a.add (i * 2)) = some (.int .u32 o.1) ∧ W.cell? (a.add (i * 2 + 1)) = some (.string o.2) ∧ (Lit.int .u32 o.1).wf = true ∧ o.2.size ≤ maxLen := by
      intro i hi
      obtain ⟨cs', h1, h2⟩ := hx i hi
      rw [ce] at h1
      obtain ⟨_, hlen, hcell⟩ := World.cells?_some h1
      obtain ⟨xs, k, hk, hxy, _, hxl, hg⟩ := DataW.trod_struct Try.underlying120 h2
      match xs, hxl, cs', hlen with
      | [y0, y1], _, [v0, v1], _ =>
        have g0 := hg 0 _ rfl
        have g1 := hg 1 _ rfl
        have ci : Try.prog.cellsOf 22 = 1 := by kernel_rfl
        have cj : Try.prog.cellsOf 9 = 1 := by kernel_rfl
        simp [ci, cj] at g0 g1
        obtain ⟨b0, e0, _, w0⟩ := DataW.trod_int Try.underlying22 g0
        obtain ⟨b1, e1, _, w1⟩ := DataW.trod_string Try.underlying9 g1
        simp only [List.cons.injEq, and_true] at e0 e1
        subst e0
        subst e1
        have q0 := hcell 0 (by omega)
        have q1 := hcell 1 (by omega)
        rw [add_add] at q0 q1
        exact ⟨(b0, b1), by simpa using q0, by simpa using q1, w0, w1⟩
    obtain ⟨q, hq⟩ := choose_lt each
    have e : ∀ i, i < len → pAt ((List.range len).map q) i = q i := fun i hi => by simp [pAt, List.getD, hi]
    refine ⟨some a, len, cap, (List.range len).map q, hcs, ⟨by simp, Nat.le_trans hl hm, fun i hi => ⟨a, rfl, ?_, fun j hj => ?_⟩⟩, fun i hi => ?_⟩
    · have hb2 := World.block_lt_of_cell? W _ (hq i (by omega)).1
      have hbl : (a.add (i * 2)).block = a.block := by unfold Addr.add; split <;> rfl
      omega
    · have h1 : shP.get ((List.range len).map q) i = q i := e i hi
      rw [h1]
      obtain ⟨q0, q1, _⟩ := hq i (by omega)
      match j, hj with
      | 0, _ => exact q0
      | 1, _ => exact q1
    · rw [e i hi]
      exact (hq i (by omega)).2.2
end Go.Proofs.Ytpkenhcglnognaa
