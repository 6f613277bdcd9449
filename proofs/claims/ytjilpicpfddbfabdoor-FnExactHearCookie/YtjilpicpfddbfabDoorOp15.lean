/-
  A list of words and an address that came in as data, opened.
-/
import Derived.Test.YtjilpicpfddbfabDoorOpenNet
import Derived.Test.YtjilpicpfddbfabDoorU32
import Derived.Test.YtjilpicpfddbfabDoorAd15
namespace Go.Proofs.YtjilpicpfddbfabDoor
open Go.ChangeShapes Go.WideShapes Go.ChangeAt Go.RowKit Go.Deep
set_option linter.unusedVariables false
set_option maxRecDepth 10000

theorem open_addr {H : Type} {enc : TypeId × Value → H} {W : World} {base : Nat} {v : Value} {d : DataW H} {p : List MemPlace} (hv : Value.okWide Tryd.prog W .any base 24 v) (h : DataW.Trod enc Tryd.prog W 0 (fun _ => true) true 24 v d p) :
    ∃ (h0 p0 : Int), v = addrVal h0 p0 ∧ (Lit.int .u32 h0).wf = true ∧ (Lit.int .i64 p0).wf = true := by
  obtain ⟨cs, ys, m, rfl, hcs, _, _, hys, hf⟩ := open_aggs Tryd.underlying24 (by kernel_rfl) (by kernel_rfl) hv h
  obtain ⟨l⟩ := cs
  match l, hcs with
  | [c0, c1], _ =>
    match ys, hys with
    | [y0, y1], _ =>
      obtain ⟨a0, e0, _, w0⟩ := DataW.trod_int Tryd.underlying22 (hf 0 _ rfl c0 y0 rfl rfl)
      obtain ⟨a1, e1, _, w1⟩ := DataW.trod_int Tryd.underlying3 (hf 1 _ rfl c1 y1 rfl rfl)
      simp only [List.cons.injEq, and_true] at e0 e1
      subst e0
      subst e1
      exact ⟨a0, a1, rfl, w0, w1⟩

theorem open_uints {H : Type} {enc : TypeId × Value → H} {W : World} {base : Nat} {v : Value} {d : DataW H} {p : List MemPlace} (hv : Value.okWide Tryd.prog W .any base 72 v) (h : DataW.Trod enc Tryd.prog W 0 (fun _ => true) true 72 v d p) :
    ∃ (a : Option Addr) (n cap : Nat) (ns : List Int), v = .slice a n cap ∧ Rd shU W a n ns := by
  obtain ⟨a0, l0, c0, rfl⟩ := okWide_slice Tryd.underlying72 hv
  obtain ⟨fuel, hf⟩ := h
  rcases open_slice Tryd.underlying72 hf with ⟨hcs, _⟩ | ⟨a, len, cap, m, n, D, Pl, hcs, hb, hl, hm, hmm, _, hx⟩
  · simp [Value.cells] at hcs
    obtain ⟨rfl, rfl, rfl⟩ := hcs
    exact ⟨none, 0, 0, [], rfl, ⟨rfl, Nat.zero_le _, fun i hi => by omega⟩⟩
  · simp [Value.cells] at hcs
    obtain ⟨e1, e2, e3⟩ := hcs
    rw [e1, e2, e3]
    clear hv hf e1 e2 e3
    have hm' : m = cap := by simpa using hmm
    have ce : Tryd.prog.cellsOf 22 = 1 := by kernel_rfl
    have each : ∀ i, i < m → ∃ o : Int, W.cell? (a.add i) = some (.int .u32 o) ∧ (Lit.int .u32 o).wf = true := by
      intro i hi
      obtain ⟨cs', h1, h2⟩ := hx i hi
      rw [ce] at h1
      obtain ⟨_, hlen, hcell⟩ := World.cells?_some h1
      match cs', hlen with
      | [v0], _ =>
        obtain ⟨b0, e0, _, w0⟩ := DataW.trod_int Tryd.underlying22 h2
        simp only [List.cons.injEq, and_true] at e0
        subst e0
        have q0 := hcell 0 (by omega)
        rw [add_add] at q0
        exact ⟨b0, by simpa using q0, w0⟩
    obtain ⟨q, hq⟩ := choose_lt each
    have e : ∀ i, i < len → uAt ((List.range len).map q) i = q i := fun i hi => by simp [uAt, List.getD, hi]
    refine ⟨some a, len, cap, (List.range len).map q, rfl, ⟨by simp, Nat.le_trans hl hm, fun i hi => ⟨a, rfl, ?_, fun j hj => ?_⟩⟩⟩
    · have hb2 := World.block_lt_of_cell? W _ (hq i (by omega)).1
      have hbl : (a.add i).block = a.block := by unfold Addr.add; split <;> rfl
      omega
    · have h1 : shU.get ((List.range len).map q) i = q i := e i hi
      rw [h1]
      obtain ⟨q0, _⟩ := hq i (by omega)
      match j, hj with
      | 0, _ =>
        rw [show i * shU.k + 0 = i by simp [shU]]
        exact q0
end Go.Proofs.YtjilpicpfddbfabDoor
