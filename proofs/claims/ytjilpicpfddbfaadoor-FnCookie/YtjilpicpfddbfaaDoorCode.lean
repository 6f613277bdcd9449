/-
  From the bytes that came in to what a law draws of them: the code's bytes, at, and the two words of l01Pair.
-/
import Derived.Test.YtjilpicpfddbfaaDoorDraws
namespace Go.Proofs.YtjilpicpfddbfaaDoor
open Go.ChangeShapes Go.WideShapes Go.ChangeAt Go.RowKit
set_option linter.unusedVariables false
set_option maxRecDepth 10000

theorem bytes_of_row {w : World} {a : Option Addr} {len cap : Nat} {zs : List Int}
    (h : (a = none ∧ len = 0 ∧ cap = 0 ∧ zs = []) ∨ ∃ x, a = some x ∧ len ≤ cap ∧ cap ≤ maxLen ∧ zs.length = cap ∧ (∀ i, i < zs.length → w.cell? (x.add i) = some (.int .u8 (zs.getD i 0))) ∧ ∀ n ∈ zs, (Lit.int .u8 n).wf = true) :
    Bytes w a len zs := by
  rcases h with ⟨_, h0, _, _⟩ | ⟨x, rfl, hl, hm, hz, hcell, hwz⟩
  · exact .inl h0
  · by_cases h0 : len = 0
    · exact .inl h0
    · obtain ⟨b, off, spot⟩ := x
      have hc := hcell 0 (by omega)
      have hspot : spot = none := by simpa [Addr.add] using World.cell?_spot hc
      subst hspot
      refine .inr ⟨b, off, rfl, by omega, fun i hi => ?_⟩
      have h1 := hcell i (by omega)
      have h2 : zs.getD i 0 ∈ zs := by
        rw [List.getD_eq_getElem?_getD, List.getElem?_eq_getElem (by omega : i < zs.length)]
        simp
      have h3 := bounds_u8 (hwz _ h2)
      have hplain : (⟨b, off, none⟩ : Addr).add i = ⟨b, off + i, none⟩ := by unfold Addr.add; split <;> simp_all
      rw [hplain] at h1
      exact ⟨h1, h3.1, h3.2⟩

theorem at_ (a : Option Addr) (len cap : Nat) (zs : List Int) (k : Nat) (hk : k ≤ 1000) (w0 : World) (hb : Bytes w0 a len zs) (hm : len ≤ 1048576) (w : World) (hw : Below w0.heap.size w0 w) :
    Calls Tryd.prog 11 #[.slice a len cap, .int .i64 (k : Int)] w fun e w' => e = .returned (.int .i64 (if k < len then zs.getD k 0 else ((k : Int) * 7 + len) % 256)) ∧ 0 ≤ (if k < len then zs.getD k 0 else ((k : Int) * 7 + len) % 256) ∧ (if k < len then zs.getD k 0 else ((k : Int) * 7 + len) % 256) ≤ 255 ∧ w = w' := by
  by_cases h : k < len
  · simp only [if_pos h]
    rcases hb with h0 | ⟨b, off, rfl, hl, hz⟩
    · omega
    · obtain ⟨h1, h2, h3⟩ := hz k h
      have hc := cell_later hw h1
      generalize zs.getD k 0 = z at hc h2 h3
      clear hz h1 hw
      have h' : (k : Int) < (len : Int) := by omega
      go_enter Tryd.func11, Tryd.ntmps11
      go_wp2
      go_ret
      exact ⟨rfl, h2, h3, rfl⟩
  · simp only [if_neg h]
    clear hb hw
    have h' : ¬ (k : Int) < (len : Int) := by omega
    go_enter Tryd.func11, Tryd.ntmps11
    go_wp2
    go_ret
    exact ⟨rfl, by omega, by omega, rfl⟩
end Go.Proofs.YtjilpicpfddbfaaDoor
