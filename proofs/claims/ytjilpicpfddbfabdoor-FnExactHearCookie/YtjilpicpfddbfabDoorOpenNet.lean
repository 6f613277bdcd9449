/-
  A net that came in as data, opened: its list of texts can be read.
-/
import Derived.Test.YtjilpicpfddbfabDoorRow
import Derived.Test.YtjilpicpfddbfabDoorAgg
import Derived.Carry
namespace Go.Proofs.YtjilpicpfddbfabDoor
open Go.ChangeShapes Go.WideShapes Go.ChangeAt Go.RowKit Go.Deep
set_option linter.unusedVariables false
set_option maxRecDepth 10000

theorem array1 {α : Type} {cs : Array α} (h : cs.size = 1) : ∃ c0, cs = #[c0] := by
  obtain ⟨l⟩ := cs
  match l, h with
  | [c0], _ => exact ⟨c0, rfl⟩

theorem list1 {α : Type} {l : List α} (h : l.length = 1) : ∃ c0, l = [c0] := by
  match l, h with
  | [c0], _ => exact ⟨c0, rfl⟩

theorem open_texts {H : Type} {enc : TypeId × Value → H} {P : Program} {w : World} {t e : TypeId} {fuel : Nat} {c : Value} {x : DataW H × List MemPlace} (ht : P.underlying t = some (.slice e)) (he : P.underlying e = some .string) (hc : P.cellsOf e = 1)
    (h : DataW.trod enc P w 0 (fun _ => true) true fuel t [c] = some x) : ∃ (a : Option Addr) (n cap : Nat) (ss : List ByteArray), c = .slice a n cap ∧ Reads w a n ss ∧ ∀ i, i < n → (txt ss i).size ≤ maxLen := by
  rcases open_strings ht he hc h with ⟨hcs, _⟩ | ⟨a, len, cap, ss, hcs, _, hl, hm, hz, _, hcell, hsz⟩
  · simp only [List.cons.injEq, and_true] at hcs
    exact ⟨none, 0, 0, [], hcs, ⟨rfl, Nat.zero_le _, fun i hi => by omega⟩, fun i hi => by omega⟩
  · simp only [List.cons.injEq, and_true] at hcs
    simp only [if_true] at hz
    have htx : ∀ i, i < len → txt (ss.take len) i = txt ss i := fun i hi => by simp [txt, List.getD, hi]
    refine ⟨some a, len, cap, ss.take len, hcs, ⟨by rw [List.length_take]; omega, Nat.le_trans hl hm, fun i hi => ⟨a, rfl, ?_, ?_⟩⟩, fun i hi => ?_⟩
    · have hb := World.block_lt_of_cell? w (a.add i) (hcell i (by omega))
      have hbl : (a.add i).block = a.block := by unfold Addr.add; split <;> rfl
      omega
    · rw [htx i hi]
      exact hcell i (by omega)
    · rw [htx i hi]
      refine hsz _ ?_
      have : i < ss.length := by omega
      simp [txt, List.getD, List.getElem?_eq_getElem this]
end Go.Proofs.YtjilpicpfddbfabDoor
