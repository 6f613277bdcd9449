/-
  Bytes of texts that are cut and put together.
-/
import Derived.Test.YtipaaddjpmlajaaGreatM4
namespace Go.Proofs.YtipaaddjpmlajaaGreat
open Go.ChangeShapes Go.WideShapes Go.ChangeAt Go.RowKit
set_option linter.unusedVariables false
set_option maxRecDepth 10000

theorem bt_cut (s : ByteArray) (a b i : Nat) (hb : b ≤ s.size) (hi : a + i < b) : byteAt (s.extract a b) i = byteAt s (a + i) := by
  rw [byteAt_in _ _ (by rw [ByteArray.size_extract]; omega), byteAt_in _ _ (by omega), ByteArray.getElem_extract]

theorem bt_left (a b : ByteArray) (i : Nat) (h : i < a.size) : byteAt (a ++ b) i = byteAt a i := by
  rw [byteAt_in _ _ (by rw [ByteArray.size_append]; omega), byteAt_in _ _ h, ByteArray.getElem_append_left h]

theorem bt_right (a b : ByteArray) (i : Nat) (h : i < b.size) : byteAt (a ++ b) (a.size + i) = byteAt b i := by
  rw [byteAt_in _ _ (by rw [ByteArray.size_append]; omega), byteAt_in _ _ h, ByteArray.getElem_append_right (by omega)]
  simp

theorem textOf_ext (f g : Nat → Int) (n : Nat) (h : ∀ i, i < n → f i = g i) : textOf f n = textOf g n := by
  unfold textOf
  congr 1
  apply List.map_congr_left
  intro i hi
  exact h i (List.mem_range.1 hi)

/-- A text told by its bytes. -/
theorem textOf_is (f : Nat → Int) (n : Nat) (s : ByteArray) (hn : s.size = n) (h : ∀ i, i < n → f i = byteAt s i) : textOf f n = s := by
  subst hn
  rw [textOf_ext f (byteAt s) _ h, textOf_bytes]

theorem textOf_join (f : Nat → Int) (n : Nat) (a b : ByteArray) (hn : a.size + b.size = n) (h1 : ∀ i, i < a.size → f i = byteAt a i) (h2 : ∀ i, i < b.size → f (a.size + i) = byteAt b i) : textOf f n = a ++ b := by
  refine textOf_is f n _ (by rw [ByteArray.size_append]; exact hn) fun i hi => ?_
  by_cases h : i < a.size
  · rw [h1 i h, bt_left _ _ _ h]
  · obtain ⟨j, rfl⟩ : ∃ j, i = a.size + j := ⟨i - a.size, by omega⟩
    rw [h2 j (by omega), bt_right _ _ _ (by omega)]
end Go.Proofs.YtipaaddjpmlajaaGreat
