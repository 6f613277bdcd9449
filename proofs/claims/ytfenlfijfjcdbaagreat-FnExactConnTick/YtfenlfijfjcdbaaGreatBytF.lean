/-
  Bytes of texts that are cut and put together.
-/
import Derived.Test.YtfenlfijfjcdbaaGreatM4
namespace Go.Proofs.YtfenlfijfjcdbaaGreat
open Go.ChangeShapes Go.WideShapes Go.ChangeAt Go.RowKit
set_option linter.unusedVariables false
set_option maxRecDepth 10000

theorem bt_cut (s : ByteArray) (a b i : Nat) (hb : b ≤ s.size) (hi : a + i < b) : byteAt (s.extract a b) i = byteAt s (a + i) := by
  rw [byteAt_in _ _ (by rw [ByteArray.size_extract]; omega), byteAt_in _ _ (by omega), ByteArray.getElem_extract]

theorem textOf_ext (f g : Nat → Int) (n : Nat) (h : ∀ i, i < n → f i = g i) : textOf f n = textOf g n := by
  unfold textOf
  congr 1
  apply List.map_congr_left
  intro i hi
  exact h i (List.mem_range.1 hi)

theorem textOf_is (f : Nat → Int) (n : Nat) (s : ByteArray) (hn : s.size = n) (h : ∀ i, i < n → f i = byteAt s i) : textOf f n = s := by
  subst hn
  rw [textOf_ext f (byteAt s) _ h, textOf_bytes]
end Go.Proofs.YtfenlfijfjcdbaaGreat
