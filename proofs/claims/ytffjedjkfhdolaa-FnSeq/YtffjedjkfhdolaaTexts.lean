/-
  A word's four bytes give it back: impl's GetWord of impl's PutWord, at every word.
-/
import Derived.Test.YtffjedjkfhdolaaPut
import Derived.Test.YtffjedjkfhdolaaGet
namespace Go.Proofs.Ytffjedjkfhdolaa
open Go.ChangeShapes Go.WideShapes Go.ChangeAt Go.RowKit
set_option linter.unusedVariables false

theorem four_bytes (x : Int) (h0 : 0 ≤ x) (h1 : x < 4294967296) :
    ((UInt8.ofNat (x / 16777216).toNat).toNat : Int) * 16777216 + ((UInt8.ofNat (x / 65536 % 256).toNat).toNat : Int) * 65536 + ((UInt8.ofNat (x / 256 % 256).toNat).toNat : Int) * 256 + ((UInt8.ofNat (x % 256).toNat).toNat : Int) = x := by
  have e : ∀ n : Nat, (UInt8.ofNat n).toNat = n % 256 := fun n => by simp
  rw [e, e, e, e]
  omega

theorem wordText (x : Int) (hx : IsWord x) : ∃ s : ByteArray, s.size = 4 ∧
    (∀ w, Calls Try.prog 19 #[.int .u32 x] w fun e w' => e = .returned (.string s) ∧ Newer w w') ∧
    (∀ w, Calls Try.prog 18 #[.string s, .int .i64 0] w fun e w' => e = .returned (.int .u32 x) ∧ Newer w w') := by
  refine ⟨strOfNums [x / 16777216, x / 65536 % 256, x / 256 % 256, x % 256], by rw [strOfNums_size]; rfl, implPutWord x hx.1 hx.2, ?_⟩
  intro w
  have hsz : (strOfNums [x / 16777216, x / 65536 % 256, x / 256 % 256, x % 256]).size = 4 := by rw [strOfNums_size]; rfl
  have h := implGetIn (strOfNums [x / 16777216, x / 65536 % 256, x / 256 % 256, x % 256]) 0 (by omega) (by omega) w
  refine h.mono ?_
  rintro e w' ⟨rfl, hn⟩
  refine ⟨?_, hn⟩
  congr 2
  exact four_bytes x hx.1 hx.2
end Go.Proofs.Ytffjedjkfhdolaa
