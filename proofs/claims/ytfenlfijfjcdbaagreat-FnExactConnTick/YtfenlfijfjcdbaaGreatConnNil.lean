/-
  The laws' functions over ends whose list of parts is none.
-/
import Derived.Test.YtfenlfijfjcdbaaGreatConnLaw
import Derived.Test.YtfenlfijfjcdbaaGreatM8
namespace Go.Proofs.YtfenlfijfjcdbaaGreat
open Go.ChangeShapes Go.WideShapes Go.ChangeAt Go.RowKit
set_option linter.unusedVariables false
set_option maxRecDepth 10000

theorem eqSegN (a b c d e f g : Int) (h : ByteArray) (w : World) :
    Calls Tryz.prog 42 #[.agg #[.int .i64 a, .int .i64 b, .int .u32 c, .int .u32 d, .int .i64 e, .int .i64 f, .int .i64 g, .string h], .agg #[.int .i64 a, .int .i64 b, .int .u32 c, .int .u32 d, .int .i64 e, .int .i64 f, .int .i64 g, .string h]] w fun x w' => x = .returned (.bool true) ∧ Since w w' := by
  go_enter Tryz.func42, Tryz.ntmps42
  go_wp2
  go_ret
  exact ⟨rfl, by repeat (first | exact Since.refl _ | apply Since.drew | apply Since.alloc)⟩
end Go.Proofs.YtfenlfijfjcdbaaGreat
