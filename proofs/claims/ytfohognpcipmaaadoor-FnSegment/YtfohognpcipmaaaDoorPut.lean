/-
  Contracts of impl's and spec's PutWord and of the array of four bytes, at every word.
-/
import Derived.Test.YtfohognpcipmaaaDoorSeq
import Derived.WalkLawsBesides
import Derived.Laws.BytesArg
namespace Go.Proofs.YtfohognpcipmaaaDoor
open Go.ChangeShapes Go.WideShapes Go.ChangeAt Go.RowKit
set_option linter.unusedVariables false

theorem conv4 (a b c d : Int) (t : TypeId) (w : World) :
    (convert 22 9 (.slice (some ⟨w.heap.size, 0, none⟩) 4 4)).run Tryd.prog (w.alloc (.cells #[.int .u8 a, .int .u8 b, .int .u8 c, .int .u8 d] t)) = .ok (.string (strOfNums [a, b, c, d])) (w.alloc (.cells #[.int .u8 a, .int .u8 b, .int .u8 c, .int .u8 d] t)) := by
  refine run_convert_bytes_arg _ 22 5 Tryd.underlying22 Tryd.underlying5 _ 0 4 4 [a, b, c, d] rfl ?_ 9 Tryd.underlying9
  intro i hi
  rw [World.cell?_alloc_mark]
  match i, hi with
  | 0, _ => rfl
  | 1, _ => rfl
  | 2, _ => rfl
  | 3, _ => rfl

theorem bytesOf (x : Int) (hx : 0 ≤ x) (hx' : x < 4294967296) (w : World) :
    Calls Tryd.prog 44 #[.int .u32 x] w fun e w' => e = .returned (.agg #[.int .u8 (x / 16777216), .int .u8 (x / 65536 % 256), .int .u8 (x / 256 % 256), .int .u8 (x % 256)]) ∧ Newer w w' := by
  go_enter Tryd.func44, Tryd.ntmps44
  go_wp2
  refine bodyPost_ret (v := .agg #[.int .u8 (x / 16777216), .int .u8 (x / 65536 % 256), .int .u8 (x / 256 % 256), .int .u8 (x % 256)]) ?_ rfl ⟨rfl, by repeat (first | exact Newer.refl _ | apply Newer.drew | apply Newer.alloc)⟩
  simp [results, go_sem]

theorem text (a b c d : Int) (w : World) :
    Calls Tryd.prog 45 #[.agg #[.int .u8 a, .int .u8 b, .int .u8 c, .int .u8 d]] w fun e w' => e = .returned (.string (strOfNums [a, b, c, d])) ∧ Newer w w' := by
  have hc := conv4
  go_enter Tryd.func45, Tryd.ntmps45
  go_wp2
  go_ret
  exact ⟨rfl, by repeat (first | exact Newer.refl _ | apply Newer.drew | apply Newer.alloc)⟩

theorem implPutWord (x : Int) (hx : 0 ≤ x) (hx' : x < 4294967296) (w : World) :
    Calls Tryd.prog 20 #[.int .u32 x] w fun e w' => e = .returned (.string (strOfNums [x / 16777216, x / 65536 % 256, x / 256 % 256, x % 256])) ∧ Newer w w' := by
  go_enter Tryd.func20, Tryd.ntmps20
  go_wp2_with (first | (go_at_call 44; refine (bytesOf x hx hx' _).mono ?_; rintro _ w1 ⟨rfl, g1⟩) | (go_at_call 45; refine (text _ _ _ _ _).mono ?_; rintro _ w2 ⟨rfl, g2⟩))
  go_ret
  exact ⟨rfl, Newer.trans g1 g2⟩
end Go.Proofs.YtfohognpcipmaaaDoor
