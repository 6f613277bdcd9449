/-
  The draw of two words: spec's l01Pair and DrawSeqLess.
-/
import Derived.Test.YtffjedjkfhdolaaCode
namespace Go.Proofs.Ytffjedjkfhdolaa
open Go.ChangeShapes Go.WideShapes Go.ChangeAt Go.RowKit
set_option linter.unusedVariables false

theorem pair (a : Option Addr) (len cap : Nat) (zs : List Int) (w : World) (hb : Bytes w a len zs) (hm : len ≤ 1048576) :
    Calls Try.prog 28 #[.slice a len cap] w fun e w' => ∃ x y : Int, e = .returned (.tuple #[.int .u32 x, .int .u32 y]) ∧ IsWord x ∧ IsWord y ∧ Below w.heap.size w w' := by
  have hnew := fun wx => drawNew a len cap zs w hb hm wx
  clear hb
  go_enter Try.func28, Try.ntmps28
  go_wp2_with (first | (go_at_call 34; refine (hnew _ (Below.refl _ _)).mono ?_; rintro _ w1 ⟨g, rfl, hg, hb1, hc1⟩) | (go_at_call 35; refine (drawWord _ (by assumption)).mono ?_; rintro _ w2 ⟨x, rfl, hx, hc2⟩) | (go_at_call 36; refine (drawNear _ (by assumption) _ (by assumption)).mono ?_; rintro _ w3 ⟨y, rfl, hy, hc3⟩))
  go_ret2
  exact ⟨x, y, rfl, hx, hy, hc3.bel⟩

theorem drawSeqLess (a : Option Addr) (len cap : Nat) (zs : List Int) (w : World) (hb : Bytes w a len zs) (hm : len ≤ 1048576) :
    Calls Try.prog 10 #[.slice a len cap] w fun e w' => ∃ x y : Int, e = .returned (.tuple #[.int .u32 x, .int .u32 y]) ∧ IsWord x ∧ IsWord y ∧ Below w.heap.size w w' := by
  have hp := pair a len cap zs w hb hm
  clear hb
  go_enter Try.func10, Try.ntmps10
  go_wp2_with (go_at_call 28; refine hp.mono ?_; rintro _ w1 ⟨x, y, rfl, hx, hy, hb1⟩)
  go_ret2
  exact ⟨x, y, rfl, hx, hy, hb1⟩
end Go.Proofs.Ytffjedjkfhdolaa
