/-
  Contracts of impl's and spec's Word and Unwrap, at every argument; no condition but that words are words and ints are ints.
-/
import Derived.Test.YtfenlfijfjcdbaaGreatM1
namespace Go.Proofs.YtfenlfijfjcdbaaGreat
open Go.ChangeShapes Go.WideShapes Go.ChangeAt Go.RowKit
set_option linter.unusedVariables false
set_option maxRecDepth 10000

def IsWordOf (n v : Int) : Prop := 0 ≤ v ∧ v < 4294967296 ∧ (n - v) % 4294967296 = 0

theorem implWord (n v : Int) (hv : IsWordOf n v) (w : World) :
    Calls Tryz.prog 124 #[.int .i64 n] w fun e w' => e = .returned (.int .u32 v) ∧ w = w' := by
  obtain ⟨h1, h2, h3⟩ := hv
  have e1 : n % 4294967296 = v := by omega
  go_enter Tryz.func124, Tryz.ntmps124
  go_wp2
  go_ret
  exact ⟨by simp [e1], rfl⟩
end Go.Proofs.YtfenlfijfjcdbaaGreat
