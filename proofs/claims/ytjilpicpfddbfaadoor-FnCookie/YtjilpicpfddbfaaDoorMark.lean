/-
  Contract of the laws' marks: markText answers a text that hangs on its number alone.
-/
import Derived.Test.YtjilpicpfddbfaaDoorRow
import Derived.Test.YtjilpicpfddbfaaDoorTurn
import Derived.Laws.Concat
import Derived.LoopTactic
namespace Go.Proofs.YtjilpicpfddbfaaDoor
open Go.ChangeShapes Go.WideShapes Go.ChangeAt Go.RowKit
set_option linter.unusedVariables false
set_option maxRecDepth 10000

/-- A digit's text. -/
def digOf (m : Nat) : ByteArray := textOf (fun _ => 48 + ((m % 10 : Nat) : Int)) 1

/-- The digits of m ahead of out. -/
def markGo : Nat → Nat → ByteArray → ByteArray
  | 0, _, out => out
  | f + 1, m, out => if m = 0 then out else markGo f (m / 10) (digOf m ++ out)

/-- The mark of a number. -/
def markOf (k : Int) : ByteArray := ⟨#[109]⟩ ++ markGo k.toNat k.toNat ⟨#[]⟩

theorem markGo_zero (f : Nat) (out : ByteArray) : markGo f 0 out = out := by
  cases f <;> simp [markGo]

theorem digOf_size (m : Nat) : (digOf m).size = 1 := textOf_size _ _
end Go.Proofs.YtjilpicpfddbfaaDoor
