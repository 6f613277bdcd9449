/-
  Contract of impl's OnesSum, at every text.
-/
import Derived.Test.YtjilpicpfddbfaaDoorHalves
namespace Go.Proofs.YtjilpicpfddbfaaDoor
open Go.ChangeShapes Go.WideShapes Go.ChangeAt Go.RowKit Go.Shelf
attribute [local go_sem] Oper.semAt_some
set_option linter.unusedVariables false
set_option maxRecDepth 10000

/-- What OnesSum answers. -/
def ones (s : ByteArray) : Int := if 2000 < s.size then -1 else foldOf (part (byteAt s) s.size)

theorem keeps_putObj {Bn l : Nat} {W : World} (h : Bn < l) (o : Obj) : Keeps Bn W (W.putObj l o) :=
  ⟨by simp [World.putObj], World.cell?_of_block (World.putObj_heap_other (Nat.ne_of_lt h))⟩
end Go.Proofs.YtjilpicpfddbfaaDoor
