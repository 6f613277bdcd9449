/-
  What a text must have to be a packet's bytes, and the packet that its fields tell.
-/
import Derived.Test.YtigjppamjfnmcaaM4
namespace Go.Proofs.Ytigjppamjfnmcaa
open Go.ChangeShapes Go.WideShapes Go.ChangeAt Go.RowKit
set_option linter.unusedVariables false

/-- What a header must have. -/
def readOk (s : ByteArray) : Prop := halfAt s 0 = 17664 ∧ halfAt s 2 = (s.size : Int) ∧ halfAt s 6 = 16384 ∧ halfAt s 10 = checksum (s.extract 0 10 ++ two 0 ++ s.extract 12 20)

/-- The packet that a text's fields tell. -/
def readVal (s : ByteArray) : Value := pktVal (wordAt s 12) (wordAt s 16) (halfAt s 4) (byteAt s 8) (byteAt s 9) (s.extract 20 s.size)

/-- Whether a text is a packet. -/
def isPkt (s : ByteArray) : Prop := (20 ≤ s.size ∧ s.size ≤ 2000) ∧ readOk s
end Go.Proofs.Ytigjppamjfnmcaa
