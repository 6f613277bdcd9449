/- A part of the proof. -/
import Derived.Test.YtmigalhmlofbkaaGreatDoorM5
import Derived.Test.YtmigalhmlofbkaaGreatDoorRttW
import Derived.Deep.DeepCutAuto
set_option linter.unusedVariables false
set_option maxRecDepth 10000
namespace Go.Proofs.YtmigalhmlofbkaaGreatDoor
open Go.ChangeShapes Go.WideShapes Go.ChangeAt Go.RowKit
def endC (c:Cn) (y:Int):Cn:={c with st:=0,why:=y,agn:=0,prb:=0,rst:=0,owe:=false}
def smp (a:Bool) (s v d r:Int):Bool×Int×Int×Int:=if rttOk a s v d && decide (0≤r∧r≤100000) then (true,sampleS a s r,sampleV a s v r,0) else (false,0,0,0)
def timedC (c:Cn) (now:Int):Cn:={c with rA:=(smp c.rA c.rS c.rV c.rD (now - c.tat)).1,rS:=(smp c.rA c.rS c.rV c.rD (now - c.tat)).2.1,rV:=(smp c.rA c.rS c.rV c.rD (now - c.tat)).2.2.1,rD:=(smp c.rA c.rS c.rV c.rD (now - c.tat)).2.2.2,tmg:=false}
end Go.Proofs.YtmigalhmlofbkaaGreatDoor
