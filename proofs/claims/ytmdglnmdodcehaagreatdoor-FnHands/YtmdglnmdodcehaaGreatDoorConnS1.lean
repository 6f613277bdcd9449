/-
  What spec does to an end: it ends, and it takes the time of an answer.
-/
import Derived.Test.YtmdglnmdodcehaaGreatDoorM5
import Derived.Test.YtmdglnmdodcehaaGreatDoorRttW
import Derived.Deep.DeepCutAuto
namespace Go.Proofs.YtmdglnmdodcehaaGreatDoor
open Go.ChangeShapes Go.WideShapes Go.ChangeAt Go.RowKit
set_option linter.unusedVariables false
set_option maxRecDepth 10000

def endC (c:Cn) (y:Int):Cn:={c with st:=0,why:=y,agn:=0,prb:=0,rst:=0,owe:=false}

def smp (a:Bool) (s v d r:Int):Bool×Int×Int×Int:=if rttOk a s v d && decide (0≤r∧r≤100000) then (true,sampleS a s r,sampleV a s v r,0) else (false,0,0,0)

def timedC (c:Cn) (now:Int):Cn:={c with rA:=(smp c.rA c.rS c.rV c.rD (now - c.tat)).1,rS:=(smp c.rA c.rS c.rV c.rD (now - c.tat)).2.1,rV:=(smp c.rA c.rS c.rV c.rD (now - c.tat)).2.2.1,rD:=(smp c.rA c.rS c.rV c.rD (now - c.tat)).2.2.2,tmg:=false}
end Go.Proofs.YtmdglnmdodcehaaGreatDoor
