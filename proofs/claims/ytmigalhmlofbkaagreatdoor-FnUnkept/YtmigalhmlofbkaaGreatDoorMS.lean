/- A part of the proof. -/
import Derived.Test.YtmigalhmlofbkaaGreatDoorM9
import Derived.RegionTactic
set_option linter.unusedVariables false
set_option maxRecDepth 10000
namespace Go.Proofs.YtmigalhmlofbkaaGreatDoor
open Go.ChangeShapes Go.WideShapes Go.ChangeAt Go.RowKit Go.Deep
def putN (d:ByteArray) (r:Int) (s:ByteArray):Nat:=if outOk d r then min (r.toNat - d.size) s.size else 0
def putD (d:ByteArray) (r:Int) (s:ByteArray):ByteArray:=if outOk d r then d++s.extract 0 (putN d r s) else d
theorem stored3 {b:Nat} {x:World} {c0 c1 c2:Value} (B:Blk b x #[c0,c1,c2]) (v0 v1 v2:Value) :
  (((x.setCell ⟨b,0,none⟩ v0).setCell ⟨b,1,none⟩ v1).setCell ⟨b,2,none⟩ v2).cell? ⟨b,0,none⟩=some v0∧(((x.setCell ⟨b,0,none⟩ v0).setCell ⟨b,1,none⟩ v1).setCell ⟨b,2,none⟩ v2).cell? ⟨b,1,none⟩=some v1∧(((x.setCell ⟨b,0,none⟩ v0).setCell ⟨b,1,none⟩ v1).setCell ⟨b,2,none⟩ v2).cell? ⟨b,2,none⟩=some v2:=by
 have k:=((B.put 0 v0 (by simp)).put 1 v1 (by simp)).put 2 v2 (by simp)
 exact ⟨by simpa using k.cell 0,by simpa using k.cell 1,by simpa using k.cell 2⟩
theorem since_put3 {w x:World} {b:Nat} (h:Since w x) (hb:w.heap.size≤b) (v0 v1 v2:Value):Since w (((x.setCell ⟨b,0,none⟩ v0).setCell ⟨b,1,none⟩ v1).setCell ⟨b,2,none⟩ v2):=since_put1 (since_put1 (since_put1 h hb _ _) hb _ _) hb _ _
def takeT (f:Int) (d:ByteArray) (r q n at':Int):ByteArray:=if outOk d r=true∧(0≤n∧n≤4096)∧(0≤at'∧at'≤d.size) then d.extract at'.toNat (at'.toNat+min n.toNat (d.size - at'.toNat)) else ⟨#[]⟩
def doneOk (d:ByteArray) (r at':Int):Prop:=outOk d r=true∧0≤at'∧at'≤d.size
instance (d:ByteArray) (r at':Int):Decidable (doneOk d r at'):=by unfold doneOk;infer_instance
def doneF (f:Int) (d:ByteArray) (r q at':Int):Int:=if doneOk d r at' then q else f
def doneD (d:ByteArray) (r at':Int):ByteArray:=if doneOk d r at' then d.extract at'.toNat d.size else d
def doneN (d:ByteArray) (r at':Int):Int:=if doneOk d r at' then at' else 0
end Go.Proofs.YtmigalhmlofbkaaGreatDoor
