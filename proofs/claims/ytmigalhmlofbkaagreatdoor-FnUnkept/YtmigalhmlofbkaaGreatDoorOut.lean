/- A part of the proof. -/
import Derived.Test.YtmigalhmlofbkaaGreatDoorMB
import Derived.ShutString
import Derived.Deep.Fields
set_option linter.unusedVariables false
set_option maxRecDepth 10000
namespace Go.Proofs.YtmigalhmlofbkaaGreatDoor
open Go.ChangeShapes Go.WideShapes Go.ChangeAt Go.RowKit Go.Deep
def outVal (f:Int) (d:ByteArray) (r:Int):Value:=.agg #[.int .u32 f,.string d,.int .i64 r]
def outOk (d:ByteArray) (r:Int):Bool:=decide (1≤r∧r≤4096) && decide ((d.size:Int)≤r)
theorem outOk_iff (d:ByteArray) (r:Int):outOk d r=true↔1≤r∧r≤4096∧(d.size:Int)≤r:=by
 unfold outOk
 simp
 omega
theorem isRoom (x:Int) (w:World) :
  Calls Tryz.prog 21 #[.int .i64 x] w fun e w'=>e=.returned (.bool (decide (1≤x∧x≤4096)))∧w=w':=by
 by_cases h1:1≤x
 ·have e1:decide (1≤x∧x≤4096)=decide (x≤4096):=by simp [h1]
  rw [e1]
  clear e1
  go_enter Tryz.func21,Tryz.ntmps21
  go_wp2
  go_ret
  exact ⟨rfl,rfl⟩
 ·have e1:decide (1≤x∧x≤4096)=false:=by simp [h1]
  rw [e1]
  clear e1
  go_enter Tryz.func21,Tryz.ntmps21
  go_wp2
  go_ret
  exact ⟨rfl,rfl⟩
theorem isAmount (x:Int) (w:World) :
  Calls Tryz.prog 92 #[.int .i64 x] w fun e w'=>e=.returned (.bool (decide (0≤x∧x≤4096)))∧w=w':=by
 by_cases h1:0≤x
 ·have e1:decide (0≤x∧x≤4096)=decide (x≤4096):=by simp [h1]
  rw [e1]
  clear e1
  go_enter Tryz.func92,Tryz.ntmps92
  go_wp2
  go_ret
  exact ⟨rfl,rfl⟩
 ·have e1:decide (0≤x∧x≤4096)=false:=by simp [h1]
  rw [e1]
  clear e1
  go_enter Tryz.func92,Tryz.ntmps92
  go_wp2
  go_ret
  exact ⟨rfl,rfl⟩
theorem implOutOk (f:Int) (d:ByteArray) (r:Int) (w:World) :
  Calls Tryz.prog 77 #[outVal f d r] w fun e w'=>e=.returned (.bool (outOk d r))∧Since w w':=by
 unfold outVal outOk
 have i1:=fun wx=>isRoom r wx
 generalize decide (1≤r∧r≤4096)=b1 at i1 ⊢
 cases b1
 ·go_enter Tryz.func77,Tryz.ntmps77
  go_wp2_with (go_at_call 21;refine (i1 _).mono ?_;rintro _ _ ⟨rfl,rfl⟩)
  go_ret
  exact ⟨rfl,by repeat (first|exact Since.refl _|apply Since.drew|apply Since.alloc)⟩
 ·go_enter Tryz.func77,Tryz.ntmps77
  go_wp2_with (go_at_call 21;refine (i1 _).mono ?_;rintro _ _ ⟨rfl,rfl⟩)
  go_ret
  exact ⟨rfl,by repeat (first|exact Since.refl _|apply Since.drew|apply Since.alloc)⟩
end Go.Proofs.YtmigalhmlofbkaaGreatDoor
