/-
  Contracts of the laws' functions over buffers of bytes to be sent, and of impl's and spec's OutOk.
-/
import Derived.Test.YtnbopjlpemmkcaaGreatM2
import Derived.Test.YtnbopjlpemmkcaaGreatM6
import Derived.Test.YtnbopjlpemmkcaaGreatRows
import Derived.WalkKit
import Derived.ProofKit
import Derived.OpenShut
import Derived.ShutString
import Derived.Deep.Fields
namespace Go.Proofs.YtnbopjlpemmkcaaGreat
open Go.ChangeShapes Go.WideShapes Go.ChangeAt Go.RowKit Go.Deep
set_option linter.unusedVariables false
set_option maxRecDepth 10000

def outVal (f:Int) (d:ByteArray) (r:Int):Value:=.agg #[.int .u32 f,.string d,.int .i64 r]

def outOk (d:ByteArray) (r:Int):Bool:=decide (1≤r∧r≤4096) && decide ((d.size:Int)≤r)

theorem outOk_iff (d:ByteArray) (r:Int):outOk d r=true↔1≤r∧r≤4096∧(d.size:Int)≤r:=by
 unfold outOk
 simp
 omega

theorem toOut (f:Int) (d:ByteArray) (r:Int) (w:World) :
  Calls Tryz.prog 26 #[outVal f d r] w fun e w'=>e=.returned (outVal f d r)∧Since w w':=by
 unfold outVal
 go_enter Tryz.func26,Tryz.ntmps26
 go_wp2
 refine bodyPost_ret (v:=.agg #[.int .u32 f,.string d,.int .i64 r]) ?_ rfl ⟨rfl,by repeat (first|exact Since.refl _|apply Since.drew|apply Since.alloc)⟩
 simp [results,go_sem]

theorem szOut (f:Int) (d:ByteArray) (r:Int) (l:Int) (hl:0≤l∧l≤1048576) (hd:d.size≤9223372036854775807) (w:World) :
  Calls Tryz.prog 18 #[outVal f d r,.int .i64 l] w fun e w'=>e=.returned (.int .i64 (if (d.size:Int)≤l then l - d.size else -1))∧Since w w':=by
 unfold outVal
 by_cases h:(d.size:Int)≤l
 ·rw [if_pos h]
  go_enter Tryz.func18,Tryz.ntmps18
  go_wp2
  go_ret
  exact ⟨rfl,by repeat (first|exact Since.refl _|apply Since.drew|apply Since.alloc)⟩
 ·rw [if_neg h]
  go_enter Tryz.func18,Tryz.ntmps18
  go_wp2
  go_ret
  exact ⟨rfl,by repeat (first|exact Since.refl _|apply Since.drew|apply Since.alloc)⟩

theorem eqOut (f:Int) (d:ByteArray) (r:Int) (w:World) :
  Calls Tryz.prog 36 #[outVal f d r,outVal f d r] w fun e w'=>e=.returned (.bool true)∧Since w w':=by
 unfold outVal
 go_enter Tryz.func36,Tryz.ntmps36
 go_wp2
 go_ret
 exact ⟨rfl,((Since.refl _).alloc _).alloc _⟩

theorem isRoom (x:Int) (w:World) :
  Calls Tryz.prog 101 #[.int .i64 x] w fun e w'=>e=.returned (.bool (decide (1≤x∧x≤4096)))∧w=w':=by
 by_cases h1:1≤x
 ·have e1:decide (1≤x∧x≤4096)=decide (x≤4096):=by simp [h1]
  rw [e1]
  clear e1
  go_enter Tryz.func101,Tryz.ntmps101
  go_wp2
  go_ret
  exact ⟨rfl,rfl⟩
 ·have e1:decide (1≤x∧x≤4096)=false:=by simp [h1]
  rw [e1]
  clear e1
  go_enter Tryz.func101,Tryz.ntmps101
  go_wp2
  go_ret
  exact ⟨rfl,rfl⟩

theorem implOutOk (f:Int) (d:ByteArray) (r:Int) (w:World) :
  Calls Tryz.prog 86 #[outVal f d r] w fun e w'=>e=.returned (.bool (outOk d r))∧Since w w':=by
 unfold outVal outOk
 have i1:=fun wx=>isRoom r wx
 generalize decide (1≤r∧r≤4096)=b1 at i1 ⊢
 cases b1
 ·go_enter Tryz.func86,Tryz.ntmps86
  go_wp2_with (go_at_call 101;refine (i1 _).mono ?_;rintro _ _ ⟨rfl,rfl⟩)
  go_ret
  exact ⟨rfl,by repeat (first|exact Since.refl _|apply Since.drew|apply Since.alloc)⟩
 ·go_enter Tryz.func86,Tryz.ntmps86
  go_wp2_with (go_at_call 101;refine (i1 _).mono ?_;rintro _ _ ⟨rfl,rfl⟩)
  go_ret
  exact ⟨rfl,by repeat (first|exact Since.refl _|apply Since.drew|apply Since.alloc)⟩

theorem specOutOk (f:Int) (d:ByteArray) (r:Int) (w:World) :
  Calls Tryz.prog 47 #[outVal f d r] w fun e w'=>e=.returned (.bool (outOk d r))∧Since w w':=by
 unfold outVal outOk
 have i1:=fun wx=>specIn r 1 4096 wx
 generalize decide (1≤r∧r≤4096)=b1 at i1 ⊢
 cases b1
 ·go_enter Tryz.func47,Tryz.ntmps47
  go_wp2_with (go_at_call 46;refine (i1 _).mono ?_;rintro _ _ ⟨rfl,rfl⟩)
  go_ret
  exact ⟨rfl,by repeat (first|exact Since.refl _|apply Since.drew|apply Since.alloc)⟩
 ·go_enter Tryz.func47,Tryz.ntmps47
  go_wp2_with (go_at_call 46;refine (i1 _).mono ?_;rintro _ _ ⟨rfl,rfl⟩)
  go_ret
  exact ⟨rfl,by repeat (first|exact Since.refl _|apply Since.drew|apply Since.alloc)⟩
end Go.Proofs.YtnbopjlpemmkcaaGreat
