/-
  Pipes: the laws' functions over them, and both sides' PipeOk, RelayStart and RelayHeld.
  Two pipes: the laws' functions over them, and both sides' RelayStart and RelayHeld.
-/
import Derived.Test.YtnbopjlpemmkcaaGreatM2
import Derived.Test.YtnbopjlpemmkcaaGreatM6
import Derived.Test.YtnbopjlpemmkcaaGreatRows
import Derived.WalkKit
import Derived.ProofKit
import Derived.OpenShut
import Derived.ShutString
import Derived.Deep.Fields
import Derived.Test.YtnbopjlpemmkcaaGreatM10
import Derived.Test.YtnbopjlpemmkcaaGreatM16
import Derived.Great.BuildSlice
import Derived.Deep.DeepCutAuto
namespace Go.Proofs.YtnbopjlpemmkcaaGreat
open Go.ChangeShapes Go.WideShapes Go.ChangeAt Go.RowKit Go.Deep
set_option linter.unusedVariables false
set_option maxRecDepth 10000

def ppVal (r:Int) (d:ByteArray) (e:Bool) (n:Int):Value:=.agg #[.int .i64 r,.string d,.bool e,.int .i64 n]

def rlVal (r:Int) (d:ByteArray) (e:Bool) (n:Int) (s:Int) (f:ByteArray) (g:Bool) (m:Int):Value:=.agg #[.int .i64 r,.string d,.bool e,.int .i64 n,.int .i64 s,.string f,.bool g,.int .i64 m]

def pipeOk (r:Int) (d:ByteArray) (n:Int):Bool:=decide (1≤r∧r≤2048) && (decide ((d.size:Int)≤r) && decide (0≤n∧n≤1000000000))

theorem pipeOk_iff (r:Int) (d:ByteArray) (n:Int):pipeOk r d n=true↔1≤r∧r≤2048∧(d.size:Int)≤r∧0≤n∧n≤1000000000:=by
 unfold pipeOk
 simp
 omega

theorem toPipe (r:Int) (d:ByteArray) (e:Bool) (n:Int) (w:World) :
  Calls Tryz.prog 25 #[ppVal r d e n] w fun x w'=>x=.returned (ppVal r d e n)∧Since w w':=by
 unfold ppVal
 go_enter Tryz.func25,Tryz.ntmps25
 go_wp2
 refine bodyPost_ret (v:=.agg #[.int .i64 r,.string d,.bool e,.int .i64 n]) ?_ rfl ⟨rfl,by repeat (first|exact Since.refl _|apply Since.drew|apply Since.alloc)⟩
 simp [results,go_sem]

theorem szPipe (r:Int) (d:ByteArray) (e:Bool) (n:Int) (l:Int) (hl:0≤l∧l≤1048576) (hd:d.size≤9223372036854775807) (w:World) :
  Calls Tryz.prog 17 #[ppVal r d e n,.int .i64 l] w fun x w'=>x=.returned (.int .i64 (if (d.size:Int)≤l then l - d.size else -1))∧Since w w':=by
 unfold ppVal
 by_cases h:(d.size:Int)≤l
 ·rw [if_pos h]
  go_enter Tryz.func17,Tryz.ntmps17
  go_wp2
  go_ret
  exact ⟨rfl,by repeat (first|exact Since.refl _|apply Since.drew|apply Since.alloc)⟩
 ·rw [if_neg h]
  go_enter Tryz.func17,Tryz.ntmps17
  go_wp2
  go_ret
  exact ⟨rfl,by repeat (first|exact Since.refl _|apply Since.drew|apply Since.alloc)⟩

theorem eqPipe (r:Int) (d:ByteArray) (e:Bool) (n:Int) (w:World) :
  Calls Tryz.prog 35 #[ppVal r d e n,ppVal r d e n] w fun x w'=>x=.returned (.bool true)∧Since w w':=by
 unfold ppVal
 go_enter Tryz.func35,Tryz.ntmps35
 go_wp2
 go_ret
 exact ⟨rfl,by repeat (first|exact Since.refl _|apply Since.drew|apply Since.alloc)⟩

theorem isPipeRoom (x:Int) (w:World) :
  Calls Tryz.prog 61 #[.int .i64 x] w fun e w'=>e=.returned (.bool (decide (1≤x∧x≤2048)))∧w=w':=by
 go_enter Tryz.func61,Tryz.ntmps61
 go_wp2
 all_goals go_ret
 all_goals refine ⟨ret_bool ?_,by first|rfl|simp [*]⟩
 all_goals rw [Bool.eq_iff_iff]
 all_goals simp [*]
 all_goals omega

theorem implPipeOk (r:Int) (d:ByteArray) (e:Bool) (n:Int) (w:World) :
  Calls Tryz.prog 31 #[ppVal r d e n] w fun x w'=>x=.returned (.bool (pipeOk r d n))∧Since w w':=by
 unfold ppVal pipeOk
 have i1:=fun wx=>isPipeRoom r wx
 have i2:=fun wx=>isWithin n 1000000000 wx
 generalize decide (1≤r∧r≤2048)=b1 at i1 ⊢
 generalize decide (0≤n∧n≤1000000000)=b2 at i2 ⊢
 go_enter Tryz.func31,Tryz.ntmps31
 cases b1
 ·go_wp2_with (go_at_call 61;refine (i1 _).mono ?_;rintro _ _ ⟨rfl,rfl⟩)
  go_ret
  exact ⟨rfl,by repeat (first|exact Since.refl _|apply Since.drew|apply Since.alloc)⟩
 by_cases h:(d.size:Int)≤r
 ·have e1:decide ((d.size:Int)≤r)=true:=by simp [h]
  rw [e1]
  go_wp2_with (first|(go_at_call 61;refine (i1 _).mono ?_;rintro _ _ ⟨rfl,rfl⟩)|(go_at_call 62;refine (i2 _).mono ?_;rintro _ _ ⟨rfl,rfl⟩))
  go_ret
  exact ⟨rfl,by repeat (first|exact Since.refl _|apply Since.drew|apply Since.alloc)⟩
 ·have e1:decide ((d.size:Int)≤r)=false:=by simp [h]
  rw [e1]
  go_wp2_with (go_at_call 61;refine (i1 _).mono ?_;rintro _ _ ⟨rfl,rfl⟩)
  go_ret
  exact ⟨rfl,by repeat (first|exact Since.refl _|apply Since.drew|apply Since.alloc)⟩

theorem specPipeOk (r:Int) (d:ByteArray) (e:Bool) (n:Int) (w:World) :
  Calls Tryz.prog 21 #[ppVal r d e n] w fun x w'=>x=.returned (.bool (pipeOk r d n))∧Since w w':=by
 unfold ppVal pipeOk
 have i1:=fun wx=>specIn r 1 2048 wx
 have i2:=fun wx=>specIn n 0 1000000000 wx
 generalize decide (1≤r∧r≤2048)=b1 at i1 ⊢
 generalize decide (0≤n∧n≤1000000000)=b2 at i2 ⊢
 go_enter Tryz.func21,Tryz.ntmps21
 cases b1
 ·go_wp2_with (go_at_call 46;refine (i1 _).mono ?_;rintro _ _ ⟨rfl,rfl⟩)
  go_ret
  exact ⟨rfl,by repeat (first|exact Since.refl _|apply Since.drew|apply Since.alloc)⟩
 by_cases h:(d.size:Int)≤r
 ·have e1:decide ((d.size:Int)≤r)=true:=by simp [h]
  rw [e1]
  go_wp2_with (first|(go_at_call 46;refine (i1 _).mono ?_;clear i1;rintro _ _ ⟨rfl,rfl⟩)|(go_at_call 46;refine (i2 _).mono ?_;rintro _ _ ⟨rfl,rfl⟩))
  go_ret
  exact ⟨rfl,by repeat (first|exact Since.refl _|apply Since.drew|apply Since.alloc)⟩
 ·have e1:decide ((d.size:Int)≤r)=false:=by simp [h]
  rw [e1]
  go_wp2_with (go_at_call 46;refine (i1 _).mono ?_;rintro _ _ ⟨rfl,rfl⟩)
  go_ret
  exact ⟨rfl,by repeat (first|exact Since.refl _|apply Since.drew|apply Since.alloc)⟩
end Go.Proofs.YtnbopjlpemmkcaaGreat

namespace Go.Proofs.YtnbopjlpemmkcaaGreat
open Go.ChangeShapes Go.WideShapes Go.ChangeAt Go.RowKit Go.Deep
set_option linter.unusedVariables false
set_option maxRecDepth 10000
set_option linter.unusedSimpArgs false

theorem pp_big:IsBig 40 4:=⟨⟨_,Tryz.underlying40,rfl⟩,by kernel_rfl⟩

theorem lpp_big:IsBig 23 4:=⟨⟨_,Tryz.underlying23,rfl⟩,by kernel_rfl⟩

theorem rl_big:IsBig 42 8:=⟨⟨_,Tryz.underlying42,rfl⟩,by kernel_rfl⟩

theorem lrl_big:IsBig 25 8:=⟨⟨_,Tryz.underlying25,rfl⟩,by kernel_rfl⟩

theorem eqRelay (r:Int) (d:ByteArray) (e:Bool) (n:Int) (s:Int) (f:ByteArray) (g:Bool) (m:Int) (w:World) :
  Calls Tryz.prog 10 #[rlVal r d e n s f g m,rlVal r d e n s f g m] w fun x w'=>x=.returned (.bool true)∧Since w w':=by
 have h1:=fun wx=>eqPipe r d e n wx
 have h2:=fun wx=>eqPipe s f g m wx
 unfold ppVal at h1 h2
 unfold rlVal
 have G:=Since.refl w
 go_enter Tryz.func10,Tryz.ntmps10
 go_upto_region 0 with (fail)
 refine wp_region_lit ?_
 refine step_val (w':=w.alloc (.cells (#[.int .i64 r,.string d,.bool e,.int .i64 n,.int .i64 s,.string f,.bool g,.int .i64 m]) 42)) rfl (.pointer (some ⟨w.heap.size,0,none⟩)) (by kernel_rfl) ?_
 have qB2:=Blk.new w (#[.int .i64 r,.string d,.bool e,.int .i64 n,.int .i64 s,.string f,.bool g,.int .i64 m]) 42
 have qg3:=(Since.refl w).alloc (.cells (#[.int .i64 r,.string d,.bool e,.int .i64 n,.int .i64 s,.string f,.bool g,.int .i64 m]) 42)
 replace G:=G.trans qg3
 generalize w.alloc (.cells (#[.int .i64 r,.string d,.bool e,.int .i64 n,.int .i64 s,.string f,.bool g,.int .i64 m]) 42)=qw1 at  G qB2 qg3 ⊢
 have qB2_l:=qB2.lt
 have qg3_s:=qg3.size
 refine step_val (w':=qw1.alloc (.cells (#[.int .i64 r,.string d,.bool e,.int .i64 n,.int .i64 s,.string f,.bool g,.int .i64 m]) 42)) rfl (.pointer (some ⟨qw1.heap.size,0,none⟩)) (by kernel_rfl) ?_
 have qB5:=Blk.new qw1 (#[.int .i64 r,.string d,.bool e,.int .i64 n,.int .i64 s,.string f,.bool g,.int .i64 m]) 42
 have qg6:=(Since.refl qw1).alloc (.cells (#[.int .i64 r,.string d,.bool e,.int .i64 n,.int .i64 s,.string f,.bool g,.int .i64 m]) 42)
 replace qB2:=qB2.since qg6
 replace G:=G.trans qg6
 generalize qw1.alloc (.cells (#[.int .i64 r,.string d,.bool e,.int .i64 n,.int .i64 s,.string f,.bool g,.int .i64 m]) 42)=qw4 at qB2 G qB5 qg6 ⊢
 have qB5_l:=qB5.lt
 have qg6_s:=qg6.size
 refine step_val (w':=qw4) rfl (.bool false) (by kernel_rfl) ?_
 refine wpList_frame (a':={tmps:=#[.agg #[.int .i64 r,.string d,.bool e,.int .i64 n,.int .i64 s,.string f,.bool g,.int .i64 m],.agg #[.int .i64 r,.string d,.bool e,.int .i64 n,.int .i64 s,.string f,.bool g,.int .i64 m],.pointer (some ⟨w.heap.size,0,none⟩),.pointer (some ⟨qw1.heap.size,0,none⟩),.bool false,undef,undef,undef,undef,undef,undef,undef,undef,undef,undef,undef,undef],defers:=[]}) (by kernel_rfl) ?_
 go_upto_region 1 with (fail)
 refine wp_region_lit ?_
 refine step_val (w':=qw4) rfl (.pointer (some ⟨w.heap.size,0,none⟩)) (by kernel_rfl) ?_
 refine load_part qB2 rfl pp_big _ rfl 0 rfl [.int .i64 r,.string d,.bool e,.int .i64 n] rfl (fun j v hj=>by match j,hj with|0,h=>exact h|1,h=>exact h|2,h=>exact h|3,h=>exact h|n+4,h=>exact absurd h (by simp)) ?_
 refine step_val (w':=qw4) rfl (.pointer (some ⟨qw1.heap.size,0,none⟩)) (by kernel_rfl) ?_
 refine wpList_frame (a':={tmps:=#[.agg #[.int .i64 r,.string d,.bool e,.int .i64 n,.int .i64 s,.string f,.bool g,.int .i64 m],.agg #[.int .i64 r,.string d,.bool e,.int .i64 n,.int .i64 s,.string f,.bool g,.int .i64 m],.pointer (some ⟨w.heap.size,0,none⟩),.pointer (some ⟨qw1.heap.size,0,none⟩),.bool false,.pointer (some ⟨w.heap.size,0,none⟩),.agg #[.int .i64 r,.string d,.bool e,.int .i64 n],.pointer (some ⟨qw1.heap.size,0,none⟩),undef,undef,undef,undef,undef,undef,undef,undef,undef],defers:=[]}) (by kernel_rfl) ?_
 refine load_part qB5 rfl pp_big _ rfl 0 rfl [.int .i64 r,.string d,.bool e,.int .i64 n] rfl (fun j v hj=>by match j,hj with|0,h=>exact h|1,h=>exact h|2,h=>exact h|3,h=>exact h|n+4,h=>exact absurd h (by simp)) ?_
 refine call_step rfl 35 #[.agg #[.int .i64 r,.string d,.bool e,.int .i64 n],.agg #[.int .i64 r,.string d,.bool e,.int .i64 n]] (by kernel_rfl) (h1 _) ?_
 rintro _ qw7 ⟨rfl,qg8⟩
 refine ⟨_,rfl,?_⟩
 replace qB2:=qB2.since qg8
 replace qB5:=qB5.since qg8
 replace G:=G.trans qg8
 have qg8_s:=qg8.size
 refine step_val (w':=qw7) rfl (.bool false) (by kernel_rfl) ?_
 refine wpList_frame (a':={tmps:=#[.agg #[.int .i64 r,.string d,.bool e,.int .i64 n,.int .i64 s,.string f,.bool g,.int .i64 m],.agg #[.int .i64 r,.string d,.bool e,.int .i64 n,.int .i64 s,.string f,.bool g,.int .i64 m],.pointer (some ⟨w.heap.size,0,none⟩),.pointer (some ⟨qw1.heap.size,0,none⟩),.bool false,.pointer (some ⟨w.heap.size,0,none⟩),.agg #[.int .i64 r,.string d,.bool e,.int .i64 n],.pointer (some ⟨qw1.heap.size,0,none⟩),.agg #[.int .i64 r,.string d,.bool e,.int .i64 n],.bool true,.bool false,undef,undef,undef,undef,undef,undef],defers:=[]}) (by kernel_rfl) ?_
 go_upto_region 3 with (fail)
 refine wp_region_lit ?_
 refine step_val (w':=qw7) rfl (.pointer (some ⟨w.heap.size,4,none⟩)) (by kernel_rfl) ?_
 refine load_part qB2 rfl pp_big _ rfl 4 rfl [.int .i64 s,.string f,.bool g,.int .i64 m] rfl (fun j v hj=>by match j,hj with|0,h=>exact h|1,h=>exact h|2,h=>exact h|3,h=>exact h|n+4,h=>exact absurd h (by simp)) ?_
 refine step_val (w':=qw7) rfl (.pointer (some ⟨qw1.heap.size,4,none⟩)) (by kernel_rfl) ?_
 refine wpList_frame (a':={tmps:=#[.agg #[.int .i64 r,.string d,.bool e,.int .i64 n,.int .i64 s,.string f,.bool g,.int .i64 m],.agg #[.int .i64 r,.string d,.bool e,.int .i64 n,.int .i64 s,.string f,.bool g,.int .i64 m],.pointer (some ⟨w.heap.size,0,none⟩),.pointer (some ⟨qw1.heap.size,0,none⟩),.bool false,.pointer (some ⟨w.heap.size,0,none⟩),.agg #[.int .i64 r,.string d,.bool e,.int .i64 n],.pointer (some ⟨qw1.heap.size,0,none⟩),.agg #[.int .i64 r,.string d,.bool e,.int .i64 n],.bool true,.bool false,.pointer (some ⟨w.heap.size,4,none⟩),.agg #[.int .i64 s,.string f,.bool g,.int .i64 m],.pointer (some ⟨qw1.heap.size,4,none⟩),undef,undef,undef],defers:=[]}) (by kernel_rfl) ?_
 refine load_part qB5 rfl pp_big _ rfl 4 rfl [.int .i64 s,.string f,.bool g,.int .i64 m] rfl (fun j v hj=>by match j,hj with|0,h=>exact h|1,h=>exact h|2,h=>exact h|3,h=>exact h|n+4,h=>exact absurd h (by simp)) ?_
 refine call_step rfl 35 #[.agg #[.int .i64 s,.string f,.bool g,.int .i64 m],.agg #[.int .i64 s,.string f,.bool g,.int .i64 m]] (by kernel_rfl) (h2 _) ?_
 rintro _ qw9 ⟨rfl,qg10⟩
 refine ⟨_,rfl,?_⟩
 replace qB2:=qB2.since qg10
 replace qB5:=qB5.since qg10
 replace G:=G.trans qg10
 have qg10_s:=qg10.size
 refine step_val (w':=qw9) rfl (.bool false) (by kernel_rfl) ?_
 refine wpList_frame (a':={tmps:=#[.agg #[.int .i64 r,.string d,.bool e,.int .i64 n,.int .i64 s,.string f,.bool g,.int .i64 m],.agg #[.int .i64 r,.string d,.bool e,.int .i64 n,.int .i64 s,.string f,.bool g,.int .i64 m],.pointer (some ⟨w.heap.size,0,none⟩),.pointer (some ⟨qw1.heap.size,0,none⟩),.bool false,.pointer (some ⟨w.heap.size,0,none⟩),.agg #[.int .i64 r,.string d,.bool e,.int .i64 n],.pointer (some ⟨qw1.heap.size,0,none⟩),.agg #[.int .i64 r,.string d,.bool e,.int .i64 n],.bool true,.bool false,.pointer (some ⟨w.heap.size,4,none⟩),.agg #[.int .i64 s,.string f,.bool g,.int .i64 m],.pointer (some ⟨qw1.heap.size,4,none⟩),.agg #[.int .i64 s,.string f,.bool g,.int .i64 m],.bool true,.bool false],defers:=[]}) (by kernel_rfl) ?_
 go_wp2_with (fail)
 go_ret
 exact ⟨rfl,G⟩

theorem toRelay (r:Int) (d:ByteArray) (e:Bool) (n:Int) (s:Int) (f:ByteArray) (g:Bool) (m:Int) (w:World) :
  Calls Tryz.prog 7 #[rlVal r d e n s f g m] w fun x w'=>x=.returned (rlVal r d e n s f g m)∧Since w w':=by
 have h1:=fun wx=>toPipe r d e n wx
 have h2:=fun wx=>toPipe s f g m wx
 unfold ppVal at h1 h2
 unfold rlVal
 have G:=Since.refl w
 go_enter Tryz.func7,Tryz.ntmps7
 go_upto_region 0 with (fail)
 refine wp_region_lit ?_
 refine step_val (w':=w.alloc (.cells (#[.int .i64 r,.string d,.bool e,.int .i64 n,.int .i64 s,.string f,.bool g,.int .i64 m]) 25)) rfl (.pointer (some ⟨w.heap.size,0,none⟩)) (by kernel_rfl) ?_
 have qB2:=Blk.new w (#[.int .i64 r,.string d,.bool e,.int .i64 n,.int .i64 s,.string f,.bool g,.int .i64 m]) 25
 have qg3:=(Since.refl w).alloc (.cells (#[.int .i64 r,.string d,.bool e,.int .i64 n,.int .i64 s,.string f,.bool g,.int .i64 m]) 25)
 replace G:=G.trans qg3
 generalize w.alloc (.cells (#[.int .i64 r,.string d,.bool e,.int .i64 n,.int .i64 s,.string f,.bool g,.int .i64 m]) 25)=qw1 at  G qB2 qg3 ⊢
 have qB2_l:=qB2.lt
 have qg3_s:=qg3.size
 refine step_val (w':=qw1.alloc (.cells (#[.int .i64 0,.string ByteArray.empty,.bool false,.int .i64 0,.int .i64 0,.string ByteArray.empty,.bool false,.int .i64 0]) 42)) rfl (.pointer (some ⟨qw1.heap.size,0,none⟩)) (by kernel_rfl) ?_
 have qB5:=Blk.new qw1 (#[.int .i64 0,.string ByteArray.empty,.bool false,.int .i64 0,.int .i64 0,.string ByteArray.empty,.bool false,.int .i64 0]) 42
 have qg6:=(Since.refl qw1).alloc (.cells (#[.int .i64 0,.string ByteArray.empty,.bool false,.int .i64 0,.int .i64 0,.string ByteArray.empty,.bool false,.int .i64 0]) 42)
 replace qB2:=qB2.since qg6
 replace G:=G.trans qg6
 generalize qw1.alloc (.cells (#[.int .i64 0,.string ByteArray.empty,.bool false,.int .i64 0,.int .i64 0,.string ByteArray.empty,.bool false,.int .i64 0]) 42)=qw4 at qB2 G qB5 qg6 ⊢
 have qB5_l:=qB5.lt
 have qg6_s:=qg6.size
 refine wpList_frame (a':={tmps:=#[.agg #[.int .i64 r,.string d,.bool e,.int .i64 n,.int .i64 s,.string f,.bool g,.int .i64 m],.pointer (some ⟨w.heap.size,0,none⟩),.pointer (some ⟨qw1.heap.size,0,none⟩),undef,undef,undef,undef,undef,undef,undef,undef,undef,undef],defers:=[]}) (by kernel_rfl) ?_
 go_upto_region 1 with (fail)
 refine wp_region_lit ?_
 refine step_val (w':=qw4.alloc (.cells (#[.int .i64 0,.string ByteArray.empty,.bool false,.int .i64 0,.int .i64 0,.string ByteArray.empty,.bool false,.int .i64 0]) 42)) rfl (.pointer (some ⟨qw4.heap.size,0,none⟩)) (by kernel_rfl) ?_
 have qB8:=Blk.new qw4 (#[.int .i64 0,.string ByteArray.empty,.bool false,.int .i64 0,.int .i64 0,.string ByteArray.empty,.bool false,.int .i64 0]) 42
 have qg9:=(Since.refl qw4).alloc (.cells (#[.int .i64 0,.string ByteArray.empty,.bool false,.int .i64 0,.int .i64 0,.string ByteArray.empty,.bool false,.int .i64 0]) 42)
 replace qB2:=qB2.since qg9
 replace qB5:=qB5.since qg9
 replace G:=G.trans qg9
 generalize qw4.alloc (.cells (#[.int .i64 0,.string ByteArray.empty,.bool false,.int .i64 0,.int .i64 0,.string ByteArray.empty,.bool false,.int .i64 0]) 42)=qw7 at qB2 qB5 G qB8 qg9 ⊢
 have qB8_l:=qB8.lt
 have qg9_s:=qg9.size
 refine wpList_frame (a':={tmps:=#[.agg #[.int .i64 r,.string d,.bool e,.int .i64 n,.int .i64 s,.string f,.bool g,.int .i64 m],.pointer (some ⟨w.heap.size,0,none⟩),.pointer (some ⟨qw1.heap.size,0,none⟩),.pointer (some ⟨qw4.heap.size,0,none⟩),undef,undef,undef,undef,undef,undef,undef,undef,undef],defers:=[]}) (by kernel_rfl) ?_
 go_upto_region 2 with (fail)
 refine wp_region_lit ?_
 refine step_val (w':=qw7) rfl (.pointer (some ⟨w.heap.size,0,none⟩)) (by kernel_rfl) ?_
 refine load_part qB2 rfl lpp_big _ rfl 0 rfl [.int .i64 r,.string d,.bool e,.int .i64 n] rfl (fun j v hj=>by match j,hj with|0,h=>exact h|1,h=>exact h|2,h=>exact h|3,h=>exact h|n+4,h=>exact absurd h (by simp)) ?_
 refine call_step rfl 25 #[.agg #[.int .i64 r,.string d,.bool e,.int .i64 n]] (by kernel_rfl) (h1 _) ?_
 rintro _ qw10 ⟨rfl,qg11⟩
 refine ⟨_,rfl,?_⟩
 replace qB2:=qB2.since qg11
 replace qB5:=qB5.since qg11
 replace qB8:=qB8.since qg11
 replace G:=G.trans qg11
 have qg11_s:=qg11.size
 refine step_val (w':=qw10) rfl (.pointer (some ⟨qw4.heap.size,0,none⟩)) (by kernel_rfl) ?_
 refine wpList_frame (a':={tmps:=#[.agg #[.int .i64 r,.string d,.bool e,.int .i64 n,.int .i64 s,.string f,.bool g,.int .i64 m],.pointer (some ⟨w.heap.size,0,none⟩),.pointer (some ⟨qw1.heap.size,0,none⟩),.pointer (some ⟨qw4.heap.size,0,none⟩),.pointer (some ⟨w.heap.size,0,none⟩),.agg #[.int .i64 r,.string d,.bool e,.int .i64 n],.agg #[.int .i64 r,.string d,.bool e,.int .i64 n],.pointer (some ⟨qw4.heap.size,0,none⟩),undef,undef,undef,undef,undef],defers:=[]}) (by kernel_rfl) ?_
 refine store_part (cs':=#[.int .i64 r,.string d,.bool e,.int .i64 n,.int .i64 0,.string ByteArray.empty,.bool false,.int .i64 0]) qB8 rfl pp_big _ _ rfl 0 rfl #[.int .i64 r,.string d,.bool e,.int .i64 n] rfl rfl (by simp [Value.oneCell']) (by show 4≤8;decide) rfl ?_
 intro qw12 qt13 qB14
 clear qB8
 replace qB2:=qB2.touch qt13 (by omega)
 replace qB5:=qB5.touch qt13 (by omega)
 replace G:=since_touch G qt13 (by omega)
 have qt13_s:=qt13.size
 refine wpList_frame (a':={tmps:=#[.agg #[.int .i64 r,.string d,.bool e,.int .i64 n,.int .i64 s,.string f,.bool g,.int .i64 m],.pointer (some ⟨w.heap.size,0,none⟩),.pointer (some ⟨qw1.heap.size,0,none⟩),.pointer (some ⟨qw4.heap.size,0,none⟩),.pointer (some ⟨w.heap.size,0,none⟩),.agg #[.int .i64 r,.string d,.bool e,.int .i64 n],.agg #[.int .i64 r,.string d,.bool e,.int .i64 n],.pointer (some ⟨qw4.heap.size,0,none⟩),undef,undef,undef,undef,undef],defers:=[]}) (by kernel_rfl) ?_
 go_upto_region 3 with (fail)
 refine wp_region_lit ?_
 refine step_val (w':=qw12) rfl (.pointer (some ⟨w.heap.size,4,none⟩)) (by kernel_rfl) ?_
 refine load_part qB2 rfl lpp_big _ rfl 4 rfl [.int .i64 s,.string f,.bool g,.int .i64 m] rfl (fun j v hj=>by match j,hj with|0,h=>exact h|1,h=>exact h|2,h=>exact h|3,h=>exact h|n+4,h=>exact absurd h (by simp)) ?_
 refine call_step rfl 25 #[.agg #[.int .i64 s,.string f,.bool g,.int .i64 m]] (by kernel_rfl) (h2 _) ?_
 rintro _ qw15 ⟨rfl,qg16⟩
 refine ⟨_,rfl,?_⟩
 replace qB2:=qB2.since qg16
 replace qB5:=qB5.since qg16
 replace qB14:=qB14.since qg16
 replace G:=G.trans qg16
 have qg16_s:=qg16.size
 refine step_val (w':=qw15) rfl (.pointer (some ⟨qw4.heap.size,4,none⟩)) (by kernel_rfl) ?_
 refine wpList_frame (a':={tmps:=#[.agg #[.int .i64 r,.string d,.bool e,.int .i64 n,.int .i64 s,.string f,.bool g,.int .i64 m],.pointer (some ⟨w.heap.size,0,none⟩),.pointer (some ⟨qw1.heap.size,0,none⟩),.pointer (some ⟨qw4.heap.size,0,none⟩),.pointer (some ⟨w.heap.size,0,none⟩),.agg #[.int .i64 r,.string d,.bool e,.int .i64 n],.agg #[.int .i64 r,.string d,.bool e,.int .i64 n],.pointer (some ⟨qw4.heap.size,0,none⟩),.pointer (some ⟨w.heap.size,4,none⟩),.agg #[.int .i64 s,.string f,.bool g,.int .i64 m],.agg #[.int .i64 s,.string f,.bool g,.int .i64 m],.pointer (some ⟨qw4.heap.size,4,none⟩),undef],defers:=[]}) (by kernel_rfl) ?_
 refine store_part (cs':=#[.int .i64 r,.string d,.bool e,.int .i64 n,.int .i64 s,.string f,.bool g,.int .i64 m]) qB14 rfl pp_big _ _ rfl 4 rfl #[.int .i64 s,.string f,.bool g,.int .i64 m] rfl rfl (by simp [Value.oneCell']) (by show 8≤8;decide) rfl ?_
 intro qw17 qt18 qB19
 clear qB14
 replace qB2:=qB2.touch qt18 (by omega)
 replace qB5:=qB5.touch qt18 (by omega)
 replace G:=since_touch G qt18 (by omega)
 have qt18_s:=qt18.size
 refine wpList_frame (a':={tmps:=#[.agg #[.int .i64 r,.string d,.bool e,.int .i64 n,.int .i64 s,.string f,.bool g,.int .i64 m],.pointer (some ⟨w.heap.size,0,none⟩),.pointer (some ⟨qw1.heap.size,0,none⟩),.pointer (some ⟨qw4.heap.size,0,none⟩),.pointer (some ⟨w.heap.size,0,none⟩),.agg #[.int .i64 r,.string d,.bool e,.int .i64 n],.agg #[.int .i64 r,.string d,.bool e,.int .i64 n],.pointer (some ⟨qw4.heap.size,0,none⟩),.pointer (some ⟨w.heap.size,4,none⟩),.agg #[.int .i64 s,.string f,.bool g,.int .i64 m],.agg #[.int .i64 s,.string f,.bool g,.int .i64 m],.pointer (some ⟨qw4.heap.size,4,none⟩),undef],defers:=[]}) (by kernel_rfl) ?_
 go_upto_region 4 with (fail)
 refine wp_region_lit ?_
 refine load_big rl_big rfl qB19 rfl _ rfl rfl ?_
 refine store_big rl_big rfl rfl (by simp [Value.oneCell']) qB5 rfl _ _ rfl rfl rfl ?_
 intro qw20 qt21 qB22
 clear qB5
 replace qB2:=qB2.touch qt21 (by omega)
 replace qB19:=qB19.touch qt21 (by omega)
 replace G:=since_touch G qt21 (by omega)
 have qt21_s:=qt21.size
 refine wpList_frame (a':={tmps:=#[.agg #[.int .i64 r,.string d,.bool e,.int .i64 n,.int .i64 s,.string f,.bool g,.int .i64 m],.pointer (some ⟨w.heap.size,0,none⟩),.pointer (some ⟨qw1.heap.size,0,none⟩),.pointer (some ⟨qw4.heap.size,0,none⟩),.pointer (some ⟨w.heap.size,0,none⟩),.agg #[.int .i64 r,.string d,.bool e,.int .i64 n],.agg #[.int .i64 r,.string d,.bool e,.int .i64 n],.pointer (some ⟨qw4.heap.size,0,none⟩),.pointer (some ⟨w.heap.size,4,none⟩),.agg #[.int .i64 s,.string f,.bool g,.int .i64 m],.agg #[.int .i64 s,.string f,.bool g,.int .i64 m],.pointer (some ⟨qw4.heap.size,4,none⟩),.agg #[.int .i64 r,.string d,.bool e,.int .i64 n,.int .i64 s,.string f,.bool g,.int .i64 m]],defers:=[]}) (by kernel_rfl) ?_
 go_wp2_with (fail)
 exact bodyPost_ret (results_big rl_big rfl (u:=2) rfl _ rfl qB22) rfl ⟨rfl,G⟩

theorem szRelay (r:Int) (d:ByteArray) (e:Bool) (n:Int) (s:Int) (f:ByteArray) (g:Bool) (m:Int) (l:Int) (hl:0≤l∧l≤1048576) (hd:d.size≤9223372036854775807) (hf:f.size≤9223372036854775807) (w:World) :
  Calls Tryz.prog 4 #[rlVal r d e n s f g m,.int .i64 l] w fun x w'=>x=.returned (.int .i64 (if (d.size:Int)≤l then (if (f.size:Int)≤l - d.size then l - d.size - f.size else -1) else -1))∧Since w w':=by
 have h1:=fun wx=>szPipe r d e n l hl hd wx
 unfold ppVal at h1
 unfold rlVal
 by_cases q1:(d.size:Int)≤l
 case neg=>
  rw [if_neg q1] at h1 ⊢
  have G:=Since.refl w
  go_enter Tryz.func4,Tryz.ntmps4
  go_upto_region 0 with (fail)
  refine wp_region_lit ?_
  refine step_val (w':=w.alloc (.cells (#[.int .i64 r,.string d,.bool e,.int .i64 n,.int .i64 s,.string f,.bool g,.int .i64 m]) 25)) rfl (.pointer (some ⟨w.heap.size,0,none⟩)) (by kernel_rfl) ?_
  have qB2:=Blk.new w (#[.int .i64 r,.string d,.bool e,.int .i64 n,.int .i64 s,.string f,.bool g,.int .i64 m]) 25
  have qg3:=(Since.refl w).alloc (.cells (#[.int .i64 r,.string d,.bool e,.int .i64 n,.int .i64 s,.string f,.bool g,.int .i64 m]) 25)
  replace G:=G.trans qg3
  generalize w.alloc (.cells (#[.int .i64 r,.string d,.bool e,.int .i64 n,.int .i64 s,.string f,.bool g,.int .i64 m]) 25)=qw1 at  G qB2 qg3 ⊢
  have qB2_l:=qB2.lt
  have qg3_s:=qg3.size
  refine step_val (w':=qw1) rfl (.int .i64 0) (by kernel_rfl) ?_
  refine wpList_frame (a':={tmps:=#[.agg #[.int .i64 r,.string d,.bool e,.int .i64 n,.int .i64 s,.string f,.bool g,.int .i64 m],.int .i64 l,.pointer (some ⟨w.heap.size,0,none⟩),undef,.int .i64 0,undef,undef,undef,undef,undef,undef,undef,undef,undef,undef,undef,undef,undef],defers:=[]}) (by kernel_rfl) ?_
  go_upto_region 1 with (fail)
  refine wp_region_lit ?_
  refine step_val (w':=qw1) rfl (.pointer (some ⟨w.heap.size,0,none⟩)) (by kernel_rfl) ?_
  refine load_part qB2 rfl lpp_big _ rfl 0 rfl [.int .i64 r,.string d,.bool e,.int .i64 n] rfl (fun j v hj=>by match j,hj with|0,h=>exact h|1,h=>exact h|2,h=>exact h|3,h=>exact h|n+4,h=>exact absurd h (by simp)) ?_
  refine move_step rfl _ rfl ?_
  refine call_step rfl 17 #[.agg #[.int .i64 r,.string d,.bool e,.int .i64 n],.int .i64 l] (by kernel_rfl) (h1 _) ?_
  rintro _ qw4 ⟨rfl,qg5⟩
  refine ⟨_,rfl,?_⟩
  replace qB2:=qB2.since qg5
  replace G:=G.trans qg5
  have qg5_s:=qg5.size
  refine wpList_frame (a':={tmps:=#[.agg #[.int .i64 r,.string d,.bool e,.int .i64 n,.int .i64 s,.string f,.bool g,.int .i64 m],.int .i64 l,.pointer (some ⟨w.heap.size,0,none⟩),undef,.int .i64 0,.pointer (some ⟨w.heap.size,0,none⟩),.agg #[.int .i64 r,.string d,.bool e,.int .i64 n],.int .i64 l,.int .i64 (-1),undef,undef,undef,undef,undef,undef,undef,undef,undef],defers:=[]}) (by kernel_rfl) ?_
  refine step_val (w':=qw4) rfl (.int .i64 (-1)) (by kernel_rfl) ?_
  refine wpList_frame (a':={tmps:=#[.agg #[.int .i64 r,.string d,.bool e,.int .i64 n,.int .i64 s,.string f,.bool g,.int .i64 m],.int .i64 (-1),.pointer (some ⟨w.heap.size,0,none⟩),undef,.int .i64 0,.pointer (some ⟨w.heap.size,0,none⟩),.agg #[.int .i64 r,.string d,.bool e,.int .i64 n],.int .i64 l,.int .i64 (-1),undef,undef,undef,undef,undef,undef,undef,undef,undef],defers:=[]}) (by kernel_rfl) ?_
  go_wp2_with (fail)
  go_ret
  exact ⟨rfl,G⟩
 case pos=>
  rw [if_pos q1] at h1 ⊢
  have h2:=fun wx=>szPipe s f g m (l - d.size) ⟨by omega,by omega⟩ hf wx
  unfold ppVal at h2
  by_cases q2:(f.size:Int)≤l - d.size
  case neg=>
   rw [if_neg q2] at h2 ⊢
   have G:=Since.refl w
   go_enter Tryz.func4,Tryz.ntmps4
   go_upto_region 0 with (fail)
   refine wp_region_lit ?_
   refine step_val (w':=w.alloc (.cells (#[.int .i64 r,.string d,.bool e,.int .i64 n,.int .i64 s,.string f,.bool g,.int .i64 m]) 25)) rfl (.pointer (some ⟨w.heap.size,0,none⟩)) (by kernel_rfl) ?_
   have qB2:=Blk.new w (#[.int .i64 r,.string d,.bool e,.int .i64 n,.int .i64 s,.string f,.bool g,.int .i64 m]) 25
   have qg3:=(Since.refl w).alloc (.cells (#[.int .i64 r,.string d,.bool e,.int .i64 n,.int .i64 s,.string f,.bool g,.int .i64 m]) 25)
   replace G:=G.trans qg3
   generalize w.alloc (.cells (#[.int .i64 r,.string d,.bool e,.int .i64 n,.int .i64 s,.string f,.bool g,.int .i64 m]) 25)=qw1 at  G qB2 qg3 ⊢
   have qB2_l:=qB2.lt
   have qg3_s:=qg3.size
   refine step_val (w':=qw1) rfl (.int .i64 0) (by kernel_rfl) ?_
   refine wpList_frame (a':={tmps:=#[.agg #[.int .i64 r,.string d,.bool e,.int .i64 n,.int .i64 s,.string f,.bool g,.int .i64 m],.int .i64 l,.pointer (some ⟨w.heap.size,0,none⟩),undef,.int .i64 0,undef,undef,undef,undef,undef,undef,undef,undef,undef,undef,undef,undef,undef],defers:=[]}) (by kernel_rfl) ?_
   go_upto_region 1 with (fail)
   refine wp_region_lit ?_
   refine step_val (w':=qw1) rfl (.pointer (some ⟨w.heap.size,0,none⟩)) (by kernel_rfl) ?_
   refine load_part qB2 rfl lpp_big _ rfl 0 rfl [.int .i64 r,.string d,.bool e,.int .i64 n] rfl (fun j v hj=>by match j,hj with|0,h=>exact h|1,h=>exact h|2,h=>exact h|3,h=>exact h|n+4,h=>exact absurd h (by simp)) ?_
   refine move_step rfl _ rfl ?_
   refine call_step rfl 17 #[.agg #[.int .i64 r,.string d,.bool e,.int .i64 n],.int .i64 l] (by kernel_rfl) (h1 _) ?_
   rintro _ qw4 ⟨rfl,qg5⟩
   refine ⟨_,rfl,?_⟩
   replace qB2:=qB2.since qg5
   replace G:=G.trans qg5
   have qg5_s:=qg5.size
   refine wpList_frame (a':={tmps:=#[.agg #[.int .i64 r,.string d,.bool e,.int .i64 n,.int .i64 s,.string f,.bool g,.int .i64 m],.int .i64 l,.pointer (some ⟨w.heap.size,0,none⟩),undef,.int .i64 0,.pointer (some ⟨w.heap.size,0,none⟩),.agg #[.int .i64 r,.string d,.bool e,.int .i64 n],.int .i64 l,.int .i64 (l - d.size),undef,undef,undef,undef,undef,undef,undef,undef,undef],defers:=[]}) (by kernel_rfl) ?_
   refine step_val (w':=qw4) rfl (.int .i64 (l - d.size)) (by kernel_rfl) ?_
   refine wpList_frame (a':={tmps:=#[.agg #[.int .i64 r,.string d,.bool e,.int .i64 n,.int .i64 s,.string f,.bool g,.int .i64 m],.int .i64 (l - d.size),.pointer (some ⟨w.heap.size,0,none⟩),undef,.int .i64 0,.pointer (some ⟨w.heap.size,0,none⟩),.agg #[.int .i64 r,.string d,.bool e,.int .i64 n],.int .i64 l,.int .i64 (l - d.size),undef,undef,undef,undef,undef,undef,undef,undef,undef],defers:=[]}) (by kernel_rfl) ?_
   go_upto_region 4 with (fail)
   refine wp_region_lit ?_
   refine step_val (w':=qw4) rfl (.pointer (some ⟨w.heap.size,4,none⟩)) (by kernel_rfl) ?_
   refine load_part qB2 rfl lpp_big _ rfl 4 rfl [.int .i64 s,.string f,.bool g,.int .i64 m] rfl (fun j v hj=>by match j,hj with|0,h=>exact h|1,h=>exact h|2,h=>exact h|3,h=>exact h|n+4,h=>exact absurd h (by simp)) ?_
   refine move_step rfl _ rfl ?_
   refine call_step rfl 17 #[.agg #[.int .i64 s,.string f,.bool g,.int .i64 m],.int .i64 (l - d.size)] (by kernel_rfl) (h2 _) ?_
   rintro _ qw6 ⟨rfl,qg7⟩
   refine ⟨_,rfl,?_⟩
   replace qB2:=qB2.since qg7
   replace G:=G.trans qg7
   have qg7_s:=qg7.size
   refine wpList_frame (a':={tmps:=#[.agg #[.int .i64 r,.string d,.bool e,.int .i64 n,.int .i64 s,.string f,.bool g,.int .i64 m],.int .i64 (l - d.size),.pointer (some ⟨w.heap.size,0,none⟩),undef,.int .i64 0,.pointer (some ⟨w.heap.size,0,none⟩),.agg #[.int .i64 r,.string d,.bool e,.int .i64 n],.int .i64 l,.int .i64 (l - d.size),.int .i64 (l - d.size),.bool (decide (l - d.size<0)),.pointer (some ⟨w.heap.size,4,none⟩),.agg #[.int .i64 s,.string f,.bool g,.int .i64 m],.int .i64 (l - d.size),.int .i64 (-1),undef,undef,undef],defers:=[]}) (by kernel_rfl) ?_
   refine step_val (w':=qw6) rfl (.int .i64 (-1)) (by kernel_rfl) ?_
   refine wpList_frame (a':={tmps:=#[.agg #[.int .i64 r,.string d,.bool e,.int .i64 n,.int .i64 s,.string f,.bool g,.int .i64 m],.int .i64 (-1),.pointer (some ⟨w.heap.size,0,none⟩),undef,.int .i64 0,.pointer (some ⟨w.heap.size,0,none⟩),.agg #[.int .i64 r,.string d,.bool e,.int .i64 n],.int .i64 l,.int .i64 (l - d.size),.int .i64 (l - d.size),.bool (decide (l - d.size<0)),.pointer (some ⟨w.heap.size,4,none⟩),.agg #[.int .i64 s,.string f,.bool g,.int .i64 m],.int .i64 (l - d.size),.int .i64 (-1),undef,undef,undef],defers:=[]}) (by kernel_rfl) ?_
   go_wp2_with (fail)
   go_ret
   exact ⟨rfl,G⟩
  case pos=>
   rw [if_pos q2] at h2 ⊢
   have G:=Since.refl w
   go_enter Tryz.func4,Tryz.ntmps4
   go_upto_region 0 with (fail)
   refine wp_region_lit ?_
   refine step_val (w':=w.alloc (.cells (#[.int .i64 r,.string d,.bool e,.int .i64 n,.int .i64 s,.string f,.bool g,.int .i64 m]) 25)) rfl (.pointer (some ⟨w.heap.size,0,none⟩)) (by kernel_rfl) ?_
   have qB2:=Blk.new w (#[.int .i64 r,.string d,.bool e,.int .i64 n,.int .i64 s,.string f,.bool g,.int .i64 m]) 25
   have qg3:=(Since.refl w).alloc (.cells (#[.int .i64 r,.string d,.bool e,.int .i64 n,.int .i64 s,.string f,.bool g,.int .i64 m]) 25)
   replace G:=G.trans qg3
   generalize w.alloc (.cells (#[.int .i64 r,.string d,.bool e,.int .i64 n,.int .i64 s,.string f,.bool g,.int .i64 m]) 25)=qw1 at  G qB2 qg3 ⊢
   have qB2_l:=qB2.lt
   have qg3_s:=qg3.size
   refine step_val (w':=qw1) rfl (.int .i64 0) (by kernel_rfl) ?_
   refine wpList_frame (a':={tmps:=#[.agg #[.int .i64 r,.string d,.bool e,.int .i64 n,.int .i64 s,.string f,.bool g,.int .i64 m],.int .i64 l,.pointer (some ⟨w.heap.size,0,none⟩),undef,.int .i64 0,undef,undef,undef,undef,undef,undef,undef,undef,undef,undef,undef,undef,undef],defers:=[]}) (by kernel_rfl) ?_
   go_upto_region 1 with (fail)
   refine wp_region_lit ?_
   refine step_val (w':=qw1) rfl (.pointer (some ⟨w.heap.size,0,none⟩)) (by kernel_rfl) ?_
   refine load_part qB2 rfl lpp_big _ rfl 0 rfl [.int .i64 r,.string d,.bool e,.int .i64 n] rfl (fun j v hj=>by match j,hj with|0,h=>exact h|1,h=>exact h|2,h=>exact h|3,h=>exact h|n+4,h=>exact absurd h (by simp)) ?_
   refine move_step rfl _ rfl ?_
   refine call_step rfl 17 #[.agg #[.int .i64 r,.string d,.bool e,.int .i64 n],.int .i64 l] (by kernel_rfl) (h1 _) ?_
   rintro _ qw4 ⟨rfl,qg5⟩
   refine ⟨_,rfl,?_⟩
   replace qB2:=qB2.since qg5
   replace G:=G.trans qg5
   have qg5_s:=qg5.size
   refine wpList_frame (a':={tmps:=#[.agg #[.int .i64 r,.string d,.bool e,.int .i64 n,.int .i64 s,.string f,.bool g,.int .i64 m],.int .i64 l,.pointer (some ⟨w.heap.size,0,none⟩),undef,.int .i64 0,.pointer (some ⟨w.heap.size,0,none⟩),.agg #[.int .i64 r,.string d,.bool e,.int .i64 n],.int .i64 l,.int .i64 (l - d.size),undef,undef,undef,undef,undef,undef,undef,undef,undef],defers:=[]}) (by kernel_rfl) ?_
   refine step_val (w':=qw4) rfl (.int .i64 (l - d.size)) (by kernel_rfl) ?_
   refine wpList_frame (a':={tmps:=#[.agg #[.int .i64 r,.string d,.bool e,.int .i64 n,.int .i64 s,.string f,.bool g,.int .i64 m],.int .i64 (l - d.size),.pointer (some ⟨w.heap.size,0,none⟩),undef,.int .i64 0,.pointer (some ⟨w.heap.size,0,none⟩),.agg #[.int .i64 r,.string d,.bool e,.int .i64 n],.int .i64 l,.int .i64 (l - d.size),undef,undef,undef,undef,undef,undef,undef,undef,undef],defers:=[]}) (by kernel_rfl) ?_
   go_upto_region 4 with (fail)
   refine wp_region_lit ?_
   refine step_val (w':=qw4) rfl (.pointer (some ⟨w.heap.size,4,none⟩)) (by kernel_rfl) ?_
   refine load_part qB2 rfl lpp_big _ rfl 4 rfl [.int .i64 s,.string f,.bool g,.int .i64 m] rfl (fun j v hj=>by match j,hj with|0,h=>exact h|1,h=>exact h|2,h=>exact h|3,h=>exact h|n+4,h=>exact absurd h (by simp)) ?_
   refine move_step rfl _ rfl ?_
   refine call_step rfl 17 #[.agg #[.int .i64 s,.string f,.bool g,.int .i64 m],.int .i64 (l - d.size)] (by kernel_rfl) (h2 _) ?_
   rintro _ qw6 ⟨rfl,qg7⟩
   refine ⟨_,rfl,?_⟩
   replace qB2:=qB2.since qg7
   replace G:=G.trans qg7
   have qg7_s:=qg7.size
   refine wpList_frame (a':={tmps:=#[.agg #[.int .i64 r,.string d,.bool e,.int .i64 n,.int .i64 s,.string f,.bool g,.int .i64 m],.int .i64 (l - d.size),.pointer (some ⟨w.heap.size,0,none⟩),undef,.int .i64 0,.pointer (some ⟨w.heap.size,0,none⟩),.agg #[.int .i64 r,.string d,.bool e,.int .i64 n],.int .i64 l,.int .i64 (l - d.size),.int .i64 (l - d.size),.bool (decide (l - d.size<0)),.pointer (some ⟨w.heap.size,4,none⟩),.agg #[.int .i64 s,.string f,.bool g,.int .i64 m],.int .i64 (l - d.size),.int .i64 (l - d.size - f.size),undef,undef,undef],defers:=[]}) (by kernel_rfl) ?_
   refine step_val (w':=qw6) rfl (.int .i64 (l - d.size - f.size)) (by kernel_rfl) ?_
   refine wpList_frame (a':={tmps:=#[.agg #[.int .i64 r,.string d,.bool e,.int .i64 n,.int .i64 s,.string f,.bool g,.int .i64 m],.int .i64 (l - d.size - f.size),.pointer (some ⟨w.heap.size,0,none⟩),undef,.int .i64 0,.pointer (some ⟨w.heap.size,0,none⟩),.agg #[.int .i64 r,.string d,.bool e,.int .i64 n],.int .i64 l,.int .i64 (l - d.size),.int .i64 (l - d.size),.bool (decide (l - d.size<0)),.pointer (some ⟨w.heap.size,4,none⟩),.agg #[.int .i64 s,.string f,.bool g,.int .i64 m],.int .i64 (l - d.size),.int .i64 (l - d.size - f.size),undef,undef,undef],defers:=[]}) (by kernel_rfl) ?_
   go_wp2_with (fail)
   go_ret
   exact ⟨rfl,G⟩

theorem open_relay {H:Type} {enc:TypeId×Value→H} {W:World} {base:Nat} {v:Value} {d:DataW H} {p:List MemPlace} (hv:Value.okWide Tryz.prog W .any base 25 v) (h:DataW.Trod enc Tryz.prog W 0 (fun _=>true) true 25 v d p) :
  ∃ (r:Int) (d:ByteArray) (e:Bool) (n:Int) (s:Int) (f:ByteArray) (g:Bool) (m:Int),v=.agg #[.int .i64 r,.string d,.bool e,.int .i64 n,.int .i64 s,.string f,.bool g,.int .i64 m]∧((Lit.int .i64 r).wf=true∧(Lit.int .i64 s).wf=true)∧(d.size≤maxLen∧f.size≤maxLen)∧((Lit.int .i64 n).wf=true∧(Lit.int .i64 m).wf=true):=by
 obtain ⟨cs,rfl,hsz⟩:=okWide_struct Tryz.underlying25 hv
 have hC:Tryz.prog.cellsOf 25=8:=by kernel_rfl
 rw [hC] at hsz
 obtain ⟨fuel,hf⟩:=h
 obtain ⟨ys,n,_,hx,_,hlen,hg⟩:=DataW.trod_struct Tryz.underlying25 hf
 clear hx hf
 obtain ⟨l⟩:=cs
 have z1:Tryz.prog.cellsOf 3=1:=by kernel_rfl
 have z3:Tryz.prog.cellsOf 9=1:=by kernel_rfl
 have z4:Tryz.prog.cellsOf 4=1:=by kernel_rfl
 have z6:Tryz.prog.cellsOf 23=4:=by kernel_rfl
 match l,hsz with
 | u0 :: u1 :: u2 :: u3 :: u4 :: u5 :: u6 :: u7 :: [],_=>
  match ys,hlen with
  | y0 :: y1 :: [],_=>
   have g0:=hg 0 _ rfl
   have g1:=hg 1 _ rfl
   simp [z6,Value.cells] at g0 g1
   obtain ⟨ys0,n0,_,hx0,_,hlen0,hg0⟩:=DataW.trod_struct Tryz.underlying23 g0
   clear hx0
   obtain ⟨ys1,n1,_,hx1,_,hlen1,hg1⟩:=DataW.trod_struct Tryz.underlying23 g1
   clear hx1
   match ys0,hlen0,ys1,hlen1 with
   | a0 :: a1 :: a2 :: a3 :: [],_,b0 :: b1 :: b2 :: b3 :: [],_=>
    have k00:=hg0 0 _ rfl
    simp [z1,z3,z4] at k00
    obtain ⟨x00,e00,_,w00⟩:=DataW.trod_int Tryz.underlying3 k00
    simp only [List.cons.injEq,and_true] at e00
    subst e00
    have k01:=hg0 1 _ rfl
    simp [z1,z3,z4] at k01
    obtain ⟨x01,e01,_,w01⟩:=DataW.trod_string Tryz.underlying9 k01
    simp only [List.cons.injEq,and_true] at e01
    subst e01
    have k02:=hg0 2 _ rfl
    simp [z1,z3,z4] at k02
    obtain ⟨x02,e02,_⟩:=DataW.trod_bool Tryz.underlying4 k02
    simp only [List.cons.injEq,and_true] at e02
    subst e02
    have k03:=hg0 3 _ rfl
    simp [z1,z3,z4] at k03
    obtain ⟨x03,e03,_,w03⟩:=DataW.trod_int Tryz.underlying3 k03
    simp only [List.cons.injEq,and_true] at e03
    subst e03
    have k10:=hg1 0 _ rfl
    simp [z1,z3,z4] at k10
    obtain ⟨x10,e10,_,w10⟩:=DataW.trod_int Tryz.underlying3 k10
    simp only [List.cons.injEq,and_true] at e10
    subst e10
    have k11:=hg1 1 _ rfl
    simp [z1,z3,z4] at k11
    obtain ⟨x11,e11,_,w11⟩:=DataW.trod_string Tryz.underlying9 k11
    simp only [List.cons.injEq,and_true] at e11
    subst e11
    have k12:=hg1 2 _ rfl
    simp [z1,z3,z4] at k12
    obtain ⟨x12,e12,_⟩:=DataW.trod_bool Tryz.underlying4 k12
    simp only [List.cons.injEq,and_true] at e12
    subst e12
    have k13:=hg1 3 _ rfl
    simp [z1,z3,z4] at k13
    obtain ⟨x13,e13,_,w13⟩:=DataW.trod_int Tryz.underlying3 k13
    simp only [List.cons.injEq,and_true] at e13
    subst e13
    exact ⟨x00,x01,x02,x03,x10,x11,x12,x13,rfl,⟨w00,w10⟩,⟨w01,w11⟩,⟨w03,w13⟩⟩
end Go.Proofs.YtnbopjlpemmkcaaGreat
