/- A part of the proof. -/
import Derived.Test.YtmigalhmlofbkaaGreatDoorMS
import Derived.Test.YtmigalhmlofbkaaGreatDoorMR
set_option linter.unusedVariables false
set_option maxRecDepth 10000
namespace Go.Proofs.YtmigalhmlofbkaaGreatDoor
open Go.ChangeShapes Go.WideShapes Go.ChangeAt Go.RowKit Go.Deep
theorem freshOut (f:Int) (d:ByteArray) (r:Int) (hd:d.size≤1048576) (w:World) :
  Calls Tryz.prog 60 #[outVal f d r] w fun e w'=>e=.returned (outVal f d r)∧Since w w':=by
 unfold outVal
 have G:Since w ((w.alloc (.cells #[.int .u32 f,.string d,.int .i64 r] 30)).alloc (.cells #[.int .u32 0,.string ⟨#[]⟩,.int .i64 0] 30)):=((Since.refl _).alloc _).alloc _
 have A:=(Blk.new w #[.int .u32 f,.string d,.int .i64 r] 30).since ((Since.refl _).alloc (.cells #[.int .u32 0,.string ⟨#[]⟩,.int .i64 0] 30))
 have B:=Blk.new (w.alloc (.cells #[.int .u32 f,.string d,.int .i64 r] 30)) #[.int .u32 0,.string ⟨#[]⟩,.int .i64 0] 30
 simp only [World.size_alloc] at A B
 go_enter Tryz.func60,Tryz.ntmps60
 go_wp2
 obtain ⟨wb,hwb⟩:∃ wb,(w.alloc (.cells #[.int .u32 f,.string d,.int .i64 r] 30)).alloc (.cells #[.int .u32 0,.string ⟨#[]⟩,.int .i64 0] 30)=wb:=⟨_,rfl⟩
 rw [hwb] at A B G ⊢
 clear hwb
 refine wp_region_tail (wb:=wb) 8 (fun i x v=>match i with
   | 0=>v=.pointer (some ⟨w.heap.size,0,none⟩)
   | 1=>v=.int .u32 f
   | 2=>v=.pointer (some ⟨w.heap.size,1,none⟩)
   | 3=>v=.string d
   | 4=>v=.string d
   | 5=>v=.pointer (some ⟨w.heap.size,2,none⟩)
   | 6=>v=.int .i64 r
   | 7=>v=.agg #[.int .u32 f,.string d,.int .i64 r]
   | _=>True) (fun v=>{tmps:=#[Value.agg #[Value.int IntKind.u32 f,Value.string d,Value.int IntKind.i64 r],Value.pointer (some ⟨w.heap.size,0,none⟩),Value.pointer (some ⟨w.heap.size+1,0,none⟩),v 0,v 1,v 2,v 3,v 4,v 5,v 6,v 7],defers:=[]}) (by kernel_rfl) (by kernel_rfl) (by kernel_rfl) (Since.refl _) ?_ (fun vals=>by kernel_rfl) ?_ ?_
 case refine_1=>
  intro j x x' v h1 h2
  match j,h2 with
  | 0,h2|1,h2|2,h2|3,h2|4,h2|5,h2|6,h2|7,h2=>exact h2
  | n+8,_=>trivial
 case refine_2=>
  repeat (first|exact eachDoes_nil|refine eachDoes_cons ?_ ?_)
  all_goals intro vals x hx hv
  all_goals simp [Region.binds] at hv
  ·simp [does,doesUpon,go_sem,hv,Since.refl]
  ·have e:=(A.since hx).cell 2
   simp at e
   simp [does,doesUpon,go_sem,hv,e,Since.refl]
  ·simp [does,doesUpon,go_sem,Since.refl]
  ·simp [does,doesUpon,go_sem,hv]
   refine (clone d hd x).mono ?_
   rintro _ x' ⟨rfl,h1⟩
   simp [h1]
  ·have e:=(A.since hx).cell 1
   simp at e
   simp [does,doesUpon,go_sem,hv,e,Since.refl]
  ·simp [does,doesUpon,go_sem,Since.refl]
  ·have e:=(A.since hx).cell 0
   simp at e
   simp [does,doesUpon,go_sem,hv,e,Since.refl]
  ·simp [does,doesUpon,go_sem,Since.refl]
 case refine_3=>
  intro vals x hx hv
  have h7:vals 7=_:=hv 7 (by decide)
  clear hv
  simp only [h7]
  have B1:=B.since hx
  have b0:=B1.cell 0
  have b1:=B1.cell 1
  have b2:=B1.cell 2
  simp at b0 b1 b2
  have z0:=B1.fz 0
  have z1:=B1.fz 1
  have z2:=B1.fz 2
  go_wp2
  refine bodyPost_ret (v:=.agg #[.int .u32 f,.string d,.int .i64 r]) ?_ rfl ⟨rfl,?_⟩
  ·simp [results,go_sem,(stored3 B1 (.int .u32 f) (.string d) (.int .i64 r)).1,(stored3 B1 (.int .u32 f) (.string d) (.int .i64 r)).2.1,(stored3 B1 (.int .u32 f) (.string d) (.int .i64 r)).2.2]
  ·exact since_put3 (G.trans hx) (by omega) _ _ _
theorem hasPlace (f:Int) (d:ByteArray) (r q m:Int) (hf:IsWord f) (hq:IsWord q) (hm:IsAhead f q m) (hd:d.size≤1048576) (w:World) :
  Calls Tryz.prog 159 #[outVal f d r,.int .u32 q] w fun e w'=>e=.returned (.bool (decide (m<(d.size:Int)+1)))∧Since w w':=by
 unfold outVal
 have hw:=fun wx=>within q f ((d.size:Int)+1) m hq hf hm wx
 generalize decide (m<(d.size:Int)+1)=b at hw
 go_enter Tryz.func159,Tryz.ntmps159
 go_wp2_with (go_at_call 157;refine (hw _).mono ?_;rintro _ _ ⟨rfl,rfl⟩)
 go_ret
 exact ⟨rfl,(Since.refl _).alloc _⟩
end Go.Proofs.YtmigalhmlofbkaaGreatDoor
