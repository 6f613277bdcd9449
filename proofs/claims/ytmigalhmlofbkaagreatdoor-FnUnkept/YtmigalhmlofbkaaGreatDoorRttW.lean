/- A part of the proof. -/
import Derived.Test.YtmigalhmlofbkaaGreatDoorMB
import Derived.Test.YtmigalhmlofbkaaGreatDoorM1
set_option linter.unusedVariables false
set_option maxRecDepth 10000
namespace Go.Proofs.YtmigalhmlofbkaaGreatDoor
open Go.ChangeShapes Go.WideShapes Go.ChangeAt Go.RowKit
def baseOf (a:Bool) (s v:Int):Int:=if a then max (s / 8+max 1 v) 2 else 10
def waitOf (a:Bool) (s v d:Int):Int:=if rttOk a s v d then min (baseOf a s v*2 ^ d.toNat) 600 else 10
theorem implMeanS (a:Bool) (s v d:Int) (h0:0≤s) (h1:s≤800000) (w:World) :
  Calls Tryz.prog 176 #[rttVal a s v d] w fun e w'=>e=.returned (.int .i64 (s / 8))∧Since w w':=
 (implMean a s v d h0 h1 w).mono fun e w' ⟨he,hw⟩=>⟨he,by rw [hw];exact (Since.refl _).alloc _⟩
theorem patience (a:Bool) (s vv d:Int) (h0:0≤s) (h1:s≤800000) (h2:0≤vv) (h3:vv≤400000) (w:World) :
  Calls Tryz.prog 169 #[rttVal a s vv d] w fun e w'=>e=.returned (.int .i64 (baseOf a s vv))∧Since w w':=by
 have G:Since w (w.alloc (.cells #[.bool a,.int .i64 s,.int .i64 vv,.int .i64 d] 35)):=(Since.refl _).alloc _
 have A:=Blk.new w #[.bool a,.int .i64 s,.int .i64 vv,.int .i64 d] 35
 have hm:=fun wx=>implMeanS a s vv d h0 h1 wx
 unfold baseOf
 unfold rttVal at hm ⊢
 cases a
 ·simp only [Bool.false_eq_true,if_false]
  go_enter Tryz.func169,Tryz.ntmps169
  go_wp2
  go_ret
  exact ⟨rfl,G⟩
 simp only [if_true]
 go_enter Tryz.func169,Tryz.ntmps169
 go_wp2
 obtain ⟨wb,hwb⟩:∃ wb,(w.alloc (.cells #[.bool true,.int .i64 s,.int .i64 vv,.int .i64 d] 35))=wb:=⟨_,rfl⟩
 rw [hwb] at A G ⊢
 clear hwb
 refine wp_region_each (wb:=wb) (fun i x v=>match i with
   | 0=>v=.agg #[.bool true,.int .i64 s,.int .i64 vv,.int .i64 d]
   | 1=>v=.int .i64 (s / 8)
   | 2=>v=.pointer (some ⟨w.heap.size,2,none⟩)
   | 3=>v=.int .i64 vv
   | 4=>v=.int .i64 (max 1 vv)
   | 5=>v=.int .i64 (s / 8+max 1 vv)
   | 6=>v=.int .i64 (max (s / 8+max 1 vv) 2)
   | 7=>v=.int .i64 (max (s / 8+max 1 vv) 2)
   | _=>True) (fun v=>{tmps:=#[Value.agg #[Value.bool true,Value.int IntKind.i64 s,Value.int IntKind.i64 vv,Value.int IntKind.i64 d],Value.pointer (some ⟨w.heap.size,0,none⟩),v 7,Value.pointer (some ⟨w.heap.size,0,none⟩),Value.bool true,Value.bool false,v 0,v 1,v 2,v 3,v 4,v 5,v 6],defers:=[]}) (by kernel_rfl) (by kernel_rfl) (Since.refl _) ?_ (fun vals=>by kernel_rfl) ?_ ?_
 case refine_1=>
  intro j x x' v h1 h2
  match j,h2 with
  | 0,h2|1,h2|2,h2|3,h2|4,h2|5,h2|6,h2|7,h2=>exact h2
  | n+8,_=>trivial
 case refine_2=>
  repeat (first|exact eachDoes_nil|refine eachDoes_cons ?_ ?_)
  all_goals intro vals x hx hv
  all_goals simp [Region.binds] at hv
  ·simp [does,doesUpon,go_sem,hv,Since.refl]
  ·have hmx:max (s / 8+max 1 vv) (2)=if s / 8+max 1 vv<2 then 2 else s / 8+max 1 vv:=by split<;>omega
   by_cases hc:s / 8+max 1 vv<2<;>simp [does,doesUpon,go_sem,hv,Since.refl]<;>omega
  ·simp [does,doesUpon,go_sem,hv,Since.refl]
   rw [IntWalk.i64_left,IntWalk.wrap64_in _ ⟨by omega,by omega⟩]
  ·have hmx:max (1) (vv)=if 1<vv then vv else 1:=by split<;>omega
   by_cases hc:1<vv<;>simp [does,doesUpon,go_sem,hv,Since.refl]<;>omega
  ·have e2:=(A.since hx).cell 2
   simp at e2
   simp [does,doesUpon,go_sem,hv,e2,Since.refl]
  ·simp [does,doesUpon,go_sem,Since.refl]
  ·simp [does,doesUpon,go_sem,hv]
   refine (hm x).mono ?_
   rintro _ x' ⟨rfl,h1⟩
   simp [h1]
  ·have e0:=(A.since hx).cell 0
   have e1:=(A.since hx).cell 1
   have e2:=(A.since hx).cell 2
   have e3:=(A.since hx).cell 3
   simp at e0 e1 e2 e3
   simp [does,doesUpon,go_sem,e0,e1,e2,e3,Since.refl]
 case refine_3=>
  intro vals x hx hv
  have h7:vals 7=_:=hv 7 (by decide)
  clear hv
  simp only [h7]
  go_wp2
  go_ret
  exact ⟨rfl,G.trans hx⟩
theorem wait (a:Bool) (s vv d:Int) (h0:0≤s) (h1:s≤800000) (h2:0≤vv) (h3:vv≤400000) (h4:0≤d) (h5:d≤8) (w:World) :
  Calls Tryz.prog 161 #[rttVal a s vv d] w fun e w'=>e=.returned (.int .i64 (min (baseOf a s vv*2 ^ d.toNat) 600))∧Since w w':=by
 have G:Since w (w.alloc (.cells #[.bool a,.int .i64 s,.int .i64 vv,.int .i64 d] 35)):=(Since.refl _).alloc _
 have A:=Blk.new w #[.bool a,.int .i64 s,.int .i64 vv,.int .i64 d] 35
 have hm:=fun wx=>patience a s vv d h0 h1 h2 h3 wx
 have hq0:0≤baseOf a s vv∧baseOf a s vv≤1000000:=by unfold baseOf;split<;>omega
 generalize baseOf a s vv=p at hm hq0 ⊢
 obtain ⟨q,hq⟩:∃ q,q=p*2 ^ d.toNat:=⟨_,rfl⟩
 have hq1:0≤q∧q≤256000000:=by
  have hd:d=0∨d=1∨d=2∨d=3∨d=4∨d=5∨d=6∨d=7∨d=8:=by omega
  rcases hd with rfl|rfl|rfl|rfl|rfl|rfl|rfl|rfl|rfl<;>simp at hq<;>omega
 have hwr:IntKind.i64.wrap (p*2 ^ d.toNat)=q:=by
  rw [← hq,IntWalk.i64_left,IntWalk.wrap64_in _ ⟨by omega,by omega⟩]
 rw [← hq]
 clear hq
 unfold rttVal at hm ⊢
 go_enter Tryz.func161,Tryz.ntmps161
 go_wp2
 obtain ⟨wb,hwb⟩:∃ wb,(w.alloc (.cells #[.bool a,.int .i64 s,.int .i64 vv,.int .i64 d] 35))=wb:=⟨_,rfl⟩
 rw [hwb] at A G ⊢
 clear hwb
 refine wp_region_each (wb:=wb) (fun i x v=>match i with
   | 0=>v=.agg #[.bool a,.int .i64 s,.int .i64 vv,.int .i64 d]
   | 1=>v=.int .i64 p
   | 2=>v=.pointer (some ⟨w.heap.size,3,none⟩)
   | 3=>v=.int .i64 d
   | 4=>v=.int .i64 q
   | 5=>v=.int .i64 (min q 600)
   | 6=>v=.int .i64 (min q 600)
   | _=>True) (fun v=>{tmps:=#[Value.agg #[Value.bool a,Value.int IntKind.i64 s,Value.int IntKind.i64 vv,Value.int IntKind.i64 d],Value.pointer (some ⟨w.heap.size,0,none⟩),v 6,v 0,v 1,v 2,v 3,v 4,v 5],defers:=[]}) (by kernel_rfl) (by kernel_rfl) (Since.refl _) ?_ (fun vals=>by kernel_rfl) ?_ ?_
 case refine_1=>
  intro j x x' v h1 h2
  match j,h2 with
  | 0,h2|1,h2|2,h2|3,h2|4,h2|5,h2|6,h2=>exact h2
  | n+7,_=>trivial
 case refine_2=>
  repeat (first|exact eachDoes_nil|refine eachDoes_cons ?_ ?_)
  all_goals intro vals x hx hv
  all_goals simp [Region.binds] at hv
  ·simp [does,doesUpon,go_sem,hv,Since.refl]
  ·by_cases hc:600<q<;>simp [does,doesUpon,go_sem,hv,Since.refl,hc]<;>omega
  ·simp [does,doesUpon,go_sem,hv,hwr,Since.refl]
  ·have e3:=(A.since hx).cell 3
   simp at e3
   simp [does,doesUpon,go_sem,hv,e3,Since.refl]
  ·simp [does,doesUpon,go_sem,Since.refl]
  ·simp [does,doesUpon,go_sem,hv]
   refine (hm x).mono ?_
   rintro _ x' ⟨rfl,h1⟩
   simp [h1]
  ·have e0:=(A.since hx).cell 0
   have e1:=(A.since hx).cell 1
   have e2:=(A.since hx).cell 2
   have e3:=(A.since hx).cell 3
   simp at e0 e1 e2 e3
   simp [does,doesUpon,go_sem,e0,e1,e2,e3,Since.refl]
 case refine_3=>
  intro vals x hx hv
  have h6:vals 6=_:=hv 6 (by decide)
  clear hv
  simp only [h6]
  go_wp2
  go_ret
  exact ⟨rfl,G.trans hx⟩
theorem implWait (a:Bool) (s v d:Int) (w:World) :
  Calls Tryz.prog 140 #[rttVal a s v d] w fun e w'=>e=.returned (.int .i64 (waitOf a s v d))∧Since w w':=by
 have ho:=fun wx=>implRttOk a s v d wx
 unfold waitOf
 by_cases hk:rttOk a s v d=true
 ·have hb:=ok_bounds hk
  have hl:=fun wx=>wait a s v d hb.1 hb.2.1 hb.2.2.1 hb.2.2.2.1 hb.2.2.2.2.1 hb.2.2.2.2.2.1 wx
  rw [hk] at ho ⊢
  simp only [if_true]
  generalize min (baseOf a s v*2 ^ d.toNat) 600=q at hl ⊢
  unfold rttVal at *
  clear hb hk
  go_enter Tryz.func140,Tryz.ntmps140
  go_wp2_with (first|(go_at_call 88;refine (ho _).mono ?_;rintro _ _ ⟨rfl,rfl⟩)|(go_at_call 161;refine (hl _).mono ?_;rintro _ w1 ⟨rfl,g1⟩))
  go_ret
  exact ⟨rfl,(((Since.refl _).alloc _).alloc _).trans g1⟩
 ·have hk':rttOk a s v d=false:=by simpa using hk
  rw [hk'] at ho ⊢
  clear hk hk'
  simp only [Bool.false_eq_true,if_false]
  unfold rttVal at *
  go_enter Tryz.func140,Tryz.ntmps140
  go_wp2_with (go_at_call 88;refine (ho _).mono ?_;rintro _ _ ⟨rfl,rfl⟩)
  go_ret
  exact ⟨rfl,((Since.refl _).alloc _).alloc _⟩
end Go.Proofs.YtmigalhmlofbkaaGreatDoor
