/- A part of the proof. -/
import Derived.Test.YtmigalhmlofbkaaGreatDoorM40
import Derived.Test.YtmigalhmlofbkaaGreatDoorM33
set_option linter.unusedVariables false
set_option maxRecDepth 20000
set_option maxHeartbeats 8000000
namespace Go.Proofs.YtmigalhmlofbkaaGreatDoor
open Go.ChangeShapes Go.WideShapes Go.ChangeAt Go.RowKit
theorem implBehind (c:Cn) (w:World) :
  Calls Tryz.prog 153 #[.agg (cnCells c)] w fun e w'=>e=.returned (.int .u32 (behindC c))∧Since w w':=by
 have hw:=fun wx=>implWord (c.oD.size:Int) ((c.oD.size:Int) % 4294967296) ⟨by omega,by omega,by omega⟩ wx
 obtain ⟨bh,hbh⟩:∃ q,Hid (q=behindC c):=⟨_,rfl⟩
 have hwr:Hid (IntKind.u32.wrap (c.oF+(c.oD.size:Int) % 4294967296)=bh):=by
  show IntKind.u32.wrap (c.oF+(c.oD.size:Int) % 4294967296)=bh
  rw [hbh.out,show IntKind.u32.wrap (c.oF+(c.oD.size:Int) % 4294967296)=(c.oF+(c.oD.size:Int) % 4294967296) % 4294967296 from rfl]
  unfold behindC
  omega
 rw [← hbh.out]
 have G:=(Since.refl w).alloc (.cells (cnCells c) 39)
 have A:=Blk.new w (cnCells c) 39
 go_enter Tryz.func153,Tryz.ntmps153
 go_upto_region 1 with (fail)
 generalize w.alloc (.cells (cnCells c) 39)=x0 at A G ⊢
 have hA:=A.lt
 refine wp_region_tail (wb:=x0) 9 (fun i x v=>match i with
   | 0=>v=.pointer (some ⟨w.heap.size,8,none⟩)
   | 1=>v=.pointer (some ⟨w.heap.size,8,none⟩)
   | 2=>v=.int .u32 c.oF
   | 3=>v=.pointer (some ⟨w.heap.size,8,none⟩)
   | 4=>v=.pointer (some ⟨w.heap.size,9,none⟩)
   | 5=>v=.string c.oD
   | 6=>v=.int .i64 (c.oD.size:Int)
   | 7=>v=.int .u32 ((c.oD.size:Int) % 4294967296)
   | 8=>v=.int .u32 bh
   | _=>True) (fun v=>{tmps:=#[.agg (cnCells c),.pointer (some ⟨w.heap.size,0,none⟩),.int .u32 0,v 0,v 1,v 2,v 3,v 4,v 5,v 6,v 7,v 8],defers:=[]}) (by kernel_rfl) (by kernel_rfl) (by kernel_rfl) (Since.refl _) ?_ (fun vals=>by kernel_rfl) ?_ ?_
 case refine_1=>
  intro j x x' v h1 h2
  match j,h2 with
  | 0,h2|1,h2|2,h2|3,h2|4,h2|5,h2|6,h2|7,h2|8,h2=>exact h2
  | n+9,_=>trivial
 case refine_2=>
  repeat (first|exact eachDoes_nil|refine eachDoes_cons ?_ ?_)
  all_goals intro vals x hx hv
  all_goals simp [Region.binds] at hv
  ·simp [does,doesUpon,go_sem,hv,Since.refl,hwr.out]
  ·simp [does,doesUpon,go_sem,hv]
   refine (hw _).mono ?_
   rintro _ x' ⟨rfl,rfl⟩
   simp [Since.refl]
  ·simp [does,doesUpon,go_sem,hv,Since.refl]
  ·have fl0:x.cell? ⟨w.heap.size,9,none⟩=some (.string c.oD):=(A.since hx).cell 9
   simp [does,doesUpon,go_sem,hv,fl0,Since.refl]
  ·simp [does,doesUpon,go_sem,hv,Since.refl]
  ·simp [does,doesUpon,go_sem,Since.refl]
  ·have fl0:x.cell? ⟨w.heap.size,8,none⟩=some (.int .u32 c.oF):=(A.since hx).cell 8
   simp [does,doesUpon,go_sem,hv,fl0,Since.refl]
  ·simp [does,doesUpon,go_sem,hv,Since.refl]
  ·simp [does,doesUpon,go_sem,Since.refl]
 case refine_3=>
  intro qv3 qw1 qh2 hv
  have hv0:qv3 0=_:=hv 0 (by decide)
  have hv1:qv3 1=_:=hv 1 (by decide)
  have hv2:qv3 2=_:=hv 2 (by decide)
  have hv3:qv3 3=_:=hv 3 (by decide)
  have hv4:qv3 4=_:=hv 4 (by decide)
  have hv5:qv3 5=_:=hv 5 (by decide)
  have hv6:qv3 6=_:=hv 6 (by decide)
  have hv7:qv3 7=_:=hv 7 (by decide)
  have hv8:qv3 8=_:=hv 8 (by decide)
  clear hv
  simp only [hv0,hv1,hv2,hv3,hv4,hv5,hv6,hv7,hv8,List.drop]
  clear hv0 hv1 hv2 hv3 hv4 hv5 hv6 hv7 hv8
  replace A:=A.since qh2
  replace G:=G.trans qh2
  have qh2_s:=qh2.size
  refine VL.out ?_
  refine vV (.int .u32 bh) ?_
  refine vE #[.agg (cnCells c),.pointer (some ⟨w.heap.size,0,none⟩),.int .u32 bh,.pointer (some ⟨w.heap.size,8,none⟩),.pointer (some ⟨w.heap.size,8,none⟩),.int .u32 c.oF,.pointer (some ⟨w.heap.size,8,none⟩),.pointer (some ⟨w.heap.size,9,none⟩),.string c.oD,.int .i64 (c.oD.size:Int),.int .u32 ((c.oD.size:Int) % 4294967296),.int .u32 bh] ?_
  go_wp2_with (fail)
  go_ret
  exact ⟨rfl,G⟩
theorem implLeft (c:Cn) (hn:IsWord c.nxt) (w:World) :
  Calls Tryz.prog 122 #[.agg (cnCells c)] w fun e w'=>e=.returned (.int .i64 (leftC c))∧Since w w':=by
 have hb:=fun wx=>implBehind c wx
 have hd:=fun wx=>implDist c.nxt (behindC c) (leftC c) hn (isWord_mod _) (distI_is _ _) wx
 have G:=(Since.refl w).alloc (.cells (cnCells c) 39)
 have A:=Blk.new w (cnCells c) 39
 go_enter Tryz.func122,Tryz.ntmps122
 go_upto_region 1 with (fail)
 generalize w.alloc (.cells (cnCells c) 39)=x0 at A G ⊢
 have hA:=A.lt
 refine wp_region_tail (wb:=x0) 5 (fun i x v=>match i with
   | 0=>v=.pointer (some ⟨w.heap.size,3,none⟩)
   | 1=>v=.int .u32 c.nxt
   | 2=>v=.agg (cnCells c)
   | 3=>v=.int .u32 (behindC c)
   | 4=>v=.int .i64 (leftC c)
   | _=>True) (fun v=>{tmps:=#[.agg (cnCells c),.pointer (some ⟨w.heap.size,0,none⟩),.int .i64 0,v 0,v 1,v 2,v 3,v 4],defers:=[]}) (by kernel_rfl) (by kernel_rfl) (by kernel_rfl) (Since.refl _) ?_ (fun vals=>by kernel_rfl) ?_ ?_
 case refine_1=>
  intro j x x' v h1 h2
  match j,h2 with
  | 0,h2|1,h2|2,h2|3,h2|4,h2=>exact h2
  | n+5,_=>trivial
 case refine_2=>
  repeat (first|exact eachDoes_nil|refine eachDoes_cons ?_ ?_)
  all_goals intro vals x hx hv
  all_goals simp [Region.binds] at hv
  ·simp [does,doesUpon,go_sem,hv]
   refine (hd _).mono ?_
   rintro _ x' ⟨rfl,rfl⟩
   simp [Since.refl]
  ·simp [does,doesUpon,go_sem,hv]
   refine (hb _).mono ?_
   rintro _ x' ⟨rfl,h1⟩
   simp [h1]
  ·exact does_load cn_big (cn_size _) (A.since hx) _ rfl rfl ⟨Since.refl _,rfl⟩
  ·have fl0:x.cell? ⟨w.heap.size,3,none⟩=some (.int .u32 c.nxt):=(A.since hx).cell 3
   simp [does,doesUpon,go_sem,hv,fl0,Since.refl]
  ·simp [does,doesUpon,go_sem,Since.refl]
 case refine_3=>
  intro qv3 qw1 qh2 hv
  have hv0:qv3 0=_:=hv 0 (by decide)
  have hv1:qv3 1=_:=hv 1 (by decide)
  have hv2:qv3 2=_:=hv 2 (by decide)
  have hv3:qv3 3=_:=hv 3 (by decide)
  have hv4:qv3 4=_:=hv 4 (by decide)
  clear hv
  simp only [hv0,hv1,hv2,hv3,hv4,List.drop]
  clear hv0 hv1 hv2 hv3 hv4
  replace A:=A.since qh2
  replace G:=G.trans qh2
  have qh2_s:=qh2.size
  refine VL.out ?_
  refine vV (.int .i64 (leftC c)) ?_
  refine vE #[.agg (cnCells c),.pointer (some ⟨w.heap.size,0,none⟩),.int .i64 (leftC c),.pointer (some ⟨w.heap.size,3,none⟩),.int .u32 c.nxt,.agg (cnCells c),.int .u32 (behindC c),.int .i64 (leftC c)] ?_
  go_wp2_with (fail)
  go_ret
  exact ⟨rfl,G⟩
def mayI (c:Cn):Int:=min c.wnd c.cX - distI c.una c.nxt
theorem implMay (c:Cn) (hu:IsWord c.una) (hn:IsWord c.nxt) (h1:0≤c.wnd∧c.wnd≤65535) (h2:0≤c.cX∧c.cX≤65535) (w:World) :
  Calls Tryz.prog 151 #[.agg (cnCells c)] w fun e w'=>e=.returned (.int .i64 (mayI c))∧Since w w':=by
 have hd:=fun wx=>implDist c.una c.nxt (distI c.una c.nxt) hu hn (distI_is _ _) wx
 obtain ⟨m,hmm⟩:∃ m,Hid (m=mayI c):=⟨_,rfl⟩
 rw [← hmm.out]
 have hm:Hid (IntKind.i64.wrap (min c.wnd c.cX - distI c.una c.nxt)=m):=by
  show _=_
  have a1:=distI_is c.una c.nxt
  unfold IsDist at a1
  rw [hmm.out,IntWalk.i64_left]
  exact IntWalk.wrap64_in _ ⟨by omega,by omega⟩
 have G:=(Since.refl w).alloc (.cells (cnCells c) 39)
 have A:=Blk.new w (cnCells c) 39
 go_enter Tryz.func151,Tryz.ntmps151
 go_upto_region 1 with (fail)
 generalize w.alloc (.cells (cnCells c) 39)=x0 at A G ⊢
 have hA:=A.lt
 refine wp_region_tail (wb:=x0) 12 (fun i x v=>match i with
   | 0=>v=.pointer (some ⟨w.heap.size,5,none⟩)
   | 1=>v=.int .i64 c.wnd
   | 2=>v=.pointer (some ⟨w.heap.size,23,none⟩)
   | 3=>v=.pointer (some ⟨w.heap.size,23,none⟩)
   | 4=>v=.int .i64 c.cX
   | 5=>v=.int .i64 (min c.wnd c.cX)
   | 6=>v=.pointer (some ⟨w.heap.size,2,none⟩)
   | 7=>v=.int .u32 c.una
   | 8=>v=.pointer (some ⟨w.heap.size,3,none⟩)
   | 9=>v=.int .u32 c.nxt
   | 10=>v=.int .i64 (distI c.una c.nxt)
   | 11=>v=.int .i64 m
   | _=>True) (fun v=>{tmps:=#[.agg (cnCells c),.pointer (some ⟨w.heap.size,0,none⟩),.int .i64 0,v 0,v 1,v 2,v 3,v 4,v 5,v 6,v 7,v 8,v 9,v 10,v 11],defers:=[]}) (by kernel_rfl) (by kernel_rfl) (by kernel_rfl) (Since.refl _) ?_ (fun vals=>by kernel_rfl) ?_ ?_
 case refine_1=>
  intro j x x' v h1 h2
  match j,h2 with
  | 0,h2|1,h2|2,h2|3,h2|4,h2|5,h2|6,h2|7,h2|8,h2|9,h2|10,h2|11,h2=>exact h2
  | n+12,_=>trivial
 case refine_2=>
  repeat (first|exact eachDoes_nil|refine eachDoes_cons ?_ ?_)
  all_goals intro vals x hx hv
  all_goals simp [Region.binds] at hv
  ·simp [does,doesUpon,go_sem,hv,Since.refl,hm.out]
  ·simp [does,doesUpon,go_sem,hv]
   refine (hd _).mono ?_
   rintro _ x' ⟨rfl,rfl⟩
   simp [Since.refl]
  ·have fl0:x.cell? ⟨w.heap.size,3,none⟩=some (.int .u32 c.nxt):=(A.since hx).cell 3
   simp [does,doesUpon,go_sem,hv,fl0,Since.refl]
  ·simp [does,doesUpon,go_sem,Since.refl]
  ·have fl0:x.cell? ⟨w.heap.size,2,none⟩=some (.int .u32 c.una):=(A.since hx).cell 2
   simp [does,doesUpon,go_sem,hv,fl0,Since.refl]
  ·simp [does,doesUpon,go_sem,Since.refl]
  ·simp [does,doesUpon,go_sem,hv,Since.refl]
  ·have fl0:x.cell? ⟨w.heap.size,23,none⟩=some (.int .i64 c.cX):=(A.since hx).cell 23
   simp [does,doesUpon,go_sem,hv,fl0,Since.refl]
  ·simp [does,doesUpon,go_sem,hv,Since.refl]
  ·simp [does,doesUpon,go_sem,Since.refl]
  ·have fl0:x.cell? ⟨w.heap.size,5,none⟩=some (.int .i64 c.wnd):=(A.since hx).cell 5
   simp [does,doesUpon,go_sem,hv,fl0,Since.refl]
  ·simp [does,doesUpon,go_sem,Since.refl]
 case refine_3=>
  intro qv3 qw1 qh2 hv
  have hv0:qv3 0=_:=hv 0 (by decide)
  have hv1:qv3 1=_:=hv 1 (by decide)
  have hv2:qv3 2=_:=hv 2 (by decide)
  have hv3:qv3 3=_:=hv 3 (by decide)
  have hv4:qv3 4=_:=hv 4 (by decide)
  have hv5:qv3 5=_:=hv 5 (by decide)
  have hv6:qv3 6=_:=hv 6 (by decide)
  have hv7:qv3 7=_:=hv 7 (by decide)
  have hv8:qv3 8=_:=hv 8 (by decide)
  have hv9:qv3 9=_:=hv 9 (by decide)
  have hv10:qv3 10=_:=hv 10 (by decide)
  have hv11:qv3 11=_:=hv 11 (by decide)
  clear hv
  simp only [hv0,hv1,hv2,hv3,hv4,hv5,hv6,hv7,hv8,hv9,hv10,hv11,List.drop]
  clear hv0 hv1 hv2 hv3 hv4 hv5 hv6 hv7 hv8 hv9 hv10 hv11
  replace A:=A.since qh2
  replace G:=G.trans qh2
  have qh2_s:=qh2.size
  refine VL.out ?_
  refine vV (.int .i64 m) ?_
  refine vE #[.agg (cnCells c),.pointer (some ⟨w.heap.size,0,none⟩),.int .i64 m,.pointer (some ⟨w.heap.size,5,none⟩),.int .i64 c.wnd,.pointer (some ⟨w.heap.size,23,none⟩),.pointer (some ⟨w.heap.size,23,none⟩),.int .i64 c.cX,.int .i64 (min c.wnd c.cX),.pointer (some ⟨w.heap.size,2,none⟩),.int .u32 c.una,.pointer (some ⟨w.heap.size,3,none⟩),.int .u32 c.nxt,.int .i64 (distI c.una c.nxt),.int .i64 m] ?_
  go_wp2_with (fail)
  go_ret
  exact ⟨rfl,G⟩
def fromSg (c:Cn) (ps:List (Int×ByteArray)) (q:Int):Sg:=⟨0,0,q,c.iN,16,inRoomN c.iN c.iD c.iR ps,0,ByteArray.empty⟩
theorem implSegFrom (c:Cn) (ps:List (Int×ByteArray)) (q:Int) (gd:Good c.iN c.iD c.iR c.pn ps) (w:World) (R:Rd shP w c.pa c.pn ps) :
  Calls Tryz.prog 119 #[.agg (cnCells c),.int .u32 q] w fun e w'=>e=.returned (.agg (sgCells (fromSg c ps q)))∧Since w w':=by
 have hr:=fun wx Rx=>implInRoom c.iN c.iD c.iR c.pa c.pn c.pc ps gd wx Rx
 unfold inVal at hr
 unfold fromSg
 generalize inRoomN c.iN c.iD c.iR ps=rm at hr ⊢
 go_enter Tryz.func119,Tryz.ntmps119
 go_upto_region 1 with (fail)
 rw [sg_zero]
 have G:=((Since.refl w).alloc (.cells (cnCells c) 39)).alloc (.cells (sgCells sgZero) 41)
 have A:=(Blk.new w (cnCells c) 39).since ((Since.refl _).alloc (.cells (sgCells sgZero) 41))
 have Z:=Blk.new (w.alloc (.cells (cnCells c) 39)) (sgCells sgZero) 41
 rw [World.size_alloc] at Z
 generalize (w.alloc (.cells (cnCells c) 39)).alloc (.cells (sgCells sgZero) 41)=x0 at A Z G ⊢
 have hZ:=Z.lt
 refine wp_region_tail (wb:=x0) 8 (fun i x v=>match i with
   | 0=>v=.int .u32 q
   | 1=>v=.pointer (some ⟨w.heap.size,11,none⟩)
   | 2=>v=.pointer (some ⟨w.heap.size,11,none⟩)
   | 3=>v=.int .u32 c.iN
   | 4=>v=.pointer (some ⟨w.heap.size,11,none⟩)
   | 5=>v=.agg #[.int .u32 c.iN,.string c.iD,.slice c.pa c.pn c.pc,.int .i64 c.iR]
   | 6=>v=.int .i64 rm
   | 7=>v=.agg (sgCells ⟨0,0,q,c.iN,16,rm,0,ByteArray.empty⟩)
   | _=>True) (fun v=>{tmps:=#[.agg (cnCells c),.int .u32 q,.pointer (some ⟨w.heap.size,0,none⟩),undef,.pointer (some ⟨w.heap.size+1,0,none⟩),v 0,v 1,v 2,v 3,v 4,v 5,v 6,v 7],defers:=[]}) (by kernel_rfl) (by kernel_rfl) (by kernel_rfl) (Since.refl _) ?_ (fun vals=>by kernel_rfl) ?_ ?_
 case refine_1=>
  intro j x x' v h1 h2
  match j,h2 with
  | 0,h2|1,h2|2,h2|3,h2|4,h2|5,h2|6,h2|7,h2=>exact h2
  | n+8,_=>trivial
 case refine_2=>
  repeat (first|exact eachDoes_nil|refine eachDoes_cons ?_ ?_)
  all_goals intro vals x hx hv
  all_goals simp [Region.binds] at hv
  ·simp [does,doesUpon,go_sem,hv,Since.refl]
   rfl
  ·simp [does,doesUpon,go_sem,hv]
   refine (hr _ (R.since (G.trans hx))).mono ?_
   rintro _ x' ⟨rfl,h1⟩
   simp [h1]
  ·exact does_part_load (A.since hx) pIn_big _ rfl 11 hv [.int .u32 c.iN,.string c.iD,.slice c.pa c.pn c.pc,.int .i64 c.iR] rfl (fun j v hj=>by match j,hj with|0,h=>exact h|1,h=>exact h|2,h=>exact h|3,h=>exact h|n+4,h=>exact absurd h (by simp)) ⟨Since.refl _,rfl⟩
  ·simp [does,doesUpon,go_sem,Since.refl]
  ·have fl0:x.cell? ⟨w.heap.size,11,none⟩=some (.int .u32 c.iN):=(A.since hx).cell 11
   simp [does,doesUpon,go_sem,hv,fl0,Since.refl]
  ·simp [does,doesUpon,go_sem,hv,Since.refl]
  ·simp [does,doesUpon,go_sem,Since.refl]
  ·simp [does,doesUpon,go_sem,Since.refl]
 case refine_3=>
  intro qv3 qw1 qh2 hv
  have hv0:qv3 0=_:=hv 0 (by decide)
  have hv1:qv3 1=_:=hv 1 (by decide)
  have hv2:qv3 2=_:=hv 2 (by decide)
  have hv3:qv3 3=_:=hv 3 (by decide)
  have hv4:qv3 4=_:=hv 4 (by decide)
  have hv5:qv3 5=_:=hv 5 (by decide)
  have hv6:qv3 6=_:=hv 6 (by decide)
  have hv7:qv3 7=_:=hv 7 (by decide)
  clear hv
  simp only [hv0,hv1,hv2,hv3,hv4,hv5,hv6,hv7,List.drop]
  clear hv0 hv1 hv2 hv3 hv4 hv5 hv6 hv7
  replace A:=A.since qh2
  replace Z:=Z.since qh2
  replace G:=G.trans qh2
  have qh2_s:=qh2.size
  refine VL.out ?_
  refine sB (sgCells ⟨0,0,q,c.iN,16,rm,0,ByteArray.empty⟩) seg_big Z rfl rfl (seg_one _ _ _ _ _ _ _ _) ?_
  intro qw4 qt5 qB6
  clear Z
  replace A:=A.touch qt5 (by omega)
  replace G:=since_touch G qt5 (by omega)
  have qt5_s:=qt5.size
  refine vE #[.agg (cnCells c),.int .u32 q,.pointer (some ⟨w.heap.size,0,none⟩),U,.pointer (some ⟨w.heap.size+1,0,none⟩),.int .u32 q,.pointer (some ⟨w.heap.size,11,none⟩),.pointer (some ⟨w.heap.size,11,none⟩),.int .u32 c.iN,.pointer (some ⟨w.heap.size,11,none⟩),.agg #[.int .u32 c.iN,.string c.iD,.slice c.pa c.pn c.pc,.int .i64 c.iR],.int .i64 rm,.agg (sgCells ⟨0,0,q,c.iN,16,rm,0,ByteArray.empty⟩)] ?_
  go_wp2_with (fail)
  exact bodyPost_ret (results_big (u:=4) seg_big rfl rfl _ rfl qB6) rfl ⟨rfl,G⟩
def wholeN (c:Cn):Int:=min 100 (leftC c)
def pieceN (c:Cn):Int:=if min (wholeN c) (mayI c)<wholeN c∧c.una≠c.nxt then 0 else min (wholeN c) (mayI c)
theorem may_is (c:Cn):mayI c=mayN c - distI c.una c.nxt:=by
 unfold mayI mayN
 split<;>omega
theorem size_is (c:Cn):sizeN c=min (wholeN c) (mayI c):=by
 unfold sizeN capN wholeN
 rw [← may_is]
 generalize mayI c=m
 generalize leftC c=l
 split<;>split<;>omega
theorem piece_goes (c:Cn):(0<pieceN c↔stopsB c=false)∧(0<pieceN c→pieceN c=sizeN c):=by
 unfold pieceN stopsB
 rw [size_is]
 unfold wholeN
 generalize mayI c=m
 generalize leftC c=l
 by_cases h:c.una=c.nxt
 ·simp [h]
  omega
 ·simp [h]
  split<;>omega
theorem implPieceLen (c:Cn) (hu:IsWord c.una) (hn:IsWord c.nxt) (h1:0≤c.wnd∧c.wnd≤65535) (h2:0≤c.cX∧c.cX≤65535) (w:World) :
  Calls Tryz.prog 116 #[.agg (cnCells c)] w fun e w'=>e=.returned (.int .i64 (pieceN c))∧Since w w':=by
 have hl:=fun wx=>implLeft c hn wx
 have hm:=fun wx=>implMay c hu hn h1 h2 wx
 obtain ⟨v,hv⟩:∃ v,Hid (v=pieceN c):=⟨_,rfl⟩
 rw [← hv.out]
 have hvv:=hv.out
 unfold pieceN wholeN at hvv
 generalize leftC c=lf at hl hvv
 generalize mayI c=my at hm hvv
 obtain ⟨wl,hwl⟩:∃ q,Hid (q=min 100 lf):=⟨_,rfl⟩
 rw [← hwl.out] at hvv
 obtain ⟨nn,hnn⟩:∃ q,Hid (q=min wl my):=⟨_,rfl⟩
 rw [← hnn.out] at hvv
 replace hvv:Hid _:=hvv
 have G:=(Since.refl w).alloc (.cells (cnCells c) 39)
 have A:=Blk.new w (cnCells c) 39
 go_enter Tryz.func116,Tryz.ntmps116
 go_upto_region 1 with (fail)
 generalize w.alloc (.cells (cnCells c) 39)=x0 at A G ⊢
 have hA:=A.lt
 refine vR ?_
 refine vB cn_big A (cn_size _) ?_
 refine vK (hl _) ?_
 intro qw1 qg2
 replace A:=A.since qg2
 replace G:=G.trans qg2
 have qg2_s:=qg2.size
 refine vV (.int .i64 wl) ?_ (hrun:=by rw [hwl.out];simp [go_sem])
 refine vV (.int .i64 wl) ?_
 refine vE #[.agg (cnCells c),.pointer (some ⟨w.heap.size,0,none⟩),.int .i64 0,.int .i64 wl,U,.agg (cnCells c),.int .i64 lf,.int .i64 wl,U,U,U,U,U,U,U,U,U,U,U,U,U,U,U] ?_
 go_upto_region 2 with (fail)
 refine vR ?_
 refine vV (.int .i64 wl) ?_
 refine vB cn_big A (cn_size _) ?_
 refine vK (hm _) ?_
 intro qw3 qg4
 replace A:=A.since qg4
 replace G:=G.trans qg4
 have qg4_s:=qg4.size
 refine vV (.int .i64 nn) ?_ (hrun:=by rw [hnn.out];simp [go_sem])
 refine vV (.int .i64 nn) ?_
 refine vE #[.agg (cnCells c),.pointer (some ⟨w.heap.size,0,none⟩),.int .i64 0,.int .i64 wl,.int .i64 nn,.agg (cnCells c),.int .i64 lf,.int .i64 wl,.int .i64 wl,.agg (cnCells c),.int .i64 my,.int .i64 nn,U,U,U,U,U,U,U,U,U,U,U] ?_
 go_upto_region 3 with (fail)
 have f_una:qw3.cell? ⟨w.heap.size,2,none⟩=some (.int .u32 c.una):=A.cell 2
 have f_nxt:qw3.cell? ⟨w.heap.size,3,none⟩=some (.int .u32 c.nxt):=A.cell 3
 by_cases k1:nn<wl
 case neg=>
  have e:Hid (v=nn):=hvv.out.trans (if_neg fun h=>k1 h.1)
  go_wp2_with (fail)
  go_ret
  exact ⟨by rw [e.out];rfl,G⟩
 case pos=>
  by_cases k2:c.una=c.nxt
  case pos=>
   have e:Hid (v=nn):=hvv.out.trans (if_neg fun h=>h.2 k2)
   have k2':(c.una != c.nxt)=false:=by simp [k2]
   clear k2
   go_wp2_with (fail)
   go_ret
   exact ⟨by rw [e.out];rfl,G⟩
  case neg=>
   have e:Hid (v=0):=hvv.out.trans (if_pos ⟨k1,k2⟩)
   have k2':(c.una != c.nxt)=true:=by simpa using k2
   clear k2
   go_wp2_with (fail)
   go_ret
   exact ⟨by rw [e.out];rfl,G⟩
theorem implFromNow (g:Nat) (now:Int) (d:Cn) (sv:Value) (h0:0≤now) (h1:now≤1000000000) (w:World) (A:Blk g w (actCells d now sv)) :
  Calls Tryz.prog 123 #[.pointer (some ⟨g,0,none⟩)] w fun e w'=>e=.returned (.int .i64 (now+waitOf d.rA d.rS d.rV d.rD))∧Since w w':=by
 have hw:=fun wx=>implWait d.rA d.rS d.rV d.rD wx
 have hb:=wait_in11 d.rA d.rS d.rV d.rD
 unfold rttVal at hw
 generalize waitOf d.rA d.rS d.rV d.rD=wt at hw hb ⊢
 have hs:Hid (IntKind.i64.wrap (now+wt)=now+wt):=by
  show _=_
  rw [IntWalk.i64_left]
  exact IntWalk.wrap64_in _ ⟨by omega,by omega⟩
 clear hb
 have G:=Since.refl w
 go_enter Tryz.func123,Tryz.ntmps123
 go_upto_region 1 with (fail)
 refine wp_region_qs (wb:=w) (by kernel_rfl) (by kernel_rfl) (Since.refl _) ?_
 refine qV (pX g 0) ?_
 refine qV (pX g 0) ?_
 refine qV (pX g 37) ?_
 refine qC ⟨g,37,none⟩ (iJ now) (fun y hy=>(A.since hy).cell 37) ?_
 refine qV (pX g 0) ?_
 refine qV (pX g 0) ?_
 refine qV (pX g 0) ?_
 refine qV (pX g 19) ?_
 refine q_part A (by kernel_rfl) pRtt_big _ rfl 19 (by kernel_rfl) [.bool d.rA,.int .i64 d.rS,.int .i64 d.rV,.int .i64 d.rD] rfl (fun j v hj=>by match j,hj with|0,h=>exact h|1,h=>exact h|2,h=>exact h|3,h=>exact h|n+4,h=>exact absurd h (by simp)) ?_
 refine q_call (by kernel_rfl) 140 #[.agg #[.bool d.rA,.int .i64 d.rS,.int .i64 d.rV,.int .i64 d.rD]] (.int .i64 wt) (fun x=>by kernel_rfl) (fun x hx=>hw x) ?_
 refine q_val (by kernel_rfl) (.int .i64 (now+wt)) (fun x hx=>by rw [← hs.out];kernel_rfl) ?_
 refine qV (iJ (now+wt)) ?_
 refine q_frame (a':={tmps:=#[pX g 0,U,iJ (now+wt),pX g 0,pX g 0,pX g 37,iJ now,pX g 0,pX g 0,pX g 0,pX g 19,.agg #[.bool d.rA,iJ d.rS,iJ d.rV,iJ d.rD],iJ wt,iJ (now+wt)],defers:=[]}) (by kernel_rfl) ?_
 refine q_nil ?_
 intro qw1 qh2
 replace A:=A.since qh2
 replace G:=G.trans qh2
 have qh2_s:=qh2.size
 go_wp2_with (fail)
 go_ret
 exact ⟨rfl,G⟩
theorem implMoveOn (B g pg:Nat) (now:Int) (ps:List (Int×ByteArray)) (d:Cn) (gs n cap:Nat) (xs:List Sg) (k:Int) (hm:IsWord d.mx) (h0:0≤now) (h1:now≤1000000000) (w:World) (a:Acts B g pg now ps d gs n cap xs w) :
  Calls Tryz.prog 121 #[.pointer (some ⟨g,0,none⟩),.int .i64 k] w fun e w'=>e=.returned (.tuple #[])∧ActsX B g pg now ps (wentC d k now) (xs) w'∧Base B w w':=by
 obtain ⟨A,L,P,pa,lo,i,j,l⟩:=a
 have hA:=A.lt
 have hL:=L.lt
 have hLo:=L.low'
 have hP:=P.lt
 have hPo:=P.low'
 have G:Base B w w:=Base.refl (by omega)
 have hwd:=fun wx=>implWord k (k % 4294967296) ⟨by omega,by omega,by omega⟩ wx
 have hmx:=fun wx=>implMax d.mx (nxtN d k) _ hm (isWord_mod _) (distI_is _ _) wx
 obtain ⟨mv,hmv⟩:∃ q,Hid (q=mxN d k):=⟨_,rfl⟩
 have hme:=hmv.out
 unfold mxN at hme
 rw [← hme] at hmx
 clear hme
 obtain ⟨nx,hnx⟩:∃ q,Hid (q=nxtN d k):=⟨_,rfl⟩
 rw [← hnx.out] at hmx
 have hwr:Hid (IntKind.u32.wrap (d.nxt+k % 4294967296)=nx):=hnx.out.symm
 obtain ⟨b,hbb⟩:∃ q,Hid (q=(d.agn == 0)):=⟨_,rfl⟩
 have ew:Hid (wentC d k now={d with nxt:=nx,mx:=mv,agn:=if d.agn=0 then now+waitOf d.rA d.rS d.rV d.rD else d.agn,owe:=false}):=by
  show _=_
  rw [hnx.out,hmv.out]
  rfl
 go_enter Tryz.func121,Tryz.ntmps121
 go_upto_region 1 with (fail)
 refine wp_region_tail (wb:=w) 9 (fun i x v=>match i with
   | 0=>v=.pointer (some ⟨g,0,none⟩)
   | 1=>v=.pointer (some ⟨g,0,none⟩)
   | 2=>v=.pointer (some ⟨g,3,none⟩)
   | 3=>v=.int .u32 d.nxt
   | 4=>v=.int .i64 k
   | 5=>v=.int .u32 (k % 4294967296)
   | 6=>v=.int .u32 nx
   | 7=>v=.pointer (some ⟨g,0,none⟩)
   | 8=>v=.pointer (some ⟨g,3,none⟩)
   | _=>True) (fun v=>{tmps:=#[pX g 0,iJ k,U,U,pX g 0,pX g 0,pX g 0,pX g 0,v 0,v 1,v 2,v 3,v 4,v 5,v 6,v 7,v 8,U,U,U,U,U,U,U,U,U,U,U,U,U,U,U,U,U,U,U,U,U,U,U,U,U],defers:=[]}) (by kernel_rfl) (by kernel_rfl) (by kernel_rfl) (Since.refl _) ?_ (fun vals=>by kernel_rfl) ?_ ?_
 case refine_1=>
  intro j x x' v h1 h2
  match j,h2 with
  | 0,h2|1,h2|2,h2|3,h2|4,h2|5,h2|6,h2|7,h2|8,h2=>exact h2
  | n+9,_=>trivial
 case refine_2=>
  repeat (first|exact eachDoes_nil|refine eachDoes_cons ?_ ?_)
  all_goals intro vals x hx hv
  all_goals simp [Region.binds] at hv
  ·simp [does,doesUpon,go_sem,hv,Since.refl]
  ·simp [does,doesUpon,go_sem,hv,Since.refl]
  ·simp [does,doesUpon,go_sem,hv,Since.refl,hwr.out]
  ·simp [does,doesUpon,go_sem,hv]
   refine (hwd _).mono ?_
   rintro _ x' ⟨rfl,rfl⟩
   simp [Since.refl]
  ·simp [does,doesUpon,go_sem,Since.refl]
  ·have fl0:x.cell? ⟨g,3,none⟩=some (.int .u32 d.nxt):=(A.since hx).cell 3
   simp [does,doesUpon,go_sem,hv,fl0,Since.refl]
  ·simp [does,doesUpon,go_sem,hv,Since.refl]
  ·simp [does,doesUpon,go_sem,hv,Since.refl]
  ·simp [does,doesUpon,go_sem,Since.refl]
 case refine_3=>
  intro qv3 qw1 qh2 hv
  have hv0:qv3 0=_:=hv 0 (by decide)
  have hv1:qv3 1=_:=hv 1 (by decide)
  have hv2:qv3 2=_:=hv 2 (by decide)
  have hv3:qv3 3=_:=hv 3 (by decide)
  have hv4:qv3 4=_:=hv 4 (by decide)
  have hv5:qv3 5=_:=hv 5 (by decide)
  have hv6:qv3 6=_:=hv 6 (by decide)
  have hv7:qv3 7=_:=hv 7 (by decide)
  have hv8:qv3 8=_:=hv 8 (by decide)
  clear hv
  simp only [hv0,hv1,hv2,hv3,hv4,hv5,hv6,hv7,hv8,List.drop]
  clear hv0 hv1 hv2 hv3 hv4 hv5 hv6 hv7 hv8
  replace A:=A.since qh2
  replace L:=L.since qh2
  replace P:=P.since qh2
  replace G:=G.trans qh2
  have qh2_s:=qh2.size
  refine VL.out ?_
  refine sC (actCells {d with nxt:=nx} now (.slice (some ⟨gs,0,none⟩) n cap)) A 3 (.int .u32 nx) (act_size _ _ _) ?_
  intro qw4 qt5 qB6
  clear A
  replace L:=L.touch qt5 (by omega)
  replace P:=P.touch qt5 (by omega)
  replace G:=G.touch qt5 (by omega)
  have qt5_s:=qt5.size
  refine vE #[pX g 0,iJ k,U,U,pX g 0,pX g 0,pX g 0,pX g 0,pX g 0,pX g 0,pX g 3,uJ d.nxt,iJ k,uJ (k % 4294967296),uJ nx,pX g 0,pX g 3,U,U,U,U,U,U,U,U,U,U,U,U,U,U,U,U,U,U,U,U,U,U,U,U,U] ?_
  go_upto_region 2 with (fail)
  refine wp_region_tail (wb:=qw4) 12 (fun i x v=>match i with
    | 0=>v=.pointer (some ⟨g,0,none⟩)
    | 1=>v=.pointer (some ⟨g,0,none⟩)
    | 2=>v=.pointer (some ⟨g,0,none⟩)
    | 3=>v=.pointer (some ⟨g,4,none⟩)
    | 4=>v=.int .u32 d.mx
    | 5=>v=.pointer (some ⟨g,0,none⟩)
    | 6=>v=.pointer (some ⟨g,0,none⟩)
    | 7=>v=.pointer (some ⟨g,3,none⟩)
    | 8=>v=.int .u32 nx
    | 9=>v=.int .u32 mv
    | 10=>v=.pointer (some ⟨g,0,none⟩)
    | 11=>v=.pointer (some ⟨g,4,none⟩)
    | _=>True) (fun v=>{tmps:=#[pX g 0,iJ k,U,U,pX g 0,pX g 0,pX g 0,pX g 0,pX g 0,pX g 0,pX g 3,uJ d.nxt,iJ k,uJ (k % 4294967296),uJ nx,pX g 0,pX g 3,v 0,v 1,v 2,v 3,v 4,v 5,v 6,v 7,v 8,v 9,v 10,v 11,U,U,U,U,U,U,U,U,U,U,U,U,U],defers:=[]}) (by kernel_rfl) (by kernel_rfl) (by kernel_rfl) (Since.refl _) ?_ (fun vals=>by kernel_rfl) ?_ ?_
  case refine_1=>
   intro j x x' v h1 h2
   match j,h2 with
   | 0,h2|1,h2|2,h2|3,h2|4,h2|5,h2|6,h2|7,h2|8,h2|9,h2|10,h2|11,h2=>exact h2
   | n+12,_=>trivial
  case refine_2=>
   repeat (first|exact eachDoes_nil|refine eachDoes_cons ?_ ?_)
   all_goals intro vals x hx hv
   all_goals simp [Region.binds] at hv
   ·simp [does,doesUpon,go_sem,hv,Since.refl]
   ·simp [does,doesUpon,go_sem,hv,Since.refl]
   ·simp [does,doesUpon,go_sem,hv]
    refine (hmx _).mono ?_
    rintro _ x' ⟨rfl,rfl⟩
    simp [Since.refl]
   ·have fl0:x.cell? ⟨g,3,none⟩=some (.int .u32 nx):=(qB6.since hx).cell 3
    simp [does,doesUpon,go_sem,hv,fl0,Since.refl]
   ·simp [does,doesUpon,go_sem,hv,Since.refl]
   ·simp [does,doesUpon,go_sem,hv,Since.refl]
   ·simp [does,doesUpon,go_sem,Since.refl]
   ·have fl0:x.cell? ⟨g,4,none⟩=some (.int .u32 d.mx):=(qB6.since hx).cell 4
    simp [does,doesUpon,go_sem,hv,fl0,Since.refl]
   ·simp [does,doesUpon,go_sem,hv,Since.refl]
   ·simp [does,doesUpon,go_sem,hv,Since.refl]
   ·simp [does,doesUpon,go_sem,Since.refl]
   ·simp [does,doesUpon,go_sem,Since.refl]
  case refine_3=>
   intro qv9 qw7 qh8 hv
   have hv0:qv9 0=_:=hv 0 (by decide)
   have hv1:qv9 1=_:=hv 1 (by decide)
   have hv2:qv9 2=_:=hv 2 (by decide)
   have hv3:qv9 3=_:=hv 3 (by decide)
   have hv4:qv9 4=_:=hv 4 (by decide)
   have hv5:qv9 5=_:=hv 5 (by decide)
   have hv6:qv9 6=_:=hv 6 (by decide)
   have hv7:qv9 7=_:=hv 7 (by decide)
   have hv8:qv9 8=_:=hv 8 (by decide)
   have hv9:qv9 9=_:=hv 9 (by decide)
   have hv10:qv9 10=_:=hv 10 (by decide)
   have hv11:qv9 11=_:=hv 11 (by decide)
   clear hv
   simp only [hv0,hv1,hv2,hv3,hv4,hv5,hv6,hv7,hv8,hv9,hv10,hv11,List.drop]
   clear hv0 hv1 hv2 hv3 hv4 hv5 hv6 hv7 hv8 hv9 hv10 hv11
   replace qB6:=qB6.since qh8
   replace L:=L.since qh8
   replace P:=P.since qh8
   replace G:=G.trans qh8
   have qh8_s:=qh8.size
   refine VL.out ?_
   refine sC (actCells {d with nxt:=nx,mx:=mv} now (.slice (some ⟨gs,0,none⟩) n cap)) qB6 4 (.int .u32 mv) (act_size _ _ _) ?_
   intro qw10 qt11 qB12
   clear qB6
   replace L:=L.touch qt11 (by omega)
   replace P:=P.touch qt11 (by omega)
   replace G:=G.touch qt11 (by omega)
   have qt11_s:=qt11.size
   refine vE #[pX g 0,iJ k,U,U,pX g 0,pX g 0,pX g 0,pX g 0,pX g 0,pX g 0,pX g 3,uJ d.nxt,iJ k,uJ (k % 4294967296),uJ nx,pX g 0,pX g 3,pX g 0,pX g 0,pX g 0,pX g 4,uJ d.mx,pX g 0,pX g 0,pX g 3,uJ nx,uJ mv,pX g 0,pX g 4,U,U,U,U,U,U,U,U,U,U,U,U,U] ?_
   go_upto_region 3 with (fail)
   refine vR ?_
   refine vV (pX g 0) ?_
   refine vV (pX g 0) ?_
   refine vV (pX g 31) ?_
   refine vD (iJ d.agn) (qB12.cell 31) ?_
   refine vV (.bool b) ?_ (hrun:=by rw [hbb.out];kernel_rfl)
   refine vE #[pX g 0,iJ k,U,U,pX g 0,pX g 0,pX g 0,pX g 0,pX g 0,pX g 0,pX g 3,uJ d.nxt,iJ k,uJ (k % 4294967296),uJ nx,pX g 0,pX g 3,pX g 0,pX g 0,pX g 0,pX g 4,uJ d.mx,pX g 0,pX g 0,pX g 3,uJ nx,uJ mv,pX g 0,pX g 4,pX g 0,pX g 0,pX g 31,iJ d.agn,.bool b,U,U,U,U,U,U,U,U] ?_
   cases b
   case false=>
    have ea:Hid (wentC d k now={d with nxt:=nx,mx:=mv,agn:=d.agn,owe:=false}):=by
     show _=_
     have:=hbb.out
     rw [ew.out,if_neg (by simpa using this.symm)]
    go_upto_region 5 with (fail)
    refine vR ?_
    refine vV (pX g 0) ?_
    refine vV (pX g 0) ?_
    refine vV (pX g 36) ?_
    refine sC (actCells {d with nxt:=nx,mx:=mv,owe:=false} now (.slice (some ⟨gs,0,none⟩) n cap)) qB12 36 (.bool false) (act_size _ _ _) ?_
    intro qw13 qt14 qB15
    clear qB12
    replace L:=L.touch qt14 (by omega)
    replace P:=P.touch qt14 (by omega)
    replace G:=G.touch qt14 (by omega)
    have qt14_s:=qt14.size
    refine vE #[pX g 0,iJ k,U,U,pX g 0,pX g 0,pX g 0,pX g 0,pX g 0,pX g 0,pX g 3,uJ d.nxt,iJ k,uJ (k % 4294967296),uJ nx,pX g 0,pX g 3,pX g 0,pX g 0,pX g 0,pX g 4,uJ d.mx,pX g 0,pX g 0,pX g 3,uJ nx,uJ mv,pX g 0,pX g 4,pX g 0,pX g 0,pX g 31,iJ d.agn,bF,U,U,U,U,U,pX g 0,pX g 0,pX g 36] ?_
    go_wp2_with (fail)
    refine bodyPost_end (v:=.tuple #[]) (results_none rfl _ _ _) rfl ⟨rfl,?_,G⟩
    rw [ea.out]
    exact ⟨_,_,_,⟨qB15,L,P,pa,lo,(by omega),(by omega),(by omega)⟩⟩
   case true=>
    have hfn:=fun (dd:Cn) wx Ax=>implFromNow g now dd (.slice (some ⟨gs,0,none⟩) n cap) h0 h1 wx Ax
    have ea:Hid (wentC d k now={d with nxt:=nx,mx:=mv,agn:=now+waitOf d.rA d.rS d.rV d.rD,owe:=false}):=by
     show _=_
     have:=hbb.out
     rw [ew.out,if_pos (by simpa using this.symm)]
    go_upto_region 4 with (fail)
    refine vR ?_
    refine vV (pX g 0) ?_
    refine vV (pX g 0) ?_
    refine vK (hfn _ _ qB12) ?_
    intro qw13 qg14
    replace qB12:=qB12.since qg14
    replace L:=L.since qg14
    replace P:=P.since qg14
    replace G:=G.trans qg14
    have qg14_s:=qg14.size
    refine vV (pX g 0) ?_
    refine vV (pX g 31) ?_
    refine sC (actCells {d with nxt:=nx,mx:=mv,agn:=(now+waitOf d.rA d.rS d.rV d.rD)} now (.slice (some ⟨gs,0,none⟩) n cap)) qB12 31 (.int .i64 (now+waitOf d.rA d.rS d.rV d.rD)) (act_size _ _ _) ?_
    intro qw15 qt16 qB17
    clear qB12
    replace L:=L.touch qt16 (by omega)
    replace P:=P.touch qt16 (by omega)
    replace G:=G.touch qt16 (by omega)
    have qt16_s:=qt16.size
    refine vE #[pX g 0,iJ k,U,U,pX g 0,pX g 0,pX g 0,pX g 0,pX g 0,pX g 0,pX g 3,uJ d.nxt,iJ k,uJ (k % 4294967296),uJ nx,pX g 0,pX g 3,pX g 0,pX g 0,pX g 0,pX g 4,uJ d.mx,pX g 0,pX g 0,pX g 3,uJ nx,uJ mv,pX g 0,pX g 4,pX g 0,pX g 0,pX g 31,iJ d.agn,bT,pX g 0,pX g 0,iJ (now+waitOf d.rA d.rS d.rV d.rD),pX g 0,pX g 31,U,U,U] ?_
    go_upto_region 5 with (fail)
    refine vR ?_
    refine vV (pX g 0) ?_
    refine vV (pX g 0) ?_
    refine vV (pX g 36) ?_
    refine sC (actCells {d with nxt:=nx,mx:=mv,agn:=(now+waitOf d.rA d.rS d.rV d.rD),owe:=false} now (.slice (some ⟨gs,0,none⟩) n cap)) qB17 36 (.bool false) (act_size _ _ _) ?_
    intro qw18 qt19 qB20
    clear qB17
    replace L:=L.touch qt19 (by omega)
    replace P:=P.touch qt19 (by omega)
    replace G:=G.touch qt19 (by omega)
    have qt19_s:=qt19.size
    refine vE #[pX g 0,iJ k,U,U,pX g 0,pX g 0,pX g 0,pX g 0,pX g 0,pX g 0,pX g 3,uJ d.nxt,iJ k,uJ (k % 4294967296),uJ nx,pX g 0,pX g 3,pX g 0,pX g 0,pX g 0,pX g 4,uJ d.mx,pX g 0,pX g 0,pX g 3,uJ nx,uJ mv,pX g 0,pX g 4,pX g 0,pX g 0,pX g 31,iJ d.agn,bT,pX g 0,pX g 0,iJ (now+waitOf d.rA d.rS d.rV d.rD),pX g 0,pX g 31,pX g 0,pX g 0,pX g 36] ?_
    go_wp2_with (fail)
    refine bodyPost_end (v:=.tuple #[]) (results_none rfl _ _ _) rfl ⟨rfl,?_,G⟩
    rw [ea.out]
    exact ⟨_,_,_,⟨qB20,L,P,pa,lo,(by omega),(by omega),(by omega)⟩⟩
end Go.Proofs.YtmigalhmlofbkaaGreatDoor
