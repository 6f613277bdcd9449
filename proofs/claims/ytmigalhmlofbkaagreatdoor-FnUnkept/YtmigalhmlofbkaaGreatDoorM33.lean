/- A part of the proof. -/
import Derived.Test.YtmigalhmlofbkaaGreatDoorM27
import Derived.Deep.RegionWith
set_option linter.unusedVariables false
set_option maxRecDepth 20000
set_option maxHeartbeats 8000000
namespace Go.Proofs.YtmigalhmlofbkaaGreatDoor
open Go.ChangeShapes Go.WideShapes Go.ChangeAt Go.RowKit
def synV (c:Cn) (ps:List (Int×ByteArray)):Value:=segVal 0 0 c.iss (if c.st=2 then c.iN else 0) (if c.st=2 then 18 else 2) (inRoomN c.iN c.iD c.iR ps) 100 ByteArray.empty
def synSg (c:Cn) (ps:List (Int×ByteArray)):Sg:=⟨0,0,c.iss,if c.st=2 then c.iN else 0,if c.st=2 then 18 else 2,inRoomN c.iN c.iD c.iR ps,100,ByteArray.empty⟩
theorem specSyn (c:Cn) (ps:List (Int×ByteArray)) (gd:Good c.iN c.iD c.iR c.pn ps) (w:World) (R:Rd shP w c.pa c.pn ps) :
  Calls Tryz.prog 98 #[cnVal c] w fun e w'=>e=.returned (synV c ps)∧Since w w':=by
 have hroom:=fun wx Rx=>specInRoom c.iN c.iD c.iR c.pa c.pn c.pc ps gd wx Rx
 unfold synV segVal inVal at *
 generalize inRoomN c.iN c.iD c.iR ps=q at hroom ⊢
 obtain ⟨ak,hak⟩:∃ ak,ak=(if c.st=2 then c.iN else 0):=⟨_,rfl⟩
 obtain ⟨fl,hfl⟩:∃ fl:Int,fl=(if c.st=2 then 18 else 2):=⟨_,rfl⟩
 rw [← hak,← hfl]
 clear gd
 unfold cnVal
 go_enter Tryz.func98,Tryz.ntmps98
 go_upto_region 1 with (fail)
 have A:=(Blk.new w (cnCells c) 39).since ((Since.refl _).alloc (.cells #[.int .i64 0,.int .i64 0,.int .u32 0,.int .u32 0,.int .i64 0,.int .i64 0,.int .i64 0,.string ⟨#[]⟩] 41))
 have Z:=Blk.new (w.alloc (.cells (cnCells c) 39)) #[.int .i64 0,.int .i64 0,.int .u32 0,.int .u32 0,.int .i64 0,.int .i64 0,.int .i64 0,.string ⟨#[]⟩] 41
 rw [World.size_alloc] at Z
 have G:=((Since.refl w).alloc (.cells (cnCells c) 39)).alloc (.cells #[.int .i64 0,.int .i64 0,.int .u32 0,.int .u32 0,.int .i64 0,.int .i64 0,.int .i64 0,.string ⟨#[]⟩] 41)
 replace R:=R.since G
 generalize (w.alloc (.cells (cnCells c) 39)).alloc (.cells #[.int .i64 0,.int .i64 0,.int .u32 0,.int .u32 0,.int .i64 0,.int .i64 0,.int .i64 0,.string ⟨#[]⟩] 41)=w1 at A Z G R ⊢
 have hZ:=Z.lt
 refine wp_region_tail (wb:=w1) 7 (fun i x v=>match i with
   | 0=>v=.pointer (some ⟨w.heap.size,1,none⟩)
   | 1=>v=.int .u32 c.iss
   | 2=>v=.pointer (some ⟨w.heap.size,11,none⟩)
   | 3=>v=.agg #[.int .u32 c.iN,.string c.iD,.slice c.pa c.pn c.pc,.int .i64 c.iR]
   | 4=>v=.int .i64 q
   | 5=>v=.agg #[.int .i64 0,.int .i64 0,.int .u32 c.iss,.int .u32 0,.int .i64 2,.int .i64 q,.int .i64 100,.string ⟨#[]⟩]
   | 6=>∃ g,v=.pointer (some ⟨g,0,none⟩)∧w1.heap.size≤g∧Blk g x #[.int .i64 0,.int .i64 0,.int .u32 0,.int .u32 0,.int .i64 0,.int .i64 0,.int .i64 0,.string ⟨#[]⟩]
   | _=>True) (fun v=>{tmps:=#[Value.agg (cnCells c),Value.pointer (some ⟨w.heap.size,0,none⟩),Value.pointer (some ⟨w.heap.size+1,0,none⟩),v 6,v 0,v 1,v 2,v 3,v 4,v 5,undef,undef,undef,undef,undef,undef,undef,undef,undef],defers:=[]}) (by kernel_rfl) (by kernel_rfl) (by kernel_rfl) (Since.refl _) ?_ (fun vals=>by kernel_rfl) ?_ ?_
 case refine_1=>
  intro i x x' v h1 h2
  match i,h2 with
  | 6,⟨g,e,l,B⟩=>exact ⟨g,e,l,B.since h1⟩
  | 0,h2|1,h2|2,h2|3,h2|4,h2|5,h2=>exact h2
  | n+7,_=>trivial
 case refine_2=>
  repeat (first|exact eachDoes_nil|refine eachDoes_cons ?_ ?_)
  all_goals intro vals x hx hv
  all_goals simp [Region.binds] at hv
  ·simp [does,doesUpon,go_sem]
   exact ⟨(Since.refl _).alloc _,hx.size,Blk.new x _ _⟩
  ·simp [does,doesUpon,go_sem,hv,Since.refl]
  ·simp [does,doesUpon,go_sem,hv]
   refine (hroom x (R.since hx)).mono ?_
   rintro _ x' ⟨rfl,h1⟩
   simp [h1]
  ·have B:=A.since hx
   have f_iN:x.cell? ⟨w.heap.size,11,none⟩=some (.int .u32 c.iN):=B.cell 11
   have f_iD:x.cell? ⟨w.heap.size,12,none⟩=some (.string c.iD):=B.cell 12
   have f_iP:x.cell? ⟨w.heap.size,13,none⟩=some (.slice c.pa c.pn c.pc):=B.cell 13
   have f_iR:x.cell? ⟨w.heap.size,14,none⟩=some (.int .i64 c.iR):=B.cell 14
   simp [does,doesUpon,go_sem,hv,f_iN,f_iD,f_iP,f_iR,Since.refl]
  ·simp [does,doesUpon,go_sem,Since.refl]
  ·have B:=A.since hx
   have f_iss:x.cell? ⟨w.heap.size,1,none⟩=some (.int .u32 c.iss):=B.cell 1
   simp [does,doesUpon,go_sem,hv,f_iss,Since.refl]
  ·simp [does,doesUpon,go_sem,Since.refl]
 case refine_3=>
  intro vals x hx hv
  obtain ⟨g,h6,hg,S⟩:=hv 6 (by decide)
  have h5:vals 5=_:=hv 5 (by decide)
  clear hv
  simp only [h5,h6]
  clear h5 h6
  refine store_big seg_big rfl rfl (seg_one _ _ _ _ _ _ _ _) S rfl _ _ rfl rfl rfl ?_
  intro y ty S
  replace A:=(A.since hx).touch ty (by omega)
  replace Z:=(Z.since hx).touch ty (by omega)
  replace G:=since_touch (G.trans hx) ty (by omega)
  clear hx ty R hroom
  by_cases h2:c.st=2
  ·simp only [h2,if_true] at hak hfl
   subst hak hfl
   have f_st:y.cell? ⟨w.heap.size,0,none⟩=some (.int .i64 2):=by rw [← h2];exact A.cell 0
   have f_iN:y.cell? ⟨w.heap.size,11,none⟩=some (.int .u32 c.iN):=A.cell 11
   have s4:y.cell? ⟨g,4,none⟩=some (.int .i64 2):=S.cell 4
   have z4:=S.fz 4
   obtain ⟨y1,e1,t1,S1⟩:∃ y1,y.setCell ⟨g,4,none⟩ (.int .i64 18)=y1∧Touch g y y1∧Blk g y1 #[.int .i64 0,.int .i64 0,.int .u32 c.iss,.int .u32 0,.int .i64 18,.int .i64 q,.int .i64 100,.string ⟨#[]⟩]:=⟨_,rfl,(Touch.refl g y).put 4 _,S.put 4 _ (by simp)⟩
   replace A:=A.touch t1 (by omega)
   replace Z:=Z.touch t1 (by omega)
   replace G:=since_touch G t1 (by omega)
   have f_iN1:y1.cell? ⟨w.heap.size,11,none⟩=some (.int .u32 c.iN):=A.cell 11
   have s3:y1.cell? ⟨g,3,none⟩=some (.int .u32 0):=S1.cell 3
   have z3:=S1.fz 3
   obtain ⟨y2,e2,t2,S2⟩:∃ y2,y1.setCell ⟨g,3,none⟩ (.int .u32 c.iN)=y2∧Touch g y1 y2∧Blk g y2 #[.int .i64 0,.int .i64 0,.int .u32 c.iss,.int .u32 c.iN,.int .i64 18,.int .i64 q,.int .i64 100,.string ⟨#[]⟩]:=⟨_,rfl,(Touch.refl g y1).put 3 _,S1.put 3 _ (by simp)⟩
   replace Z:=Z.touch t2 (by omega)
   replace G:=since_touch G t2 (by omega)
   go_upto_region 5 with (fail)
   refine wp_region_lit ?_
   refine load_big seg_big rfl S2 rfl _ rfl rfl ?_
   refine store_big seg_big rfl rfl (seg_one _ _ _ _ _ _ _ _) Z rfl _ _ rfl rfl rfl ?_
   intro z tz Bz
   replace G:=since_touch G tz (by omega)
   go_wp2_with (fail)
   exact bodyPost_ret (results_big seg_big rfl rfl _ rfl Bz) rfl ⟨rfl,G⟩
  ·simp only [h2,if_false] at hak hfl
   subst hak hfl
   have f_st:y.cell? ⟨w.heap.size,0,none⟩=some (.int .i64 c.st):=A.cell 0
   have h3:(c.st == 2)=false:=by simpa using h2
   go_upto_region 5 with (fail)
   refine wp_region_lit ?_
   refine load_big seg_big rfl S rfl _ rfl rfl ?_
   refine store_big seg_big rfl rfl (seg_one _ _ _ _ _ _ _ _) Z rfl _ _ rfl rfl rfl ?_
   intro z tz Bz
   replace G:=since_touch G tz (by omega)
   go_wp2_with (fail)
   exact bodyPost_ret (results_big seg_big rfl rfl _ rfl Bz) rfl ⟨rfl,G⟩
def rstSg (q:Int):Sg:=⟨0,0,q,0,4,0,0,ByteArray.empty⟩
def opnC (c:Cn) (s:Sg):Cn:={c with iN:=(s.sq+1) % 4294967296,wnd:=s.wn,wsq:=s.sq,wak:=s.ak,una:=(c.iss+1) % 4294967296,st:=3,owe:=true,agn:=0,trs:=0}
def synC (c:Cn) (s:Sg):Cn:={c with iN:=(s.sq+1) % 4294967296,wnd:=s.wn,wsq:=s.sq,wak:=s.ak,st:=2}
def startZ (a i now:Int):Cn:={cnZero with st:=a,iss:=i,una:=i,nxt:=((i+1) % 4294967296),mx:=((i+1) % 4294967296),cX:=200,cT:=8000,tmg:=true,tsq:=i,tat:=now,agn:=(now+10)}
def startC (a i room now nx:Int):Cn:={startZ a i now with oF:=(i+1) % 4294967296,oD:=ByteArray.empty,oR:=room,iN:=nx,iD:=ByteArray.empty,pa:=none,pn:=0,pc:=0,iR:=room}
theorem specStartC (a i room now nx:Int) (h0:0≤now) (h1:now≤1000000000) (w:World) :
  Calls Tryz.prog 97 #[.int .i64 a,.int .u32 i,.int .i64 room,.int .i64 now,.int .u32 nx] w fun e w'=>e=.returned (cnVal (startC a i room now nx))∧Since w w':=by
 have k1:=fun wx=>specStart 8000 wx
 rw [show min (max (8000:Int) 200) 8000=8000 by omega] at k1
 unfold congVal at k1
 unfold cnVal
 have Z:=Blk.new w (cnCells cnZero) 39
 have G:=(Since.refl w).alloc (.cells (cnCells cnZero) 39)
 go_enter Tryz.func97,Tryz.ntmps97
 go_upto_region 1 with (fail)
 rw [cn_zero]
 generalize w.alloc (.cells (cnCells cnZero) 39)=x0 at Z G ⊢
 have hw:IntKind.i64.wrap (now+10)=now+10:=by rw [IntWalk.i64_left];exact IntWalk.wrap64_in _ ⟨by omega,by omega⟩
 refine wp_region_lit ?_
 refine step_val (w':=x0) rfl (.int .i64 a) (by kernel_rfl) ?_
 refine step_val (w':=x0) rfl (.int .u32 i) (by kernel_rfl) ?_
 refine step_val (w':=x0) rfl (.int .u32 i) (by kernel_rfl) ?_
 refine step_val (w':=x0) rfl (.int .u32 i) (by kernel_rfl) ?_
 refine step_val (w':=x0) rfl (.int .u32 ((i+1) % 4294967296)) (by kernel_rfl) ?_
 refine step_val (w':=x0) rfl (.int .u32 i) (by kernel_rfl) ?_
 refine step_val (w':=x0) rfl (.int .u32 ((i+1) % 4294967296)) (by kernel_rfl) ?_
 refine call_step rfl 130 #[.int .i64 8000] (by kernel_rfl) (k1 _) ?_
 rintro _ x1 ⟨rfl,g1⟩
 refine ⟨_,rfl,?_⟩
 replace Z:=Z.since g1
 replace G:=G.trans g1
 refine step_val (w':=x1) rfl (.int .u32 i) (by kernel_rfl) ?_
 refine step_val (w':=x1) rfl (.int .i64 now) (by kernel_rfl) ?_
 refine step_val (w':=x1) rfl (.int .i64 now) (by kernel_rfl) ?_
 refine step_val (w':=x1) rfl (.int .i64 (now+10)) (by rw [← hw];kernel_rfl) ?_
 refine step_val (w':=x1) rfl (.agg (cnCells (startZ a i now))) (by kernel_rfl) ?_
 refine step_val (w':=x1.alloc (.cells (cnCells cnZero) 39)) rfl (.pointer (some ⟨x1.heap.size,0,none⟩)) (by kernel_rfl) ?_
 refine wpList_frame (a':={tmps:=#[.int .i64 a,.int .u32 i,.int .i64 room,.int .i64 now,.int .u32 nx,undef,undef,undef,undef,undef,.pointer (some ⟨w.heap.size,0,none⟩),.pointer (some ⟨x1.heap.size,0,none⟩),.int .i64 a,.int .u32 i,.int .u32 i,.int .u32 i,.int .u32 ((i+1) % 4294967296),.int .u32 i,.int .u32 ((i+1) % 4294967296),.agg #[.int .i64 200,.int .i64 8000,.int .i64 0,.bool false,.int .u32 0],.int .u32 i,.int .i64 now,.int .i64 now,.int .i64 (now+10),.agg (cnCells (startZ a i now)),undef,undef,undef,undef,undef,undef,undef,undef,undef,undef],defers:=[]}) (by kernel_rfl) ?_
 have hz1:=Z.lt
 have A:=Blk.new x1 (cnCells cnZero) 39
 have g1':=(Since.refl x1).alloc (.cells (cnCells cnZero) 39)
 replace Z:=Z.since g1'
 replace G:=G.trans g1'
 refine store_cn A rfl _ _ rfl rfl rfl ?_
 intro x2 t2 A2
 replace Z:=Z.touch t2 (by omega)
 replace G:=since_touch G t2 (by omega)
 clear A t2 g1'
 have fs0_oF:x2.cell? ⟨x1.heap.size,8,none⟩=some (.int .u32 (startZ a i now).oF):=A2.cell 8
 have zs0:=A2.fz 8
 obtain ⟨ys0,es0,ts0,Bs0⟩:=put_cn (c':={(startZ a i now) with oF:=((i+1) % 4294967296)}) A2 8 (.int .u32 ((i+1) % 4294967296)) (by decide) rfl
 replace Z:=Z.touch ts0 (by omega)
 replace G:=since_touch G ts0 (by omega)
 have fs1_oD:ys0.cell? ⟨x1.heap.size,9,none⟩=some (.string (startZ a i now).oD):=Bs0.cell 9
 have zs1:=Bs0.fz 9
 obtain ⟨ys1,es1,ts1,Bs1⟩:=put_cn (c':={(startZ a i now) with oF:=((i+1) % 4294967296),oD:=⟨#[]⟩}) Bs0 9 (.string ⟨#[]⟩) (by decide) rfl
 replace Z:=Z.touch ts1 (by omega)
 replace G:=since_touch G ts1 (by omega)
 have fs2_oR:ys1.cell? ⟨x1.heap.size,10,none⟩=some (.int .i64 (startZ a i now).oR):=Bs1.cell 10
 have zs2:=Bs1.fz 10
 obtain ⟨ys2,es2,ts2,Bs2⟩:=put_cn (c':={(startZ a i now) with oF:=((i+1) % 4294967296),oD:=⟨#[]⟩,oR:=room}) Bs1 10 (.int .i64 room) (by decide) rfl
 replace Z:=Z.touch ts2 (by omega)
 replace G:=since_touch G ts2 (by omega)
 have fs3_iN:ys2.cell? ⟨x1.heap.size,11,none⟩=some (.int .u32 (startZ a i now).iN):=Bs2.cell 11
 have zs3:=Bs2.fz 11
 obtain ⟨ys3,es3,ts3,Bs3⟩:=put_cn (c':={(startZ a i now) with oF:=((i+1) % 4294967296),oD:=⟨#[]⟩,oR:=room,iN:=nx}) Bs2 11 (.int .u32 nx) (by decide) rfl
 replace Z:=Z.touch ts3 (by omega)
 replace G:=since_touch G ts3 (by omega)
 have fs4_iD:ys3.cell? ⟨x1.heap.size,12,none⟩=some (.string (startZ a i now).iD):=Bs3.cell 12
 have zs4:=Bs3.fz 12
 obtain ⟨ys4,es4,ts4,Bs4⟩:=put_cn (c':={(startZ a i now) with oF:=((i+1) % 4294967296),oD:=⟨#[]⟩,oR:=room,iN:=nx,iD:=⟨#[]⟩}) Bs3 12 (.string ⟨#[]⟩) (by decide) rfl
 replace Z:=Z.touch ts4 (by omega)
 replace G:=since_touch G ts4 (by omega)
 have fs5_iP:ys4.cell? ⟨x1.heap.size,13,none⟩=some (.slice (startZ a i now).pa (startZ a i now).pn (startZ a i now).pc):=Bs4.cell 13
 have zs5:=Bs4.fz 13
 obtain ⟨ys5,es5,ts5,Bs5⟩:=put_cn (c':={(startZ a i now) with oF:=((i+1) % 4294967296),oD:=⟨#[]⟩,oR:=room,iN:=nx,iD:=⟨#[]⟩,pa:=none,pn:=0,pc:=0}) Bs4 13 (.slice (none) (0) (0)) (by decide) rfl
 replace Z:=Z.touch ts5 (by omega)
 replace G:=since_touch G ts5 (by omega)
 have fs6_iR:ys5.cell? ⟨x1.heap.size,14,none⟩=some (.int .i64 (startZ a i now).iR):=Bs5.cell 14
 have zs6:=Bs5.fz 14
 obtain ⟨ys6,es6,ts6,Bs6⟩:=put_cn (c':={(startZ a i now) with oF:=((i+1) % 4294967296),oD:=⟨#[]⟩,oR:=room,iN:=nx,iD:=⟨#[]⟩,pa:=none,pn:=0,pc:=0,iR:=room}) Bs5 14 (.int .i64 room) (by decide) rfl
 replace Z:=Z.touch ts6 (by omega)
 replace G:=since_touch G ts6 (by omega)
 go_upto_region 4 with (fail)
 refine wp_region_lit ?_
 refine load_cn Bs6 rfl _ rfl rfl ?_
 refine store_cn Z rfl _ _ rfl rfl rfl ?_
 intro z tz Bz
 replace G:=since_touch G tz (by omega)
 go_wp2_with (fail)
 exact bodyPost_ret (results_cn (t:=10) rfl _ rfl Bz) rfl ⟨rfl,G⟩
theorem results_cn3 {fn:Func} {t u v:Tmp} {b g:Nat} {w:World} {c:Cn} {s:Sg} (h:fn.results=#[.cell t 39,.cell u 41,.tmp v]) (tmps:Array Value) (hp:tmps.getD t undef=.pointer (some ⟨b,0,none⟩)) (hu:tmps.getD u undef=.pointer (some ⟨g,0,none⟩)) (B:Blk b w (cnCells c)) (S:Blk g w (sgCells s)):(results fn tmps).run Tryz.prog w=.ok (.tuple #[.agg (cnCells c),.agg (sgCells s),tmps.getD v undef]) w:=by
 have e:=ret_cn B
 have e':=var_big seg_big rfl S
 have hq:tmps[t]?.getD undef=.pointer (some ⟨b,0,none⟩):=by simpa using hp
 have hr:tmps[u]?.getD undef=.pointer (some ⟨g,0,none⟩):=by simpa using hu
 simp [results,h,hq,hr,asAddr,e,e']
def askV (i room now:Int):Value:=if (1≤room∧room≤4096)∧0≤now∧now≤1000000000 then .tuple #[cnVal (startC 1 i room now 0),sgVal (synSg (startC 1 i room now 0) []),.bool true] else .tuple #[cnVal cnZero,sgVal sgZero,.bool false]
theorem implBegin (i room now:Int) (h0:0≤now) (h1:now≤1000000000) (w:World) :
  Calls Tryz.prog 23 #[.int .u32 i,.int .i64 room,.int .i64 now] w fun e w'=>e=.returned (cnVal (startC 1 i room now 0))∧Since w w':=by
 have k1:=fun wx=>implStart 8000 wx
 rw [show min (max (8000:Int) 200) 8000=8000 by omega] at k1
 unfold cnVal
 have Z:=Blk.new w (cnCells cnZero) 39
 have G:=(Since.refl w).alloc (.cells (cnCells cnZero) 39)
 go_enter Tryz.func23,Tryz.ntmps23
 go_upto_region 1 with (fail)
 rw [cn_zero]
 generalize w.alloc (.cells (cnCells cnZero) 39)=x0 at Z G ⊢
 have hw:IntKind.i64.wrap (now+10)=now+10:=by rw [IntWalk.i64_left];exact IntWalk.wrap64_in _ ⟨by omega,by omega⟩
 refine wp_region_lit ?_
 refine step_val (w':=x0) rfl (.int .u32 i) (by kernel_rfl) ?_
 refine step_val (w':=x0) rfl (.int .u32 i) (by kernel_rfl) ?_
 refine step_val (w':=x0) rfl (.int .u32 i) (by kernel_rfl) ?_
 refine step_val (w':=x0) rfl (.int .u32 ((i+1) % 4294967296)) (by kernel_rfl) ?_
 refine step_val (w':=x0) rfl (.int .u32 i) (by kernel_rfl) ?_
 refine step_val (w':=x0) rfl (.int .u32 ((i+1) % 4294967296)) (by kernel_rfl) ?_
 refine wpList_frame (a':={tmps:=#[.int .u32 i,.int .i64 room,.int .i64 now,undef,undef,undef,.pointer (some ⟨w.heap.size,0,none⟩),.int .u32 i,.int .u32 i,.int .u32 i,.int .u32 ((i+1) % 4294967296),.int .u32 i,.int .u32 ((i+1) % 4294967296),undef,undef,undef,undef,undef,undef,undef,undef,undef,undef,undef,undef],defers:=[]}) (by kernel_rfl) ?_
 refine step_val (w':=x0) rfl (.int .u32 i) (by kernel_rfl) ?_
 refine step_val (w':=x0) rfl (.int .u32 ((i+1) % 4294967296)) (by kernel_rfl) ?_
 refine step_val (w':=x0) rfl (.int .i64 room) (by kernel_rfl) ?_
 refine step_val (w':=x0) rfl (.agg #[.int .u32 ((i+1) % 4294967296),.string ByteArray.empty,.int .i64 room]) (by kernel_rfl) ?_
 refine step_val (w':=x0) rfl (.int .i64 room) (by kernel_rfl) ?_
 refine step_val (w':=x0) rfl (.agg #[.int .u32 0,.string ByteArray.empty,.slice none 0 0,.int .i64 room]) (by kernel_rfl) ?_
 refine wpList_frame (a':={tmps:=#[.int .u32 i,.int .i64 room,.int .i64 now,undef,undef,undef,.pointer (some ⟨w.heap.size,0,none⟩),.int .u32 i,.int .u32 i,.int .u32 i,.int .u32 ((i+1) % 4294967296),.int .u32 i,.int .u32 ((i+1) % 4294967296),.int .u32 i,.int .u32 ((i+1) % 4294967296),.int .i64 room,.agg #[.int .u32 ((i+1) % 4294967296),.string ByteArray.empty,.int .i64 room],.int .i64 room,.agg #[.int .u32 0,.string ByteArray.empty,.slice none 0 0,.int .i64 room],undef,undef,undef,undef,undef,undef],defers:=[]}) (by kernel_rfl) ?_
 refine call_step rfl 56 #[.int .i64 8000] (by kernel_rfl) (k1 _) ?_
 rintro _ x1 ⟨rfl,g1⟩
 refine ⟨_,rfl,?_⟩
 replace Z:=Z.since g1
 replace G:=G.trans g1
 refine step_val (w':=x1) rfl (.int .i64 now) (by kernel_rfl) ?_
 refine step_val (w':=x1) rfl (.int .i64 (now+10)) (by rw [← hw];kernel_rfl) ?_
 refine step_val (w':=x1) rfl (.int .u32 i) (by kernel_rfl) ?_
 refine step_val (w':=x1) rfl (.int .i64 now) (by kernel_rfl) ?_
 refine wpList_frame (a':={tmps:=#[.int .u32 i,.int .i64 room,.int .i64 now,undef,undef,undef,.pointer (some ⟨w.heap.size,0,none⟩),.int .u32 i,.int .u32 i,.int .u32 i,.int .u32 ((i+1) % 4294967296),.int .u32 i,.int .u32 ((i+1) % 4294967296),.int .u32 i,.int .u32 ((i+1) % 4294967296),.int .i64 room,.agg #[.int .u32 ((i+1) % 4294967296),.string ByteArray.empty,.int .i64 room],.int .i64 room,.agg #[.int .u32 0,.string ByteArray.empty,.slice none 0 0,.int .i64 room],congVal 200 8000 0 false 0,.int .i64 now,.int .i64 (now+10),.int .u32 i,.int .i64 now,undef],defers:=[]}) (by kernel_rfl) ?_
 refine step_val (w':=x1) rfl (.agg (cnCells (startC 1 i room now 0))) (by kernel_rfl) ?_
 refine store_cn Z rfl _ _ rfl rfl rfl ?_
 intro z tz Bz
 replace G:=since_touch G tz (by omega)
 go_wp2_with (fail)
 exact bodyPost_ret (results_cn (t:=6) rfl _ rfl Bz) rfl ⟨rfl,G⟩
def synI (c:Cn):Sg:=⟨0,0,c.iss,if c.st=2 then c.iN else 0,if c.st=2 then 18 else 2,c.iR,100,ByteArray.empty⟩
theorem implSyn (c:Cn) (w:World) :
  Calls Tryz.prog 24 #[cnVal c] w fun e w'=>e=.returned (sgVal (synI c))∧Since w w':=by
 unfold synI sgVal sgCells
 obtain ⟨ak,hak⟩:∃ ak,ak=(if c.st=2 then c.iN else 0):=⟨_,rfl⟩
 obtain ⟨fl,hfl⟩:∃ fl:Int,fl=(if c.st=2 then 18 else 2):=⟨_,rfl⟩
 simp only [← hak,← hfl]
 unfold cnVal
 go_enter Tryz.func24,Tryz.ntmps24
 go_upto_region 1 with (fail)
 have A:=(Blk.new w (cnCells c) 39).since ((Since.refl _).alloc (.cells #[.int .i64 0,.int .i64 0,.int .u32 0,.int .u32 0,.int .i64 0,.int .i64 0,.int .i64 0,.string ⟨#[]⟩] 41))
 have Z:=Blk.new (w.alloc (.cells (cnCells c) 39)) #[.int .i64 0,.int .i64 0,.int .u32 0,.int .u32 0,.int .i64 0,.int .i64 0,.int .i64 0,.string ⟨#[]⟩] 41
 rw [World.size_alloc] at Z
 have G:=((Since.refl w).alloc (.cells (cnCells c) 39)).alloc (.cells #[.int .i64 0,.int .i64 0,.int .u32 0,.int .u32 0,.int .i64 0,.int .i64 0,.int .i64 0,.string ⟨#[]⟩] 41)
 generalize (w.alloc (.cells (cnCells c) 39)).alloc (.cells #[.int .i64 0,.int .i64 0,.int .u32 0,.int .u32 0,.int .i64 0,.int .i64 0,.int .i64 0,.string ⟨#[]⟩] 41)=w1 at A Z G ⊢
 have hZ:=Z.lt
 have hA:=A.lt
 have f_iss:w1.cell? ⟨w.heap.size,1,none⟩=some (.int .u32 c.iss):=A.cell 1
 have f_iR:w1.cell? ⟨w.heap.size,14,none⟩=some (.int .i64 c.iR):=A.cell 14
 refine wp_region_lit ?_
 refine step_val (w':=w1) rfl (.pointer (some ⟨w.heap.size,1,none⟩)) (by kernel_rfl) ?_
 refine load_cell rfl _ _ rfl _ rfl _ f_iss (by kernel_rfl) ?_
 refine step_val (w':=w1) rfl (.pointer (some ⟨w.heap.size,11,none⟩)) (by kernel_rfl) ?_
 refine step_val (w':=w1) rfl (.pointer (some ⟨w.heap.size,14,none⟩)) (by kernel_rfl) ?_
 refine load_cell rfl _ _ rfl _ rfl _ f_iR (by kernel_rfl) ?_
 refine step_val (w':=w1) rfl (.agg #[.int .i64 0,.int .i64 0,.int .u32 c.iss,.int .u32 0,.int .i64 2,.int .i64 c.iR,.int .i64 100,.string ⟨#[]⟩]) (by kernel_rfl) ?_
 refine step_val (w':=w1.alloc (.cells #[.int .i64 0,.int .i64 0,.int .u32 0,.int .u32 0,.int .i64 0,.int .i64 0,.int .i64 0,.string ⟨#[]⟩] 41)) rfl (.pointer (some ⟨w1.heap.size,0,none⟩)) (by kernel_rfl) ?_
 have S0:=Blk.new w1 #[.int .i64 0,.int .i64 0,.int .u32 0,.int .u32 0,.int .i64 0,.int .i64 0,.int .i64 0,.string ⟨#[]⟩] 41
 have g1:=(Since.refl w1).alloc (.cells #[.int .i64 0,.int .i64 0,.int .u32 0,.int .u32 0,.int .i64 0,.int .i64 0,.int .i64 0,.string ⟨#[]⟩] 41)
 replace A:=A.since g1
 replace Z:=Z.since g1
 replace G:=G.trans g1
 have hg:w1.heap.size≤w1.heap.size:=Nat.le_refl _
 obtain ⟨g,eg⟩:∃ g,g=w1.heap.size:=⟨_,rfl⟩
 refine store_big seg_big rfl rfl (seg_one _ _ _ _ _ _ _ _) S0 rfl _ _ rfl rfl rfl ?_
 intro y ty S
 rw [← eg] at ty S ⊢
 rw [← eg] at hZ hA
 clear f_iss f_iR S0 g1 hg eg
 replace A:=A.touch ty (by omega)
 replace Z:=Z.touch ty (by omega)
 replace G:=since_touch G ty (by omega)
 clear ty
 by_cases h2:c.st=2
 ·simp only [h2,if_true] at hak hfl
  subst hak hfl
  have f_st:y.cell? ⟨w.heap.size,0,none⟩=some (.int .i64 2):=by rw [← h2];exact A.cell 0
  have f_iN:y.cell? ⟨w.heap.size,11,none⟩=some (.int .u32 c.iN):=A.cell 11
  have s4:y.cell? ⟨g,4,none⟩=some (.int .i64 2):=S.cell 4
  have z4:=S.fz 4
  have s3':y.cell? ⟨g,3,none⟩=some (.int .u32 0):=S.cell 3
  have z3':=S.fz 3
  obtain ⟨y1,e1,t1,S1⟩:∃ y1,y.setCell ⟨g,4,none⟩ (.int .i64 18)=y1∧Touch g y y1∧Blk g y1 #[.int .i64 0,.int .i64 0,.int .u32 c.iss,.int .u32 0,.int .i64 18,.int .i64 c.iR,.int .i64 100,.string ⟨#[]⟩]:=⟨_,rfl,(Touch.refl g y).put 4 _,S.put 4 _ (by simp)⟩
  replace A:=A.touch t1 (by omega)
  replace Z:=Z.touch t1 (by omega)
  replace G:=since_touch G t1 (by omega)
  have s3:y1.cell? ⟨g,3,none⟩=some (.int .u32 0):=S1.cell 3
  have z3:=S1.fz 3
  obtain ⟨y2,e2,t2,S2⟩:∃ y2,y1.setCell ⟨g,3,none⟩ (.int .u32 c.iN)=y2∧Touch g y1 y2∧Blk g y2 #[.int .i64 0,.int .i64 0,.int .u32 c.iss,.int .u32 c.iN,.int .i64 18,.int .i64 c.iR,.int .i64 100,.string ⟨#[]⟩]:=⟨_,rfl,(Touch.refl g y1).put 3 _,S1.put 3 _ (by simp)⟩
  replace Z:=Z.touch t2 (by omega)
  replace G:=since_touch G t2 (by omega)
  go_upto_region 3 with (fail)
  go_region
  rw [show bits BinOp.or IntKind.i64 2 16=18 by kernel_rfl,e1,e2]
  have gd:=(Since.refl y2).drew
  replace S2:=S2.since gd
  replace Z:=Z.since gd
  replace G:=G.trans gd
  generalize y2.drew=y3 at S2 Z G ⊢
  clear gd e1 e2 t1 t2 S1 A s3 z3 s3' z3' s4 z4 f_iN f_st S
  go_upto_region 4 with (fail)
  refine wp_region_lit ?_
  refine load_big seg_big rfl S2 rfl _ rfl rfl ?_
  refine store_big seg_big rfl rfl (seg_one _ _ _ _ _ _ _ _) Z rfl _ _ rfl rfl rfl ?_
  intro z tz Bz
  replace G:=since_touch G tz (by omega)
  go_wp2_with (fail)
  exact bodyPost_ret (results_big seg_big rfl rfl _ rfl Bz) rfl ⟨rfl,G⟩
 ·simp only [h2,if_false] at hak hfl
  subst hak hfl
  have f_st:y.cell? ⟨w.heap.size,0,none⟩=some (.int .i64 c.st):=A.cell 0
  have h3:(c.st == 2)=false:=by simpa using h2
  go_upto_region 4 with (fail)
  refine wp_region_lit ?_
  refine load_big seg_big rfl S rfl _ rfl rfl ?_
  refine store_big seg_big rfl rfl (seg_one _ _ _ _ _ _ _ _) Z rfl _ _ rfl rfl rfl ?_
  intro z tz Bz
  replace G:=since_touch G tz (by omega)
  go_wp2_with (fail)
  exact bodyPost_ret (results_big seg_big rfl rfl _ rfl Bz) rfl ⟨rfl,G⟩
theorem synI_is {a i room now nx:Int} (h:1≤room∧room≤4096):synI (startC a i room now nx)=synSg (startC a i room now nx) []:=by
 have e:inOk nx ByteArray.empty room []=true:=by
  unfold inOk
  have:ByteArray.empty.size=0:=rfl
  simp [this,spans,okB]
  omega
 have e2:inRoomN nx ByteArray.empty room []=room:=by
  unfold inRoomN
  rw [if_pos e]
  have:ByteArray.empty.size=0:=rfl
  omega
 unfold synI synSg
 show Sg.mk 0 0 i _ _ room 100 _=Sg.mk 0 0 i _ _ (inRoomN nx ByteArray.empty room []) 100 _
 rw [e2]
theorem run_build1 (s:Sg) (w:World):(Instr.buildSlice 47 1 #[(0,.agg (sgCells s))]).run Tryz.prog w=.ok (.slice (some ⟨w.heap.size,0,none⟩) 1 1) (w.alloc (.cells (sgCells s) 41)):=by kernel_rfl
theorem does_build1 {op:Oper} {a:Act} {w:World} {R:Value→World→Prop} (s:Sg) (x:Operand) (ho:op.op=.buildSlice 47 1 #[(0,x)]) (hx:a.eval x=.agg (sgCells s))
  (h:R (.slice (some ⟨w.heap.size,0,none⟩) 1 1) (w.alloc (.cells (sgCells s) 41))):does Tryz.prog op a w R:=by
 have e:=run_build1 s w
 have e2:(Array.map (fun y:Nat×Operand=>(y.fst,a.eval y.snd)) #[(0,x)])=#[(0,.agg (sgCells s))]:=by simp [hx]
 unfold does execOp
 simp only [ho,e2,Sem.run_bind,e,Result.andThen_ok,Sem.run_pure]
 exact h
theorem implSends (B g pg:Nat) (now:Int) (ps:List (Int×ByteArray)) (d:Cn) (gs n cap:Nat) (xs:List Sg) (s:Sg) (hb:Nat) (hn:n≤200000) (w:World) (a:Acts B g pg now ps d gs n cap xs w) (Y:Held shG w B hb 1 1 [s]) (hne:g≠hb) :
  Calls Tryz.prog 120 #[.pointer (some ⟨g,0,none⟩),.slice (some ⟨hb,0,none⟩) 1 1] w fun e w'=>e=.returned (.tuple #[])∧ActsX B g pg now ps (d) (xs++[s]) w'∧Base B w w':=by
 obtain ⟨A,L,P,pa,lo,i,j,l⟩:=a
 have hA:=A.lt
 have hL:=L.lt
 have hLo:=L.low'
 have hP:=P.lt
 have hPo:=P.low'
 have G:Base B w w:=Base.refl (by omega)
 have hY:=Y.lt
 go_enter Tryz.func120,Tryz.ntmps120
 refine vR ?_
 refine vV (.pointer (some ⟨g,0,none⟩)) ?_
 refine vV (.pointer (some ⟨g,0,none⟩)) ?_
 refine vV (.pointer (some ⟨g,0,none⟩)) ?_
 refine vV (.pointer (some ⟨g,38,none⟩)) ?_
 refine vD (.slice (some ⟨gs,0,none⟩) n cap) (A.cell 38) ?_
 refine vV (.slice (some ⟨hb,0,none⟩) 1 1) ?_
 refine vA L Y.reads (by unfold maxLen;omega) (by omega) (by have:=G.size;omega) ?_
 intro qb5 qc6 qw1 qL2 qr3 ho
 have qt4:=touch_grownG qr3
 have qL2_o:=L.low'
 have qL2_p:=L.lt
 replace ho:=own_or ho
 replace A:=A.touch qt4 (by omega)
 replace P:=P.touch qt4 (by omega)
 replace G:=G.touch qt4 (by omega)
 have qt4_s:=qt4.size
 have qL2_o2:=qL2.low'
 have qL2_l:=qL2.lt
 clear L Y
 refine vV (.pointer (some ⟨g,0,none⟩)) ?_
 refine vV (.pointer (some ⟨g,38,none⟩)) ?_
 refine sC (actCells d now (.slice (some ⟨qb5,0,none⟩) (n+1) qc6)) A 38 (.slice (some ⟨qb5,0,none⟩) (n+1) qc6) (act_size _ _ _) ?_
 intro qw7 qt8 qB9
 clear A
 replace P:=P.touch qt8 (by omega)
 replace qL2:=qL2.touch qt8 (by omega)
 replace G:=G.touch qt8 (by omega)
 have qt8_s:=qt8.size
 refine vE #[.pointer (some ⟨g,0,none⟩),.slice (some ⟨hb,0,none⟩) 1 1,U,U,.pointer (some ⟨g,0,none⟩),.pointer (some ⟨g,0,none⟩),.pointer (some ⟨g,0,none⟩),.pointer (some ⟨g,38,none⟩),.slice (some ⟨gs,0,none⟩) n cap,.slice (some ⟨hb,0,none⟩) 1 1,.slice (some ⟨qb5,0,none⟩) (n+1) qc6,.pointer (some ⟨g,0,none⟩),.pointer (some ⟨g,38,none⟩)] ?_
 go_wp2_with (fail)
 exact bodyPost_end (v:=.tuple #[]) (results_none rfl _ _ _) rfl ⟨rfl,⟨_,_,_,⟨qB9,qL2,P,pa,lo,(by omega),(by omega),(by omega)⟩⟩,G⟩
theorem implActOf (c:Cn) (ps:List (Int×ByteArray)) (now:Int) (gc:GoodC c ps) (w:World) (R:Rd shP w c.pa c.pn ps) :
  Calls Tryz.prog 35 #[.agg (cnCells c),.int .i64 now] w fun e w'=>∃ g pg gs,e=.returned (.pointer (some ⟨g,0,none⟩))∧Acts w.heap.size g pg now ps {c with pa:=some ⟨pg,0,none⟩,pc:=c.pn} gs 0 0 [] w'∧Since w w':=by
 have hc:=fun wx Rx=>implFresh c ps gc wx Rx
 unfold cnVal at hc
 have G:=(Since.refl w).alloc (.cells (cnCells c) 39)
 have A:=Blk.new w (cnCells c) 39
 go_enter Tryz.func35,Tryz.ntmps35
 go_upto_region 1 with (fail)
 generalize w.alloc (.cells (cnCells c) 39)=x0 at A G ⊢
 have hA:=A.lt
 refine vR ?_
 refine vB cn_big A (cn_size _) ?_
 refine vC (hc _ (R.since G)) ?_
 rintro _ qw1 ⟨pg,rfl,H,qg2⟩
 refine ⟨_,rfl,?_⟩
 replace A:=A.since qg2
 replace G:=G.trans qg2
 have qg2_s:=qg2.size
 have hH0:=H.low'
 replace H:=H.raise (show w.heap.size≤pg by omega)
 have hH:=H.lt
 refine vV (.int .i64 now) ?_
 refine vW (qw1.alloc (.cells #[] 41)) (.slice (some ⟨qw1.heap.size,0,none⟩) 0 0) ?_
 have qL4:=heldG0 qw1
 have qg5:=(Since.refl qw1).alloc (.cells #[] 41)
 replace A:=A.since qg5
 replace H:=H.since qg5
 replace G:=G.trans qg5
 generalize qw1.alloc (.cells #[] 41)=qw3 at A H G qL4 qg5 ⊢
 have qg5_s:=qg5.size
 have qL4_g:=G.size
 have qL4_l:=qL4.lt
 replace qL4:=qL4.raise (show w.heap.size≤qw1.heap.size by omega)
 refine vF #[.agg (cnCells c),.int .i64 now,.pointer (some ⟨w.heap.size,0,none⟩),U,.pointer none,.agg (cnCells c),.agg (cnCells {c with pa:=some ⟨pg,0,none⟩,pc:=c.pn}),.int .i64 now,.slice (some ⟨qw1.heap.size,0,none⟩) 0 0,U,U] ?_
 refine VL.mk ?_
 refine VL.out ?_
 refine vV (.agg (actCells {c with pa:=some ⟨pg,0,none⟩,pc:=c.pn} now (.slice (some ⟨qw1.heap.size,0,none⟩) 0 0))) ?_
 refine vW (qw3.alloc (.cells (actCells {c with pa:=some ⟨pg,0,none⟩,pc:=c.pn} now (.slice (some ⟨qw1.heap.size,0,none⟩) 0 0)) 88)) (.pointer (some ⟨qw3.heap.size,0,none⟩)) ?_
 have qB7:=Blk.new qw3 (actCells {c with pa:=some ⟨pg,0,none⟩,pc:=c.pn} now (.slice (some ⟨qw1.heap.size,0,none⟩) 0 0)) 88
 have qg8:=(Since.refl qw3).alloc (.cells (actCells {c with pa:=some ⟨pg,0,none⟩,pc:=c.pn} now (.slice (some ⟨qw1.heap.size,0,none⟩) 0 0)) 88)
 replace A:=A.since qg8
 replace H:=H.since qg8
 replace qL4:=qL4.since qg8
 replace G:=G.trans qg8
 generalize qw3.alloc (.cells (actCells {c with pa:=some ⟨pg,0,none⟩,pc:=c.pn} now (.slice (some ⟨qw1.heap.size,0,none⟩) 0 0)) 88)=qw6 at A H qL4 G qB7 qg8 ⊢
 have qB7_l:=qB7.lt
 have qg8_s:=qg8.size
 refine vV (.pointer (some ⟨qw3.heap.size,0,none⟩)) ?_
 refine vE #[.agg (cnCells c),.int .i64 now,.pointer (some ⟨w.heap.size,0,none⟩),U,.pointer (some ⟨qw3.heap.size,0,none⟩),.agg (cnCells c),.agg (cnCells {c with pa:=some ⟨pg,0,none⟩,pc:=c.pn}),.int .i64 now,.slice (some ⟨qw1.heap.size,0,none⟩) 0 0,.agg (actCells {c with pa:=some ⟨pg,0,none⟩,pc:=c.pn} now (.slice (some ⟨qw1.heap.size,0,none⟩) 0 0)),.pointer (some ⟨qw3.heap.size,0,none⟩)] ?_
 go_wp2_with (fail)
 go_ret
 exact ⟨_,_,_,rfl,⟨qB7,qL4,H,rfl,by omega,by omega,by omega,by omega⟩,G⟩
end Go.Proofs.YtmigalhmlofbkaaGreatDoor
namespace Go.Proofs.YtmigalhmlofbkaaGreatDoor
open Go.ChangeShapes Go.WideShapes Go.ChangeAt Go.RowKit Go.Deep
section
variable {α:Type} {S:Shape α}
theorem run_append_new {sl bytes:Nat} (L:Laid S sl bytes) (ty:TypeId) (w:World) {B g:Nat} (T:Held S w B g 0 0 []) {x:Addr} {m c:Nat} {ys:List α} (R:Rd S w (some x) m ys) (hm:¬ m=0) (hby:m*bytes≤140737488355328) (hB:B≤w.heap.size) :
  ∃ g' cap' w',(Builtin.append_ #[sl,sl] ty #[.slice (some ⟨g,0,none⟩) 0 0,.slice (some x) m c]).run Tryz.prog w=.ok (.slice (some ⟨g',0,none⟩) m cap') w'∧Held S w' B g' m cap' ys∧Since w w'∧g'=w.heap.size:=by
 obtain ⟨hu,ii,z,hi,hz0,hz1,hz2,hzs⟩:=L
 have hr2:=run_append_grow (P:=Tryz.prog) w sl ty S.ty ii z hu hi hz0 ⟨g,0,none⟩ 0 0 [] (by simp) (fun j v hj=>by simp at hj) x m c (S.cells ys) (by rw [S.cells_len,R.len,hz1]) R.flat (by omega) (by have:=R.most;unfold maxLen at this;omega) (growslice_fits (by omega) (by rw [hz2,Nat.zero_add];exact hby))
 obtain ⟨g',cap',w',hr,hown,hgrow,hat,hlt⟩:=run_append_lies (P:=Tryz.prog) w sl ty B S.ty ii z S.k bytes hu hi hz0 hz1 hz2 hzs S.pos _ 0 _ T.2 x m c (S.cells ys) (by rw [S.cells_len,R.len]) R.flat (S.cells_one ys) (by omega) (by have:=R.most;omega) (by rw [Nat.zero_add];exact hby) hB _ rfl
 simp only [Nat.zero_add] at hr hown
 rw [hr] at hr2
 injection hr2 with e1 e
 refine ⟨g',cap',w',hr,⟨R.len,by simpa [Shape.cells] using hown⟩,by rw [e];exact ((Since.refl _).drew).alloc _,?_⟩
 simp at e1
 exact e1.1
theorem does_app_e {sl bytes:Nat} (L:Laid S sl bytes) {op:Oper} {a:Act} {w:World} {R:Value→World→Prop} {B g:Nat} (s x:Operand)
  (ho:op.op=.call {callee:=.builtin .append,args:=#[s,x],argTypes:=#[sl,sl]}) (hs:a.eval s=.slice (some ⟨g,0,none⟩) 0 0) (T:Held S w B g 0 0 []) {ao:Addr} {m c:Nat} {ys:List α} (hx:a.eval x=.slice (some ao) m c) (Q:Rd S w (some ao) m ys) (hm:¬ m=0) (hby:m*bytes≤140737488355328) (hB:B≤w.heap.size)
  (k:∀ g' cap' w',Held S w' g' g' m cap' ys→Since w w'→g'=w.heap.size→R (.slice (some ⟨g',0,none⟩) m cap') w'):does Tryz.prog op a w R:=by
 obtain ⟨g',cap',w',hrun,T',S',hg⟩:=run_append_new L op.type w T Q hm hby hB
 unfold does
 simp [execOp,ho,resolve,invoke,builtin,hs,hx,Result.andThen,doesUpon]
 have hrun2:Sem.run Tryz.prog (Builtin.append_ #[sl,sl] op.type #[Value.slice (some ⟨g,0,none⟩) 0 0,Value.slice (some ao) m c]) w=_:=hrun
 rw [hrun2]
 exact k g' cap' w' (T'.raise (Nat.le_refl _)) S' hg
end
def RowI (N:World) (kb:Nat) (sy:Sg) (f:Nat→Bool) (vals:Nat→Value) (x:World):Prop:=f kb=true→∃ hb,vals kb=.slice (some ⟨hb,0,none⟩) 1 1∧Held shG x N.heap.size hb 1 1 [sy]
section
variable {N x z:World} {kb:Nat} {sy:Sg} {f:Nat→Bool} {vals:Nat→Value}
theorem RowI.step (h:RowI N kb sy f vals x) (i:Nat) (hi:kb≠i) (u:Value):RowI N kb sy (andDone f i) (putVal vals i u) x:=by
 intro e
 rw [show andDone f i kb=f kb from if_neg hi] at e
 rw [show putVal vals i u kb=vals kb from if_neg hi]
 exact h e
theorem RowI.since (h:RowI N kb sy f vals x) (s:Since x z):RowI N kb sy f vals z:=by
 intro e
 obtain ⟨hb,a,b⟩:=h e
 exact ⟨hb,a,b.since s⟩
theorem RowI.touch {g:Nat} (h:RowI N kb sy f vals x) (t:Touch g x z) (hg:g<N.heap.size):RowI N kb sy f vals z:=by
 intro e
 obtain ⟨hb,a,b⟩:=h e
 exact ⟨hb,a,b.touch t (by have:=b.low';omega)⟩
theorem RowI.made (hN:N.heap.size≤x.heap.size):RowI N kb sy (andDone f kb) (putVal vals kb (.slice (some ⟨x.heap.size,0,none⟩) 1 1)) (x.alloc (.cells (sgCells sy) 41)):=by
 intro _
 exact ⟨x.heap.size,if_pos rfl,(heldG1 x sy).raise hN⟩
end
theorem ChainE.since {α:Type} {g:Nat} {w x z:World} {k b:Nat} {L:List Nat} {C0:Array Value} {C1:α→Array Value} {H:α→World→Prop} {E:Nat→α→Value→Prop} {f:Nat→Bool} {vals:Nat→Value} (h:ChainE g w k b L C0 C1 H E f vals x) (s:Since x z) (hH:∀ a,H a x→H a z):ChainE g w k b L C0 C1 H E f vals z:=
 ⟨h.touch.trans (touch_of s),h.pre,fun e=>(h.old e).since s,h.const,fun e=>by
  obtain ⟨a,h1,h2,h3⟩:=h.ex e
  exact ⟨a,hH a h1,h2,fun e=>(h3 e).since s⟩⟩
end Go.Proofs.YtmigalhmlofbkaaGreatDoor
