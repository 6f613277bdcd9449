/- A part of the proof. -/
import Derived.Test.YtmigalhmlofbkaaGreatDoorMH
set_option linter.unusedVariables false
set_option maxRecDepth 20000
set_option maxHeartbeats 8000000
namespace Go.Proofs.YtmigalhmlofbkaaGreatDoor
open Go.ChangeShapes Go.WideShapes Go.ChangeAt Go.RowKit Go.Deep
theorem implHasA (g:Nat) (d:Cn) (s:Sg) (now:Int) (sv:Value) (b:Int) (hf:IsInt s.fl) (hb:IsFlag b) (w:World) (A:Blk g w (arrCells d s now sv)) :
  Calls Tryz.prog 102 #[.pointer (some ⟨g,0,none⟩),.int .i64 b] w fun e w'=>e=.returned (.bool (hasF s.fl b))∧Since w w':=by
 have hh:=fun wx=>hasFlag s.fl b hf hb wx
 have hA:=A.lt
 have G:=Since.refl w
 go_enter Tryz.func102,Tryz.ntmps102
 go_upto_region 0 with (fail)
 refine vR ?_
 refine vV (bF) ?_
 refine vE #[pX g 0,iJ b,U,U,bF,U,U,U,U,U,U,U] ?_
 go_upto_region 1 with (fail)
 refine vR ?_
 refine vV (pX g 0) ?_
 refine vV (pX g 0) ?_
 refine vV (pX g 37) ?_
 refine vV (pX g 41) ?_
 refine vD (iJ s.fl) (A.cell 41) ?_
 refine vV (iJ b) ?_
 refine vC (hh _) ?_
 rintro _ _ ⟨rfl,rfl⟩
 refine ⟨_,rfl,?_⟩
 refine vV (.bool (hasF s.fl b)) ?_
 refine vE #[pX g 0,iJ b,U,U,.bool (hasF s.fl b),pX g 0,pX g 0,pX g 37,pX g 41,iJ s.fl,iJ b,.bool (hasF s.fl b)] ?_
 go_wp2_with (fail)
 go_ret
 exact ⟨rfl,G⟩
theorem implFinishA (g:Nat) (d:Cn) (s:Sg) (now:Int) (sv:Value) (why:Int) (w:World) (A:Blk g w (arrCells d s now sv)) :
  Calls Tryz.prog 103 #[.pointer (some ⟨g,0,none⟩),.int .i64 why] w fun e w'=>e=.returned (.tuple #[])∧Touch g w w'∧Blk g w' (arrCells (endC d why) s now sv):=by
 have hA:=A.lt
 have G:=Touch.refl g w
 go_enter Tryz.func103,Tryz.ntmps103
 go_upto_region 0 with (fail)
 refine vR ?_
 refine vV (pX g 0) ?_
 refine vV (pX g 0) ?_
 refine vV (iJ why) ?_
 refine vV (pX g 0) ?_
 refine vV (pX g 0) ?_
 refine sC (arrCells {d with st:=0} s now (sv)) A 0 (.int .i64 0) (arr_size _ _ _ _) ?_
 intro qw1 qt2 qB3
 clear A
 replace G:=touch_new G qt2 (by omega)
 have qt2_s:=qt2.size
 refine vV (pX g 0) ?_
 refine vV (pX g 35) ?_
 refine sC (arrCells {d with st:=0,why:=why} s now (sv)) qB3 35 (.int .i64 why) (arr_size _ _ _ _) ?_
 intro qw4 qt5 qB6
 clear qB3
 replace G:=touch_new G qt5 (by omega)
 have qt5_s:=qt5.size
 refine vE #[pX g 0,iJ why,U,U,pX g 0,pX g 0,iJ why,pX g 0,pX g 0,pX g 0,pX g 35,U,U,U,U,U,U,U,U,U,U,U,U] ?_
 go_upto_region 1 with (fail)
 refine vR ?_
 refine vV (pX g 0) ?_
 refine vV (pX g 0) ?_
 refine vV (pX g 0) ?_
 refine vV (pX g 0) ?_
 refine vV (pX g 0) ?_
 refine vV (pX g 31) ?_
 refine sC (arrCells {d with st:=0,why:=why,agn:=0} s now (sv)) qB6 31 (.int .i64 0) (arr_size _ _ _ _) ?_
 intro qw7 qt8 qB9
 clear qB6
 replace G:=touch_new G qt8 (by omega)
 have qt8_s:=qt8.size
 refine vV (pX g 0) ?_
 refine vV (pX g 32) ?_
 refine sC (arrCells {d with st:=0,why:=why,agn:=0,prb:=0} s now (sv)) qB9 32 (.int .i64 0) (arr_size _ _ _ _) ?_
 intro qw10 qt11 qB12
 clear qB9
 replace G:=touch_new G qt11 (by omega)
 have qt11_s:=qt11.size
 refine vV (pX g 0) ?_
 refine vV (pX g 33) ?_
 refine sC (arrCells {d with st:=0,why:=why,agn:=0,prb:=0,rst:=0} s now (sv)) qB12 33 (.int .i64 0) (arr_size _ _ _ _) ?_
 intro qw13 qt14 qB15
 clear qB12
 replace G:=touch_new G qt14 (by omega)
 have qt14_s:=qt14.size
 refine vV (pX g 0) ?_
 refine vV (pX g 36) ?_
 refine sC (arrCells {d with st:=0,why:=why,agn:=0,prb:=0,rst:=0,owe:=false} s now (sv)) qB15 36 (.bool false) (arr_size _ _ _ _) ?_
 intro qw16 qt17 qB18
 clear qB15
 replace G:=touch_new G qt17 (by omega)
 have qt17_s:=qt17.size
 refine vE #[pX g 0,iJ why,U,U,pX g 0,pX g 0,iJ why,pX g 0,pX g 0,pX g 0,pX g 35,pX g 0,pX g 0,pX g 0,pX g 0,pX g 0,pX g 31,pX g 0,pX g 32,pX g 0,pX g 33,pX g 0,pX g 36] ?_
 go_wp2_with (fail)
 refine bodyPost_end (v:=.tuple #[]) (results_none rfl _ _ _) rfl ⟨rfl,G,?_⟩
 exact qB18
def restC (c:Cn) (now:Int):Cn:={c with st:=9,rst:=now+60}
theorem implRestA (g:Nat) (d:Cn) (s:Sg) (now:Int) (sv:Value) (at0:Int) (h0:0≤at0) (h1:at0≤1000000000) (w:World) (A:Blk g w (arrCells d s now sv)) :
  Calls Tryz.prog 106 #[.pointer (some ⟨g,0,none⟩),.int .i64 at0] w fun e w'=>e=.returned (.tuple #[])∧Touch g w w'∧Blk g w' (arrCells (restC d at0) s now sv):=by
 have hs:Hid (IntKind.i64.wrap (at0+60)=at0+60):=by
  show _=_
  rw [IntWalk.i64_left]
  exact IntWalk.wrap64_in _ ⟨by omega,by omega⟩
 have hA:=A.lt
 have G:=Touch.refl g w
 go_enter Tryz.func106,Tryz.ntmps106
 go_upto_region 0 with (fail)
 refine vR ?_
 refine vV (pX g 0) ?_
 refine vV (pX g 0) ?_
 refine vV (iJ at0) ?_
 refine vV (.int .i64 (at0+60)) ?_ (hrun:=by rw [← hs.out];kernel_rfl)
 refine vV (pX g 0) ?_
 refine vV (pX g 0) ?_
 refine sC (arrCells {d with st:=9} s now (sv)) A 0 (.int .i64 9) (arr_size _ _ _ _) ?_
 intro qw1 qt2 qB3
 clear A
 replace G:=touch_new G qt2 (by omega)
 have qt2_s:=qt2.size
 refine vV (pX g 0) ?_
 refine vV (pX g 33) ?_
 refine sC (arrCells {d with st:=9,rst:=(at0+60)} s now (sv)) qB3 33 (.int .i64 (at0+60)) (arr_size _ _ _ _) ?_
 intro qw4 qt5 qB6
 clear qB3
 replace G:=touch_new G qt5 (by omega)
 have qt5_s:=qt5.size
 refine vE #[pX g 0,iJ at0,U,U,pX g 0,pX g 0,iJ at0,iJ (at0+60),pX g 0,pX g 0,pX g 0,pX g 33] ?_
 go_wp2_with (fail)
 refine bodyPost_end (v:=.tuple #[]) (results_none rfl _ _ _) rfl ⟨rfl,G,?_⟩
 exact qB6
theorem implTellA (g:Nat) (d:Cn) (s:Sg) (now:Int) (sv:Value) (q:Sg) (w:World) (A:Blk g w (arrCells d s now sv)) :
  Calls Tryz.prog 110 #[.pointer (some ⟨g,0,none⟩),.agg (sgCells q)] w fun e w'=>e=.returned (.tuple #[])∧Touch g w w'∧Blk g w' (arrCells (toldC d q) s now sv):=by
 have hA:=A.lt
 have G:=Touch.refl g w
 go_enter Tryz.func110,Tryz.ntmps110
 go_upto_region 0 with (fail)
 refine vR ?_
 refine vW (w.alloc (.cells (sgCells q) 41)) (pX w.heap.size 0) ?_
 have qB2:=Blk.new w (sgCells q) 41
 have qg3:=(Since.refl w).alloc (.cells (sgCells q) 41)
 replace A:=A.since qg3
 replace G:=touch_since G qg3
 generalize w.alloc (.cells (sgCells q) 41)=qw1 at A G qB2 qg3 ⊢
 have qB2_l:=qB2.lt
 have qg3_s:=qg3.size
 refine vE #[pX g 0,.agg (sgCells q),U,pX w.heap.size 0,U,U,U,U,U,U,U,U,U,U,U,U,U,U,U] ?_
 go_upto_region 1 with (fail)
 refine wp_region_done (fun i v=>match i with
   | 0=>v=.pointer (some ⟨g,0,none⟩)
   | 1=>v=.pointer (some ⟨g,0,none⟩)
   | 2=>v=.pointer (some ⟨g,0,none⟩)
   | 3=>v=.pointer (some ⟨w.heap.size,5,none⟩)
   | 4=>v=.int .i64 q.wn
   | 5=>v=.pointer (some ⟨w.heap.size,2,none⟩)
   | 6=>v=.int .u32 q.sq
   | 7=>v=.pointer (some ⟨w.heap.size,3,none⟩)
   | 8=>v=.int .u32 q.ak
   | 9=>v=.pointer (some ⟨g,0,none⟩)
   | 10=>v=.pointer (some ⟨g,5,none⟩)
   | 12=>v=.pointer (some ⟨g,0,none⟩)
   | 13=>v=.pointer (some ⟨g,6,none⟩)
   | 15=>v=.pointer (some ⟨g,0,none⟩)
   | 16=>v=.pointer (some ⟨g,7,none⟩)
   | _=>True) (fun f x=>Chain g qw1 11 14 17 [] (arrCells d s now (sv)) (arrCells {d with wnd:=q.wn} s now (sv)) (arrCells {d with wnd:=q.wn,wsq:=q.sq} s now (sv)) (arrCells {d with wnd:=q.wn,wsq:=q.sq,wak:=q.ak} s now (sv)) f x) (fun v=>{tmps:=#[pX g 0,.agg (sgCells q),U,pX w.heap.size 0,v 0,v 1,v 2,v 3,v 4,v 5,v 6,v 7,v 8,v 9,v 10,v 12,v 13,v 15,v 16],defers:=[]}) (by kernel_rfl) (by kernel_rfl) (fun f hf=>Chain.start A hf) (fun vals=>by kernel_rfl) ?_ ?_
 case refine_1=>
  repeat (first|exact eachDone_nil|refine eachDone_cons ?_ ?_)
  all_goals intro f vals x hf hr hI hV
  all_goals simp [Region.binds] at hr
  ·have e8:vals 8=.int .u32 q.ak:=hV 8 (by simp [hr])
   have e16:vals 16=.pointer (some ⟨g,7,none⟩):=hV 16 (by simp [hr])
   have q1:f 14=true:=by simp [hr]
   have B0:=hI.late q1 hf
   refine does_cell_store (cs':=arrCells {d with wnd:=q.wn,wsq:=q.sq,wak:=q.ak} s now (sv)) B0 _ _ _ rfl 7 e16 (.int .u32 q.ak) e8 rfl (by kernel_rfl) (by rw [arr_size];decide) rfl ?_
   intro z tz Bz
   exact ⟨hI.put3 (by decide) (by decide) q1 tz Bz,trivial⟩
  ·have e15:vals 15=.pointer (some ⟨g,0,none⟩):=hV 15 (by simp [hr])
   simp [does,doesUpon,go_sem,e15]
   exact hI.skip 16 (by decide) (by decide) (by decide)
  ·have e2:vals 2=.pointer (some ⟨g,0,none⟩):=hV 2 (by simp [hr])
   simp [does,doesUpon,go_sem,e2]
   exact hI.skip 15 (by decide) (by decide) (by decide)
  ·have e6:vals 6=.int .u32 q.sq:=hV 6 (by simp [hr])
   have e13:vals 13=.pointer (some ⟨g,6,none⟩):=hV 13 (by simp [hr])
   have q1:f 11=true:=by simp [hr]
   have B0:=hI.mid q1 hf
   refine does_cell_store (cs':=arrCells {d with wnd:=q.wn,wsq:=q.sq} s now (sv)) B0 _ _ _ rfl 6 e13 (.int .u32 q.sq) e6 rfl (by kernel_rfl) (by rw [arr_size];decide) rfl ?_
   intro z tz Bz
   exact ⟨hI.put2 (by decide) (by decide) q1 hf tz Bz,trivial⟩
  ·have e12:vals 12=.pointer (some ⟨g,0,none⟩):=hV 12 (by simp [hr])
   simp [does,doesUpon,go_sem,e12]
   exact hI.skip 13 (by decide) (by decide) (by decide)
  ·have e1:vals 1=.pointer (some ⟨g,0,none⟩):=hV 1 (by simp [hr])
   simp [does,doesUpon,go_sem,e1]
   exact hI.skip 12 (by decide) (by decide) (by decide)
  ·have e4:vals 4=.int .i64 q.wn:=hV 4 (by simp [hr])
   have e10:vals 10=.pointer (some ⟨g,5,none⟩):=hV 10 (by simp [hr])
   have q1:∀ j,([]:List Nat).contains j=true→f j=true:=by
    intro j hj
    simp at hj
   have B0:=hI.old hf
   refine does_cell_store (cs':=arrCells {d with wnd:=q.wn} s now (sv)) B0 _ _ _ rfl 5 e10 (.int .i64 q.wn) e4 rfl (by kernel_rfl) (by rw [arr_size];decide) rfl ?_
   intro z tz Bz
   exact ⟨hI.put1 (by decide) (by decide) hf q1 tz Bz,trivial⟩
  ·have e9:vals 9=.pointer (some ⟨g,0,none⟩):=hV 9 (by simp [hr])
   simp [does,doesUpon,go_sem,e9]
   exact hI.skip 10 (by decide) (by decide) (by decide)
  ·have e0:vals 0=.pointer (some ⟨g,0,none⟩):=hV 0 (by simp [hr])
   simp [does,doesUpon,go_sem,e0]
   exact hI.skip 9 (by decide) (by decide) (by decide)
  ·have e7:vals 7=.pointer (some ⟨w.heap.size,3,none⟩):=hV 7 (by simp [hr])
   have fl:x.cell? ⟨w.heap.size,3,none⟩=some (.int .u32 q.ak):=(qB2.touch hI.touch (by omega)).cell 3
   simp [does,doesUpon,go_sem,e7,fl]
   exact hI.skip 8 (by decide) (by decide) (by decide)
  ·simp [does,doesUpon,go_sem]
   exact hI.skip 7 (by decide) (by decide) (by decide)
  ·have e5:vals 5=.pointer (some ⟨w.heap.size,2,none⟩):=hV 5 (by simp [hr])
   have fl:x.cell? ⟨w.heap.size,2,none⟩=some (.int .u32 q.sq):=(qB2.touch hI.touch (by omega)).cell 2
   simp [does,doesUpon,go_sem,e5,fl]
   exact hI.skip 6 (by decide) (by decide) (by decide)
  ·simp [does,doesUpon,go_sem]
   exact hI.skip 5 (by decide) (by decide) (by decide)
  ·have e3:vals 3=.pointer (some ⟨w.heap.size,5,none⟩):=hV 3 (by simp [hr])
   have fl:x.cell? ⟨w.heap.size,5,none⟩=some (.int .i64 q.wn):=(qB2.touch hI.touch (by omega)).cell 5
   simp [does,doesUpon,go_sem,e3,fl]
   exact hI.skip 4 (by decide) (by decide) (by decide)
  ·simp [does,doesUpon,go_sem]
   exact hI.skip 3 (by decide) (by decide) (by decide)
  ·simp [does,doesUpon,go_sem]
   exact hI.skip 2 (by decide) (by decide) (by decide)
  ·simp [does,doesUpon,go_sem]
   exact hI.skip 1 (by decide) (by decide) (by decide)
  ·simp [does,doesUpon,go_sem]
   exact hI.skip 0 (by decide) (by decide) (by decide)
 case refine_2=>
  intro f qv5 qw4 hI hf hv
  have qB6:=hI.end3 (hf 17 (by decide))
  have hT:=hI.touch
  clear hI hf
  have hv0:qv5 0=_:=hv 0 (by decide)
  have hv1:qv5 1=_:=hv 1 (by decide)
  have hv2:qv5 2=_:=hv 2 (by decide)
  have hv3:qv5 3=_:=hv 3 (by decide)
  have hv4:qv5 4=_:=hv 4 (by decide)
  have hv5:qv5 5=_:=hv 5 (by decide)
  have hv6:qv5 6=_:=hv 6 (by decide)
  have hv7:qv5 7=_:=hv 7 (by decide)
  have hv8:qv5 8=_:=hv 8 (by decide)
  have hv9:qv5 9=_:=hv 9 (by decide)
  have hv10:qv5 10=_:=hv 10 (by decide)
  have hv12:qv5 12=_:=hv 12 (by decide)
  have hv13:qv5 13=_:=hv 13 (by decide)
  have hv15:qv5 15=_:=hv 15 (by decide)
  have hv16:qv5 16=_:=hv 16 (by decide)
  clear hv
  simp only [hv0,hv1,hv2,hv3,hv4,hv5,hv6,hv7,hv8,hv9,hv10,hv12,hv13,hv15,hv16]
  clear hv0 hv1 hv2 hv3 hv4 hv5 hv6 hv7 hv8 hv9 hv10 hv12 hv13 hv15 hv16
  clear A
  have qt7:=hT
  clear hT
  replace qB2:=qB2.touch qt7 (by omega)
  replace G:=touch_new G qt7 (by omega)
  have qt7_s:=qt7.size
  go_wp2_with (fail)
  refine bodyPost_end (v:=.tuple #[]) (results_none rfl _ _ _) rfl ⟨rfl,G,?_⟩
  exact qB6
theorem implMeetA (g:Nat) (d:Cn) (s:Sg) (now:Int) (sv:Value) (q:Sg) (w:World) (A:Blk g w (arrCells d s now sv)) :
  Calls Tryz.prog 86 #[.pointer (some ⟨g,0,none⟩),.agg (sgCells q)] w fun e w'=>e=.returned (.tuple #[])∧Touch g w w'∧Blk g w' (arrCells (metC d q) s now sv):=by
 have hA:=A.lt
 have G:=Touch.refl g w
 go_enter Tryz.func86,Tryz.ntmps86
 go_upto_region 0 with (fail)
 refine vR ?_
 refine vW (w.alloc (.cells (sgCells q) 41)) (pX w.heap.size 0) ?_
 have qB2:=Blk.new w (sgCells q) 41
 have qg3:=(Since.refl w).alloc (.cells (sgCells q) 41)
 replace A:=A.since qg3
 replace G:=touch_since G qg3
 generalize w.alloc (.cells (sgCells q) 41)=qw1 at A G qB2 qg3 ⊢
 have qB2_l:=qB2.lt
 have qg3_s:=qg3.size
 refine vE #[pX g 0,.agg (sgCells q),U,pX w.heap.size 0,U,U,U,U,U,U,U,U,U,U] ?_
 go_upto_region 1 with (fail)
 refine vR ?_
 refine vV (pX g 0) ?_
 refine vV (pX w.heap.size 2) ?_
 refine vD (uJ q.sq) (qB2.cell 2) ?_
 refine vV (uJ ((q.sq+1) % 4294967296)) ?_
 refine vV (pX g 0) ?_
 refine vV (pX g 11) ?_
 refine vV (pX g 11) ?_
 refine sC (arrCells {d with iN:=((q.sq+1) % 4294967296)} s now (sv)) A 11 (.int .u32 ((q.sq+1) % 4294967296)) (arr_size _ _ _ _) ?_
 intro qw4 qt5 qB6
 clear A
 replace qB2:=qB2.touch qt5 (by omega)
 replace G:=touch_new G qt5 (by omega)
 have qt5_s:=qt5.size
 refine vE #[pX g 0,.agg (sgCells q),U,pX w.heap.size 0,pX g 0,pX w.heap.size 2,uJ q.sq,uJ ((q.sq+1) % 4294967296),pX g 0,pX g 11,pX g 11,U,U,U] ?_
 go_upto_region 2 with (fail)
 refine vR ?_
 refine vV (pX g 0) ?_
 refine vB seg_big qB2 rfl ?_
 refine vC (implTellA g _ s now sv q _ qB6) ?_
 rintro _ qw7 ⟨rfl,qt8,qB9⟩
 refine ⟨_,rfl,?_⟩
 clear qB6
 replace qB2:=qB2.touch qt8 (by omega)
 replace G:=touch_new G qt8 (by omega)
 have qt8_s:=qt8.size
 refine vE #[pX g 0,.agg (sgCells q),U,pX w.heap.size 0,pX g 0,pX w.heap.size 2,uJ q.sq,uJ ((q.sq+1) % 4294967296),pX g 0,pX g 11,pX g 11,pX g 0,.agg (sgCells q),.tuple #[]] ?_
 go_wp2_with (fail)
 refine bodyPost_end (v:=.tuple #[]) (results_none rfl _ _ _) rfl ⟨rfl,G,?_⟩
 exact qB9
theorem implSmp (a:Bool) (s v d r:Int) (w:World) :
  Calls Tryz.prog 156 #[rttVal a s v d,.int .i64 r] w fun e w'=>e=.returned (rttVal (smp a s v d r).1 (smp a s v d r).2.1 (smp a s v d r).2.2.1 (smp a s v d r).2.2.2)∧Since w w':=by
 refine (implSample a s v d r w).mono ?_
 rintro e w' ⟨rfl,g⟩
 refine ⟨?_,g⟩
 unfold smp
 cases (rttOk a s v d && decide (0≤r∧r≤100000))<;>rfl
theorem implTimedA (g:Nat) (d:Cn) (s:Sg) (now:Int) (sv:Value) (h0:0≤now) (h1:now≤1000000000) (h2:0≤d.tat) (h3:d.tat≤2000000000) (w:World) (A:Blk g w (arrCells d s now sv)) :
  Calls Tryz.prog 132 #[.pointer (some ⟨g,0,none⟩)] w fun e w'=>e=.returned (.tuple #[])∧Touch g w w'∧Blk g w' (arrCells (timedC d now) s now sv):=by
 have hsm:=fun wx=>implSmp d.rA d.rS d.rV d.rD (now - d.tat) wx
 obtain ⟨⟨r1,r2,r3,r4⟩,hr⟩:∃ q,Hid (q=smp d.rA d.rS d.rV d.rD (now - d.tat)):=⟨_,rfl⟩
 rw [← hr.out] at hsm
 unfold rttVal at hsm
 have he:Hid (timedC d now={d with rA:=r1,rS:=r2,rV:=r3,rD:=r4,tmg:=false}):=by
  show timedC d now=_
  unfold timedC
  rw [← hr.out]
 have hsb:Hid (IntKind.i64.wrap (now - d.tat)=now - d.tat):=by
  show _=_
  rw [IntWalk.i64_left]
  exact IntWalk.wrap64_in _ ⟨by omega,by omega⟩
 have hA:=A.lt
 have G:=Touch.refl g w
 go_enter Tryz.func132,Tryz.ntmps132
 go_upto_region 0 with (fail)
 refine vR ?_
 refine vV (pX g 0) ?_
 refine vV (pX g 0) ?_
 refine vV (pX g 0) ?_
 refine vV (pX g 0) ?_
 refine vE #[pX g 0,U,pX g 0,pX g 0,pX g 0,pX g 0,U,U,U,U,U,U,U,U,U,U,U,U,U,U,U,U,U,U,U,U] ?_
 go_upto_region 1 with (fail)
 refine wp_region_done (fun i v=>match i with
   | 0=>v=.pointer (some ⟨g,0,none⟩)
   | 1=>v=.pointer (some ⟨g,0,none⟩)
   | 2=>v=.pointer (some ⟨g,0,none⟩)
   | 3=>v=.pointer (some ⟨g,0,none⟩)
   | 4=>v=.pointer (some ⟨g,19,none⟩)
   | 5=>v=.agg #[.bool d.rA,.int .i64 d.rS,.int .i64 d.rV,.int .i64 d.rD]
   | 6=>v=.pointer (some ⟨g,0,none⟩)
   | 7=>v=.pointer (some ⟨g,0,none⟩)
   | 8=>v=.pointer (some ⟨g,45,none⟩)
   | 9=>v=.int .i64 now
   | 10=>v=.pointer (some ⟨g,0,none⟩)
   | 11=>v=.pointer (some ⟨g,0,none⟩)
   | 12=>v=.pointer (some ⟨g,30,none⟩)
   | 13=>v=.int .i64 d.tat
   | 14=>v=.int .i64 (now - d.tat)
   | 15=>v=.agg #[.bool r1,.int .i64 r2,.int .i64 r3,.int .i64 r4]
   | 16=>v=.pointer (some ⟨g,0,none⟩)
   | 17=>v=.pointer (some ⟨g,19,none⟩)
   | 19=>v=.pointer (some ⟨g,0,none⟩)
   | 20=>v=.pointer (some ⟨g,28,none⟩)
   | _=>True) (fun f x=>Chain g w 18 21 27 [5,9,13] (arrCells d s now (sv)) (arrCells {d with rA:=r1,rS:=r2,rV:=r3,rD:=r4} s now (sv)) (arrCells {d with rA:=r1,rS:=r2,rV:=r3,rD:=r4,tmg:=false} s now (sv)) (arrCells {d with rA:=r1,rS:=r2,rV:=r3,rD:=r4,tmg:=false} s now (sv)) f x) (fun v=>{tmps:=#[pX g 0,U,pX g 0,pX g 0,pX g 0,pX g 0,v 0,v 1,v 2,v 3,v 4,v 5,v 6,v 7,v 8,v 9,v 10,v 11,v 12,v 13,v 14,v 15,v 16,v 17,v 19,v 20],defers:=[]}) (by kernel_rfl) (by kernel_rfl) (fun f hf=>Chain.start A hf) (fun vals=>by kernel_rfl) ?_ ?_
 case refine_1=>
  repeat (first|exact eachDone_nil|refine eachDone_cons ?_ ?_)
  all_goals intro f vals x hf hr hI hV
  all_goals simp [Region.binds] at hr
  ·have e20:vals 20=.pointer (some ⟨g,28,none⟩):=hV 20 (by simp [hr])
   have q1:f 18=true:=by simp [hr]
   have B0:=hI.mid q1 hf
   refine does_cell_store (cs':=arrCells {d with rA:=r1,rS:=r2,rV:=r3,rD:=r4,tmg:=false} s now (sv)) B0 _ _ _ rfl 28 e20 (.bool false) rfl rfl (by kernel_rfl) (by rw [arr_size];decide) rfl ?_
   intro z tz Bz
   exact ⟨hI.put2 (by decide) (by decide) q1 hf tz Bz,trivial⟩
  ·have e19:vals 19=.pointer (some ⟨g,0,none⟩):=hV 19 (by simp [hr])
   simp [does,doesUpon,go_sem,e19]
   exact hI.skip 20 (by decide) (by decide) (by decide)
  ·have e1:vals 1=.pointer (some ⟨g,0,none⟩):=hV 1 (by simp [hr])
   simp [does,doesUpon,go_sem,e1]
   exact hI.skip 19 (by decide) (by decide) (by decide)
  ·have e15:vals 15=.agg #[.bool r1,.int .i64 r2,.int .i64 r3,.int .i64 r4]:=hV 15 (by simp [hr])
   have e17:vals 17=.pointer (some ⟨g,19,none⟩):=hV 17 (by simp [hr])
   have q1:∀ j,([5,9,13]:List Nat).contains j=true→f j=true:=by
    intro j hj
    simp at hj
    rcases hj with rfl|rfl|rfl<;>simp [hr]
   have B0:=hI.old hf
   refine does_part_store (cs':=arrCells {d with rA:=r1,rS:=r2,rV:=r3,rD:=r4} s now (sv)) B0 pRtt_big _ _ rfl 19 e17 #[.bool r1,.int .i64 r2,.int .i64 r3,.int .i64 r4] e15 rfl (by simp [Value.oneCell']) (by rw [arr_size];decide) rfl ?_
   intro z tz Bz
   exact ⟨hI.put1 (by decide) (by decide) hf q1 tz Bz,trivial⟩
  ·have e16:vals 16=.pointer (some ⟨g,0,none⟩):=hV 16 (by simp [hr])
   simp [does,doesUpon,go_sem,e16]
   exact hI.skip 17 (by decide) (by decide) (by decide)
  ·have e0:vals 0=.pointer (some ⟨g,0,none⟩):=hV 0 (by simp [hr])
   simp [does,doesUpon,go_sem,e0]
   exact hI.skip 16 (by decide) (by decide) (by decide)
  ·have e5:vals 5=.agg #[.bool d.rA,.int .i64 d.rS,.int .i64 d.rV,.int .i64 d.rD]:=hV 5 (by simp [hr])
   have e14:vals 14=.int .i64 (now - d.tat):=hV 14 (by simp [hr])
   simp [does,doesUpon,go_sem,e5,e14]
   refine (hsm _).mono ?_
   rintro _ x' ⟨rfl,h1⟩
   simp
   exact (hI.since h1).skip 15 (by decide) (by decide) (by decide)
  ·have e9:vals 9=.int .i64 now:=hV 9 (by simp [hr])
   have e13:vals 13=.int .i64 d.tat:=hV 13 (by simp [hr])
   simp [does,doesUpon,go_sem,e9,e13,hsb.out]
   exact hI.skip 14 (by decide) (by decide) (by decide)
  ·have e12:vals 12=.pointer (some ⟨g,30,none⟩):=hV 12 (by simp [hr])
   have B0:=hI.old (hI.no_a hf (by decide))
   have fl:x.cell? ⟨g,30,none⟩=some (.int .i64 d.tat):=B0.cell 30
   simp [does,doesUpon,go_sem,e12,fl]
   exact hI.skip 13 (by decide) (by decide) (by decide)
  ·have e11:vals 11=.pointer (some ⟨g,0,none⟩):=hV 11 (by simp [hr])
   simp [does,doesUpon,go_sem,e11]
   exact hI.skip 12 (by decide) (by decide) (by decide)
  ·have e10:vals 10=.pointer (some ⟨g,0,none⟩):=hV 10 (by simp [hr])
   simp [does,doesUpon,go_sem,e10]
   exact hI.skip 11 (by decide) (by decide) (by decide)
  ·simp [does,doesUpon,go_sem]
   exact hI.skip 10 (by decide) (by decide) (by decide)
  ·have e8:vals 8=.pointer (some ⟨g,45,none⟩):=hV 8 (by simp [hr])
   have B0:=hI.old (hI.no_a hf (by decide))
   have fl:x.cell? ⟨g,45,none⟩=some (.int .i64 now):=B0.cell 45
   simp [does,doesUpon,go_sem,e8,fl]
   exact hI.skip 9 (by decide) (by decide) (by decide)
  ·have e7:vals 7=.pointer (some ⟨g,0,none⟩):=hV 7 (by simp [hr])
   simp [does,doesUpon,go_sem,e7]
   exact hI.skip 8 (by decide) (by decide) (by decide)
  ·have e6:vals 6=.pointer (some ⟨g,0,none⟩):=hV 6 (by simp [hr])
   simp [does,doesUpon,go_sem,e6]
   exact hI.skip 7 (by decide) (by decide) (by decide)
  ·simp [does,doesUpon,go_sem]
   exact hI.skip 6 (by decide) (by decide) (by decide)
  ·have e4:vals 4=.pointer (some ⟨g,19,none⟩):=hV 4 (by simp [hr])
   have B0:=hI.old (hI.no_a hf (by decide))
   exact does_part_load B0 pRtt_big _ rfl 19 e4 [.bool d.rA,.int .i64 d.rS,.int .i64 d.rV,.int .i64 d.rD] rfl (fun j v hj=>by match j,hj with|0,h=>exact h|1,h=>exact h|2,h=>exact h|3,h=>exact h|n+4,h=>exact absurd h (by simp)) ⟨hI.skip 5 (by decide) (by decide) (by decide),rfl⟩
  ·have e3:vals 3=.pointer (some ⟨g,0,none⟩):=hV 3 (by simp [hr])
   simp [does,doesUpon,go_sem,e3]
   exact hI.skip 4 (by decide) (by decide) (by decide)
  ·have e2:vals 2=.pointer (some ⟨g,0,none⟩):=hV 2 (by simp [hr])
   simp [does,doesUpon,go_sem,e2]
   exact hI.skip 3 (by decide) (by decide) (by decide)
  ·simp [does,doesUpon,go_sem]
   exact hI.skip 2 (by decide) (by decide) (by decide)
  ·simp [does,doesUpon,go_sem]
   exact hI.skip 1 (by decide) (by decide) (by decide)
  ·simp [does,doesUpon,go_sem]
   exact hI.skip 0 (by decide) (by decide) (by decide)
 case refine_2=>
  intro f qv2 qw1 hI hf hv
  have qB3:=hI.end2 (hf 21 (by decide))
  have hT:=hI.touch
  clear hI hf
  have hv0:qv2 0=_:=hv 0 (by decide)
  have hv1:qv2 1=_:=hv 1 (by decide)
  have hv2:qv2 2=_:=hv 2 (by decide)
  have hv3:qv2 3=_:=hv 3 (by decide)
  have hv4:qv2 4=_:=hv 4 (by decide)
  have hv5:qv2 5=_:=hv 5 (by decide)
  have hv6:qv2 6=_:=hv 6 (by decide)
  have hv7:qv2 7=_:=hv 7 (by decide)
  have hv8:qv2 8=_:=hv 8 (by decide)
  have hv9:qv2 9=_:=hv 9 (by decide)
  have hv10:qv2 10=_:=hv 10 (by decide)
  have hv11:qv2 11=_:=hv 11 (by decide)
  have hv12:qv2 12=_:=hv 12 (by decide)
  have hv13:qv2 13=_:=hv 13 (by decide)
  have hv14:qv2 14=_:=hv 14 (by decide)
  have hv15:qv2 15=_:=hv 15 (by decide)
  have hv16:qv2 16=_:=hv 16 (by decide)
  have hv17:qv2 17=_:=hv 17 (by decide)
  have hv19:qv2 19=_:=hv 19 (by decide)
  have hv20:qv2 20=_:=hv 20 (by decide)
  clear hv
  simp only [hv0,hv1,hv2,hv3,hv4,hv5,hv6,hv7,hv8,hv9,hv10,hv11,hv12,hv13,hv14,hv15,hv16,hv17,hv19,hv20]
  clear hv0 hv1 hv2 hv3 hv4 hv5 hv6 hv7 hv8 hv9 hv10 hv11 hv12 hv13 hv14 hv15 hv16 hv17 hv19 hv20
  clear A
  have qt4:=hT
  clear hT
  replace G:=touch_new G qt4 (by omega)
  have qt4_s:=qt4.size
  go_wp2_with (fail)
  refine bodyPost_end (v:=.tuple #[]) (results_none rfl _ _ _) rfl ⟨rfl,G,?_⟩
  rw [he.out]
  exact qB3
end Go.Proofs.YtmigalhmlofbkaaGreatDoor
