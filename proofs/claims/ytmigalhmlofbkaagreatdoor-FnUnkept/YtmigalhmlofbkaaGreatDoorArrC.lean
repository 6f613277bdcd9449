/- A part of the proof. -/
import Derived.Test.YtmigalhmlofbkaaGreatDoorArrB
import Derived.Test.YtmigalhmlofbkaaGreatDoorOutImpl4
set_option linter.unusedVariables false
set_option maxRecDepth 20000
set_option maxHeartbeats 16000000
namespace Go.Proofs.YtmigalhmlofbkaaGreatDoor
open Go.ChangeShapes Go.WideShapes Go.ChangeAt Go.RowKit Go.Deep
theorem implDoneUpTo (c:Cn) (a:Int) (w_fsq:IsWord c.fsq) (ha:IsWord a) (w:World) :
  Calls Tryz.prog 138 #[.agg (cnCells c),.int .u32 a] w fun e w'=>e=.returned (.int .u32 (if c.fsn=true∧0<distI c.fsq a then c.fsq else a))∧Since w w':=by
 have hl:=fun wx=>implLess c.fsq a _ w_fsq ha (distI_is _ _) wx
 obtain ⟨v,hv⟩:∃ q,Hid (q=if c.fsn=true∧0<distI c.fsq a then c.fsq else a):=⟨_,rfl⟩
 rw [← hv.out]
 obtain ⟨b,hb⟩:∃ q,Hid (q=decide (0<distI c.fsq a)):=⟨_,rfl⟩
 rw [← hb.out] at hl
 replace hv:Hid (v=if c.fsn=true∧b=true then c.fsq else a):=by
  show v=_
  rw [hv.out,hb.out]
  simp
 have G:=(Since.refl w).alloc (.cells (cnCells c) 39)
 have A:=Blk.new w (cnCells c) 39
 go_enter Tryz.func138,Tryz.ntmps138
 go_upto_region 1 with (fail)
 generalize w.alloc (.cells (cnCells c) 39)=x0 at A G ⊢
 obtain ⟨f,hf⟩:∃ q,Hid (c.fsn=q):=⟨_,rfl⟩
 rw [hf.out] at hv
 replace hv:Hid _:=hv
 cases f
 case false=>
  refine vR ?_
  refine vV (pX w.heap.size 16) ?_
  refine vD (bF) ((A.cell 16).trans (by show some (.bool c.fsn:Value)=some (bF:Value);rw [hf.out])) ?_
  refine vV (bF) ?_
  refine vS ?_
  refine vS ?_
  refine vS ?_
  refine vS ?_
  refine vV (bF) ?_
  refine vE #[.agg (cnCells c),uJ a,pX w.heap.size 0,U,uJ 0,pX w.heap.size 16,bF,bF,U,U,U,U,bF,U,U,U] ?_
  go_upto_region 3 with (fail)
  refine vR ?_
  refine vV (uJ a) ?_
  refine vV (uJ a) ?_
  refine vE #[.agg (cnCells c),uJ a,pX w.heap.size 0,U,uJ a,pX w.heap.size 16,bF,bF,U,U,U,U,bF,U,U,uJ a] ?_
  go_wp2_with (fail)
  go_ret
  exact ⟨by rw [show v=a from hv.out];rfl,G⟩
 case true=>
  cases b
  case false=>
   refine vR ?_
   refine vV (pX w.heap.size 16) ?_
   refine vD (bT) ((A.cell 16).trans (by show some (.bool c.fsn:Value)=some (bT:Value);rw [hf.out])) ?_
   refine vV (bT) ?_
   refine vV (pX w.heap.size 17) ?_
   refine vD (uJ c.fsq) (A.cell 17) ?_
   refine vV (uJ a) ?_
   refine vC (hl _) ?_
   rintro _ _ ⟨rfl,rfl⟩
   refine ⟨_,rfl,?_⟩
   refine vV (bF) ?_
   refine vE #[.agg (cnCells c),uJ a,pX w.heap.size 0,U,uJ 0,pX w.heap.size 16,bT,bT,pX w.heap.size 17,uJ c.fsq,uJ a,bF,bF,U,U,U] ?_
   go_upto_region 3 with (fail)
   refine vR ?_
   refine vV (uJ a) ?_
   refine vV (uJ a) ?_
   refine vE #[.agg (cnCells c),uJ a,pX w.heap.size 0,U,uJ a,pX w.heap.size 16,bT,bT,pX w.heap.size 17,uJ c.fsq,uJ a,bF,bF,U,U,uJ a] ?_
   go_wp2_with (fail)
   go_ret
   exact ⟨by rw [show v=a from hv.out];rfl,G⟩
  case true=>
   refine vR ?_
   refine vV (pX w.heap.size 16) ?_
   refine vD (bT) ((A.cell 16).trans (by show some (.bool c.fsn:Value)=some (bT:Value);rw [hf.out])) ?_
   refine vV (bT) ?_
   refine vV (pX w.heap.size 17) ?_
   refine vD (uJ c.fsq) (A.cell 17) ?_
   refine vV (uJ a) ?_
   refine vC (hl _) ?_
   rintro _ _ ⟨rfl,rfl⟩
   refine ⟨_,rfl,?_⟩
   refine vV (bT) ?_
   refine vE #[.agg (cnCells c),uJ a,pX w.heap.size 0,U,uJ 0,pX w.heap.size 16,bT,bT,pX w.heap.size 17,uJ c.fsq,uJ a,bT,bT,U,U,U] ?_
   go_upto_region 2 with (fail)
   refine vR ?_
   refine vV (pX w.heap.size 17) ?_
   refine vD (uJ c.fsq) (A.cell 17) ?_
   refine vV (uJ c.fsq) ?_
   refine vE #[.agg (cnCells c),uJ a,pX w.heap.size 0,U,uJ c.fsq,pX w.heap.size 16,bT,bT,pX w.heap.size 17,uJ c.fsq,uJ a,bT,bT,pX w.heap.size 17,uJ c.fsq,U] ?_
   go_wp2_with (fail)
   go_ret
   exact ⟨by rw [show v=c.fsq from hv.out];rfl,G⟩
theorem implUnderWayA (c:Cn) (hu:IsWord c.una) (hm:IsWord c.mx) (h0:0≤distI c.una c.mx) (w:World) :
  Calls Tryz.prog 143 #[.agg (cnCells c)] w fun e w'=>e=.returned (.int .i64 (dupN c))∧Since w w':=by
 have hd:=fun wx=>implDist c.una c.mx (distI c.una c.mx) hu hm (distI_is _ _) wx
 obtain ⟨uw,huw⟩:∃ q,Hid (q=min (distI c.una c.mx) 8000):=⟨_,rfl⟩
 rw [show dupN c=uw by rw [huw.out];unfold dupN;omega]
 have G:=(Since.refl w).alloc (.cells (cnCells c) 39)
 have A:=Blk.new w (cnCells c) 39
 go_enter Tryz.func143,Tryz.ntmps143
 go_upto_region 1 with (fail)
 generalize w.alloc (.cells (cnCells c) 39)=x0 at A G ⊢
 refine vR ?_
 refine vV (pX w.heap.size 2) ?_
 refine vD (uJ c.una) (A.cell 2) ?_
 refine vV (pX w.heap.size 4) ?_
 refine vD (uJ c.mx) (A.cell 4) ?_
 refine vC (hd _) ?_
 rintro _ _ ⟨rfl,rfl⟩
 refine ⟨_,rfl,?_⟩
 refine vV (.int .i64 uw) ?_ (hrun:=by rw [huw.out];simp [go_sem])
 refine vV (iJ uw) ?_
 refine vE #[.agg (cnCells c),pX w.heap.size 0,iJ uw,pX w.heap.size 2,uJ c.una,pX w.heap.size 4,uJ c.mx,iJ (distI c.una c.mx),iJ uw] ?_
 go_wp2_with (fail)
 go_ret
 exact ⟨rfl,G⟩
theorem implConfirmedMore (g:Nat) (d:Cn) (s:Sg) (now:Int) (sv:Value) (h0:0≤now) (h1:now≤1000000000) (h2:0≤d.tat) (h3:d.tat≤2000000000) (wd:Wd d) (hak:IsWord s.ak) (w:World) (A:Blk g w (arrCells d s now sv)) :
  Calls Tryz.prog 108 #[.pointer (some ⟨g,0,none⟩)] w fun e w'=>e=.returned (.tuple #[])∧Touch g w w'∧Blk g w' (arrCells (confN d s now) s now sv):=by
 have hds:=fun wx=>implDist d.una s.ak _ wd.w_una hak (distI_is _ _) wx
 obtain ⟨n,hn⟩:∃ q,Hid (q=distI d.una s.ak):=⟨_,rfl⟩
 rw [← hn.out] at hds
 have hdu:=fun wx=>implDoneUpTo d s.ak wd.w_fsq hak wx
 obtain ⟨u,hu⟩:∃ q,Hid (q=uptoC d s):=⟨_,rfl⟩
 have eu:(if d.fsn=true∧0<distI d.fsq s.ak then d.fsq else s.ak)=u:=hu.out.symm
 rw [eu] at hdu
 clear eu
 have wu:IsWord u:=by rw [hu.out];exact wd_upto wd hak
 have hod:=fun wx=>implOutDone d.oF d.oD d.oR u _ wd.w_oF wu (distI_is _ _) wd.hod wx
 obtain ⟨f2,hf2⟩:∃ q,Hid (q=doneF d.oF d.oD d.oR u (distI d.oF u)):=⟨_,rfl⟩
 obtain ⟨d2,hd2⟩:∃ q,Hid (q=doneD d.oD d.oR (distI d.oF u)):=⟨_,rfl⟩
 obtain ⟨n2,hn2⟩:∃ q,Hid (q=doneN d.oD d.oR (distI d.oF u)):=⟨_,rfl⟩
 rw [← hf2.out,← hd2.out,← hn2.out] at hod
 unfold outVal at hod
 obtain ⟨c2,hc2⟩:∃ q,Hid (q=conf2 d u):=⟨_,rfl⟩
 have wd2:Wd c2:=by rw [hc2.out];exact wd_conf2 wd wu
 have ht2:0≤c2.tat:=by rw [hc2.out];exact h2
 have ht3:c2.tat≤2000000000:=by rw [hc2.out];exact h3
 have hl3:=fun wx=>implLess c2.tsq s.ak _ wd2.w_tsq hak (distI_is _ _) wx
 obtain ⟨c3,hc3⟩:∃ q,Hid (q=conf3 c2 s now):=⟨_,rfl⟩
 have wd3:Wd c3:=by rw [hc3.out];exact wd_conf3 wd2
 have hmx:=fun wx=>implMax c3.nxt s.ak _ wd3.w_nxt hak (distI_is _ _) wx
 obtain ⟨mv,hmv⟩:∃ q,Hid (q=if 0<distI c3.nxt s.ak then s.ak else c3.nxt):=⟨_,rfl⟩
 rw [← hmv.out] at hmx
 obtain ⟨c4,hc4⟩:∃ q,Hid (q=conf4 c3 s):=⟨_,rfl⟩
 have wd4:Wd c4:=by rw [hc4.out];exact wd_conf4 wd3 hak
 have hwt:=fun wx=>implWait c4.rA c4.rS c4.rV c4.rD wx
 have hwb:=wait_in c4.rA c4.rS c4.rV c4.rD
 unfold rttVal at hwt
 obtain ⟨wt,hwt2⟩:∃ q,Hid (q=waitOf c4.rA c4.rS c4.rV c4.rD):=⟨_,rfl⟩
 rw [← hwt2.out] at hwt hwb
 have hws:Hid (IntKind.i64.wrap (now+wt)=now+wt):=by
  show _=_
  rw [IntWalk.i64_left]
  exact IntWalk.wrap64_in _ ⟨by omega,by omega⟩
 clear hwb
 obtain ⟨c5,hc5⟩:∃ q,Hid (q=conf5 c4 now):=⟨_,rfl⟩
 have wd5:Wd c5:=by rw [hc5.out];exact wd_conf5 wd4
 have hca:=fun wx=>implAck c5.cX c5.cT c5.cD c5.cF c5.cR n s.ak _ wd5.w_cR hak (distI_is _ _) wx
 unfold ackVal congVal at hca
 obtain ⟨x6,hx6⟩:∃ q,Hid (q=ackX (okA c5 n) c5.cF (decide (0≤distI c5.cR s.ak)) c5.cX c5.cT n):=⟨_,rfl⟩
 obtain ⟨d6,hd6⟩:∃ q,Hid (q=ackD (okA c5 n) c5.cF (decide (0≤distI c5.cR s.ak)) c5.cD):=⟨_,rfl⟩
 obtain ⟨f6,hf6⟩:∃ q,Hid (q=ackF (okA c5 n) c5.cF (decide (0≤distI c5.cR s.ak))):=⟨_,rfl⟩
 obtain ⟨ag,hag⟩:∃ q,Hid (q=ackB (okA c5 n) c5.cF (decide (0≤distI c5.cR s.ak))):=⟨_,rfl⟩
 rw [show (congOk c5.cX c5.cT c5.cD && decide (0≤n∧n≤8000))=okA c5 n from rfl,← hx6.out,← hd6.out,← hf6.out,← hag.out] at hca
 obtain ⟨c6,hc6⟩:∃ q,Hid (q=conf6 c5 n s.ak):=⟨_,rfl⟩
 have hX:Hid (confN d s now=conf7 c6 ag):=by
  show _=_
  rw [hc6.out,hag.out,hc5.out,hc4.out,hc3.out,hc2.out,hu.out,hn.out]
  rfl
 clear wd wu wd2 wd3 wd4 wd5
 generalize confN d s now=cX at hX ⊢
 have hA:=A.lt
 have G:=Touch.refl g w
 go_enter Tryz.func108,Tryz.ntmps108
 go_upto_region 0 with (fail)
 refine wp_region_qs (wb:=w) (by kernel_rfl) (by kernel_rfl) (Since.refl _) ?_
 refine qV (pX g 0) ?_
 refine qV (pX g 0) ?_
 refine qV (pX g 0) ?_
 refine qV (pX g 0) ?_
 refine qV (pX g 0) ?_
 refine qV (pX g 37) ?_
 refine qV (pX g 40) ?_
 refine qC ⟨g,40,none⟩ (uJ s.ak) (fun y hy=>(A.since hy).cell 40) ?_
 refine qV (pX g 0) ?_
 refine qV (uJ s.ak) ?_
 refine qV (bF) ?_
 refine q_frame (a':={tmps:=#[pX g 0,U,pX g 0,uJ s.ak,bF,U,pX g 0,pX g 0,pX g 0,pX g 0,pX g 0,pX g 37,pX g 40,uJ s.ak,U,U,U,U,U,U,U,U,U,U,U,U,U,U,U,U,U,U,U,U,U,U,U,U,U,U,U,U,U,U,U,U,U,U,U,U,U,U,U,U,U,U,U,U,U,U,U,U,U,U,U,U,U,U,U,U,U,U,U,U,U,U,U,U,U,U,U,U,U,U,U,U,U,U,U,U,U,U,U,U,U,U,U,U,U,U,U,U,U,U,U,U,U,U,U,U,U,U,U,U,U,U],defers:=[]}) (by kernel_rfl) ?_
 refine q_nil ?_
 intro qw1 qh2
 replace A:=A.since qh2
 replace G:=touch_since G qh2
 have qh2_s:=qh2.size
 go_upto_region 1 with (fail)
 refine vR ?_
 refine vV (pX g 0) ?_
 refine vV (pX g 0) ?_
 refine vV (pX g 2) ?_
 refine vD (uJ d.una) (A.cell 2) ?_
 refine vV (uJ s.ak) ?_
 refine vC (hds _) ?_
 rintro _ _ ⟨rfl,rfl⟩
 refine ⟨_,rfl,?_⟩
 refine vV (iJ n) ?_
 refine vE #[pX g 0,U,pX g 0,uJ s.ak,bF,iJ n,pX g 0,pX g 0,pX g 0,pX g 0,pX g 0,pX g 37,pX g 40,uJ s.ak,pX g 0,pX g 0,pX g 2,uJ d.una,uJ s.ak,iJ n,U,U,U,U,U,U,U,U,U,U,U,U,U,U,U,U,U,U,U,U,U,U,U,U,U,U,U,U,U,U,U,U,U,U,U,U,U,U,U,U,U,U,U,U,U,U,U,U,U,U,U,U,U,U,U,U,U,U,U,U,U,U,U,U,U,U,U,U,U,U,U,U,U,U,U,U,U,U,U,U,U,U,U,U,U,U,U,U,U,U,U,U,U,U,U,U] ?_
 go_upto_region 2 with (fail)
 refine wp_region_done (fun i v=>match i with
   | 0=>v=.pointer (some ⟨g,0,none⟩)
   | 1=>v=.pointer (some ⟨g,0,none⟩)
   | 2=>v=.pointer (some ⟨g,0,none⟩)
   | 3=>v=.pointer (some ⟨g,8,none⟩)
   | 4=>v=.agg #[.int .u32 d.oF,.string d.oD,.int .i64 d.oR]
   | 5=>v=.pointer (some ⟨g,0,none⟩)
   | 6=>v=.pointer (some ⟨g,0,none⟩)
   | 7=>v=.agg (cnCells d)
   | 8=>v=.int .u32 s.ak
   | 9=>v=.int .u32 u
   | 10=>v=.tuple #[.agg #[.int .u32 f2,.string d2,.int .i64 d.oR],.int .i64 n2]
   | 11=>v=.tuple #[.agg #[.int .u32 f2,.string d2,.int .i64 d.oR],.int .i64 n2]
   | 12=>v=.agg #[.int .u32 f2,.string d2,.int .i64 d.oR]
   | 13=>v=.int .i64 n2
   | 14=>v=.pointer (some ⟨g,0,none⟩)
   | 15=>v=.pointer (some ⟨g,8,none⟩)
   | _=>True) (fun f x=>Chain g qw1 16 22 23 [4,7] (arrCells d s now (sv)) (arrCells {d with oF:=f2,oD:=d2,oR:=d.oR} s now (sv)) (arrCells {d with oF:=f2,oD:=d2,oR:=d.oR} s now (sv)) (arrCells {d with oF:=f2,oD:=d2,oR:=d.oR} s now (sv)) f x) (fun v=>{tmps:=#[pX g 0,U,pX g 0,uJ s.ak,bF,iJ n,pX g 0,pX g 0,pX g 0,pX g 0,pX g 0,pX g 37,pX g 40,uJ s.ak,pX g 0,pX g 0,pX g 2,uJ d.una,uJ s.ak,iJ n,v 11,v 0,v 1,v 2,v 3,v 4,v 5,v 6,v 7,v 8,v 9,v 10,v 12,v 13,v 14,v 15,U,U,U,U,U,U,U,U,U,U,U,U,U,U,U,U,U,U,U,U,U,U,U,U,U,U,U,U,U,U,U,U,U,U,U,U,U,U,U,U,U,U,U,U,U,U,U,U,U,U,U,U,U,U,U,U,U,U,U,U,U,U,U,U,U,U,U,U,U,U,U,U,U,U,U,U,U,U,U,U],defers:=[]}) (by kernel_rfl) (by kernel_rfl) (fun f hf=>Chain.start A hf) (fun vals=>by kernel_rfl) ?_ ?_
 case refine_1=>
  repeat (first|exact eachDone_nil|refine eachDone_cons ?_ ?_)
  all_goals intro f vals x hf hr hI hV
  all_goals simp [Region.binds] at hr
  ·have e12:vals 12=.agg #[.int .u32 f2,.string d2,.int .i64 d.oR]:=hV 12 (by simp [hr])
   have e15:vals 15=.pointer (some ⟨g,8,none⟩):=hV 15 (by simp [hr])
   have q1:∀ j,([4,7]:List Nat).contains j=true→f j=true:=by
    intro j hj
    simp at hj
    rcases hj with rfl|rfl<;>simp [hr]
   have B0:=hI.old hf
   refine does_part_store (cs':=arrCells {d with oF:=f2,oD:=d2,oR:=d.oR} s now (sv)) B0 pOut_big _ _ rfl 8 e15 #[.int .u32 f2,.string d2,.int .i64 d.oR] e12 rfl (by simp [Value.oneCell']) (by rw [arr_size];decide) rfl ?_
   intro z tz Bz
   exact ⟨hI.put1 (by decide) (by decide) hf q1 tz Bz,trivial⟩
  ·have e14:vals 14=.pointer (some ⟨g,0,none⟩):=hV 14 (by simp [hr])
   simp [does,doesUpon,go_sem,e14]
   exact hI.skip 15 (by decide) (by decide) (by decide)
  ·have e0:vals 0=.pointer (some ⟨g,0,none⟩):=hV 0 (by simp [hr])
   simp [does,doesUpon,go_sem,e0]
   exact hI.skip 14 (by decide) (by decide) (by decide)
  ·have e11:vals 11=.tuple #[.agg #[.int .u32 f2,.string d2,.int .i64 d.oR],.int .i64 n2]:=hV 11 (by simp [hr])
   simp [does,doesUpon,go_sem,e11]
   exact hI.skip 13 (by decide) (by decide) (by decide)
  ·have e11:vals 11=.tuple #[.agg #[.int .u32 f2,.string d2,.int .i64 d.oR],.int .i64 n2]:=hV 11 (by simp [hr])
   simp [does,doesUpon,go_sem,e11]
   exact hI.skip 12 (by decide) (by decide) (by decide)
  ·have e10:vals 10=.tuple #[.agg #[.int .u32 f2,.string d2,.int .i64 d.oR],.int .i64 n2]:=hV 10 (by simp [hr])
   simp [does,doesUpon,go_sem,e10]
   exact hI.skip 11 (by decide) (by decide) (by decide)
  ·have e4:vals 4=.agg #[.int .u32 d.oF,.string d.oD,.int .i64 d.oR]:=hV 4 (by simp [hr])
   have e9:vals 9=.int .u32 u:=hV 9 (by simp [hr])
   simp [does,doesUpon,go_sem,e4,e9]
   refine (hod _).mono ?_
   rintro _ x' ⟨rfl,h1⟩
   simp
   exact (hI.since h1).skip 10 (by decide) (by decide) (by decide)
  ·have e7:vals 7=.agg (cnCells d):=hV 7 (by simp [hr])
   have e8:vals 8=.int .u32 s.ak:=hV 8 (by simp [hr])
   simp [does,doesUpon,go_sem,e7,e8]
   refine (hdu _).mono ?_
   rintro _ x' ⟨rfl,h1⟩
   simp
   exact (hI.since h1).skip 9 (by decide) (by decide) (by decide)
  ·simp [does,doesUpon,go_sem]
   exact hI.skip 8 (by decide) (by decide) (by decide)
  ·have e6:vals 6=.pointer (some ⟨g,0,none⟩):=hV 6 (by simp [hr])
   have B0:=hI.old (hI.no_a hf (by decide))
   exact does_aend B0 _ rfl e6 ⟨hI.skip 7 (by decide) (by decide) (by decide),rfl⟩
  ·have e5:vals 5=.pointer (some ⟨g,0,none⟩):=hV 5 (by simp [hr])
   simp [does,doesUpon,go_sem,e5]
   exact hI.skip 6 (by decide) (by decide) (by decide)
  ·simp [does,doesUpon,go_sem]
   exact hI.skip 5 (by decide) (by decide) (by decide)
  ·have e3:vals 3=.pointer (some ⟨g,8,none⟩):=hV 3 (by simp [hr])
   have B0:=hI.old (hI.no_a hf (by decide))
   exact does_part_load B0 pOut_big _ rfl 8 e3 [.int .u32 d.oF,.string d.oD,.int .i64 d.oR] rfl (fun j v hj=>by match j,hj with|0,h=>exact h|1,h=>exact h|2,h=>exact h|n+3,h=>exact absurd h (by simp)) ⟨hI.skip 4 (by decide) (by decide) (by decide),rfl⟩
  ·have e2:vals 2=.pointer (some ⟨g,0,none⟩):=hV 2 (by simp [hr])
   simp [does,doesUpon,go_sem,e2]
   exact hI.skip 3 (by decide) (by decide) (by decide)
  ·have e1:vals 1=.pointer (some ⟨g,0,none⟩):=hV 1 (by simp [hr])
   simp [does,doesUpon,go_sem,e1]
   exact hI.skip 2 (by decide) (by decide) (by decide)
  ·simp [does,doesUpon,go_sem]
   exact hI.skip 1 (by decide) (by decide) (by decide)
  ·simp [does,doesUpon,go_sem]
   exact hI.skip 0 (by decide) (by decide) (by decide)
 case refine_2=>
  intro f qv4 qw3 hI hf hv
  have qB5:=hI.end1 (hf 16 (by decide))
  have hT:=hI.touch
  clear hI hf
  have hv0:qv4 0=_:=hv 0 (by decide)
  have hv1:qv4 1=_:=hv 1 (by decide)
  have hv2:qv4 2=_:=hv 2 (by decide)
  have hv3:qv4 3=_:=hv 3 (by decide)
  have hv4:qv4 4=_:=hv 4 (by decide)
  have hv5:qv4 5=_:=hv 5 (by decide)
  have hv6:qv4 6=_:=hv 6 (by decide)
  have hv7:qv4 7=_:=hv 7 (by decide)
  have hv8:qv4 8=_:=hv 8 (by decide)
  have hv9:qv4 9=_:=hv 9 (by decide)
  have hv10:qv4 10=_:=hv 10 (by decide)
  have hv11:qv4 11=_:=hv 11 (by decide)
  have hv12:qv4 12=_:=hv 12 (by decide)
  have hv13:qv4 13=_:=hv 13 (by decide)
  have hv14:qv4 14=_:=hv 14 (by decide)
  have hv15:qv4 15=_:=hv 15 (by decide)
  clear hv
  simp only [hv0,hv1,hv2,hv3,hv4,hv5,hv6,hv7,hv8,hv9,hv10,hv11,hv12,hv13,hv14,hv15]
  clear hv0 hv1 hv2 hv3 hv4 hv5 hv6 hv7 hv8 hv9 hv10 hv11 hv12 hv13 hv14 hv15
  clear A
  have qt6:=hT
  clear hT
  replace G:=touch_new G qt6 (by omega)
  have qt6_s:=qt6.size
  have e_c2:{d with oF:=f2,oD:=d2,oR:=d.oR}=c2:=by
   rw [hc2.out]
   unfold conf2
   rw [hf2.out,hd2.out]
  rw [e_c2] at qB5
  clear e_c2
  simp only [Exit.then]
  rename_i hK
  refine hK _ _ ?_
  clear hK
  apply wp_seq_k
  intro K3 hK3
  replace hK3:Hid _:=hK3
  have key3:∀ (v36 v37 v38 v39 v40 v41 v42 v43 v44 v45 v46 v47 v48 v49 v50 v51 v52 v53:Value) (y:World),Blk g y (arrCells c3 s now sv)→Touch g w y→K3 {tmps:=#[pX g 0,U,pX g 0,uJ s.ak,bF,iJ n,pX g 0,pX g 0,pX g 0,pX g 0,pX g 0,pX g 37,pX g 40,uJ s.ak,pX g 0,pX g 0,pX g 2,uJ d.una,uJ s.ak,iJ n,.tuple #[.agg #[uJ f2,.string d2,iJ d.oR],iJ n2],pX g 0,pX g 0,pX g 0,pX g 8,.agg #[uJ d.oF,.string d.oD,iJ d.oR],pX g 0,pX g 0,.agg (cnCells d),uJ s.ak,uJ u,.tuple #[.agg #[uJ f2,.string d2,iJ d.oR],iJ n2],.agg #[uJ f2,.string d2,iJ d.oR],iJ n2,pX g 0,pX g 8,v36,v37,v38,v39,v40,v41,v42,v43,v44,v45,v46,v47,v48,v49,v50,v51,v52,v53,U,U,U,U,U,U,U,U,U,U,U,U,U,U,U,U,U,U,U,U,U,U,U,U,U,U,U,U,U,U,U,U,U,U,U,U,U,U,U,U,U,U,U,U,U,U,U,U,U,U,U,U,U,U,U,U,U,U,U,U,U,U],defers:=[]} y:=by
   intro v36 v37 v38 v39 v40 v41 v42 v43 v44 v45 v46 v47 v48 v49 v50 v51 v52 v53 y Ay Gy
   clear qB5
   have G:=Gy
   have Gy_s:=Gy.size
   clear Gy
   refine hK3.out _ _ ?_
   go_upto_region 6 with (fail)
   refine vR ?_
   refine vV (pX g 0) ?_
   refine vV (pX g 0) ?_
   refine vV (pX g 0) ?_
   refine vV (pX g 0) ?_
   refine vV (uJ s.ak) ?_
   refine vV (pX g 0) ?_
   refine vV (pX g 0) ?_
   refine vV (pX g 3) ?_
   refine vD (uJ c3.nxt) (Ay.cell 3) ?_
   refine vV (uJ s.ak) ?_
   refine vC (hmx _) ?_
   rintro _ _ ⟨rfl,rfl⟩
   refine ⟨_,rfl,?_⟩
   refine vV (pX g 0) ?_
   refine vV (pX g 2) ?_
   refine sC (arrCells {c3 with una:=s.ak} s now (sv)) Ay 2 (.int .u32 s.ak) (arr_size _ _ _ _) ?_
   intro qw7 qt8 qB9
   clear Ay
   replace G:=touch_new G qt8 (by omega)
   have qt8_s:=qt8.size
   refine vV (pX g 0) ?_
   refine vV (pX g 3) ?_
   refine sC (arrCells {c3 with una:=s.ak,nxt:=mv} s now (sv)) qB9 3 (.int .u32 mv) (arr_size _ _ _ _) ?_
   intro qw10 qt11 qB12
   clear qB9
   replace G:=touch_new G qt11 (by omega)
   have qt11_s:=qt11.size
   refine vV (pX g 0) ?_
   refine vV (pX g 34) ?_
   refine sC (arrCells {c3 with una:=s.ak,nxt:=mv,trs:=0} s now (sv)) qB12 34 (.int .i64 0) (arr_size _ _ _ _) ?_
   intro qw13 qt14 qB15
   clear qB12
   replace G:=touch_new G qt14 (by omega)
   have qt14_s:=qt14.size
   refine vV (pX g 0) ?_
   refine vV (pX g 31) ?_
   refine sC (arrCells {c3 with una:=s.ak,nxt:=mv,trs:=0,agn:=0} s now (sv)) qB15 31 (.int .i64 0) (arr_size _ _ _ _) ?_
   intro qw16 qt17 qB18
   clear qB15
   replace G:=touch_new G qt17 (by omega)
   have qt17_s:=qt17.size
   refine vE #[pX g 0,U,pX g 0,uJ s.ak,bF,iJ n,pX g 0,pX g 0,pX g 0,pX g 0,pX g 0,pX g 37,pX g 40,uJ s.ak,pX g 0,pX g 0,pX g 2,uJ d.una,uJ s.ak,iJ n,.tuple #[.agg #[uJ f2,.string d2,iJ d.oR],iJ n2],pX g 0,pX g 0,pX g 0,pX g 8,.agg #[uJ d.oF,.string d.oD,iJ d.oR],pX g 0,pX g 0,.agg (cnCells d),uJ s.ak,uJ u,.tuple #[.agg #[uJ f2,.string d2,iJ d.oR],iJ n2],.agg #[uJ f2,.string d2,iJ d.oR],iJ n2,pX g 0,pX g 8,v36,v37,v38,v39,v40,v41,v42,v43,v44,v45,v46,v47,v48,v49,v50,v51,v52,v53,pX g 0,pX g 0,pX g 0,pX g 0,uJ s.ak,pX g 0,pX g 0,pX g 3,uJ c3.nxt,uJ s.ak,uJ mv,pX g 0,pX g 2,pX g 0,pX g 3,pX g 0,pX g 34,pX g 0,pX g 31,U,U,U,U,U,U,U,U,U,U,U,U,U,U,U,U,U,U,U,U,U,U,U,U,U,U,U,U,U,U,U,U,U,U,U,U,U,U,U,U,U,U,U] ?_
   generalize (.tuple #[.agg #[.int .u32 f2,.string d2,.int .i64 d.oR],.int .i64 n2]:Value)=qz19
   generalize (.agg #[.int .u32 d.oF,.string d.oD,.int .i64 d.oR]:Value)=qz20
   generalize (.agg #[.int .u32 f2,.string d2,.int .i64 d.oR]:Value)=qz21
   have e_c4:{c3 with una:=s.ak,nxt:=mv,trs:=0,agn:=0}=c4:=by
    rw [hc4.out]
    unfold conf4
    rw [hmv.out]
   rw [e_c4] at qB18
   clear e_c4
   refine wpList_nil ?_
   simp only [Exit.then]
   rename_i hK
   refine hK _ _ ?_
   clear hK
   apply wp_seq_k
   intro K8 hK8
   replace hK8:Hid _:=hK8
   have key8:∀ (v73 v74 v75 v76 v77 v78 v79 v80 v81 v82 v83 v84 v85 v86 v87 v88 v89 v90 v91 v92 v93 v94:Value) (y:World),Blk g y (arrCells c5 s now sv)→Touch g w y→K8 {tmps:=#[pX g 0,U,pX g 0,uJ s.ak,bF,iJ n,pX g 0,pX g 0,pX g 0,pX g 0,pX g 0,pX g 37,pX g 40,uJ s.ak,pX g 0,pX g 0,pX g 2,uJ d.una,uJ s.ak,iJ n,qz19,pX g 0,pX g 0,pX g 0,pX g 8,qz20,pX g 0,pX g 0,.agg (cnCells d),uJ s.ak,uJ u,qz19,qz21,iJ n2,pX g 0,pX g 8,v36,v37,v38,v39,v40,v41,v42,v43,v44,v45,v46,v47,v48,v49,v50,v51,v52,v53,pX g 0,pX g 0,pX g 0,pX g 0,uJ s.ak,pX g 0,pX g 0,pX g 3,uJ c3.nxt,uJ s.ak,uJ mv,pX g 0,pX g 2,pX g 0,pX g 3,pX g 0,pX g 34,pX g 0,pX g 31,v73,v74,v75,v76,v77,v78,v79,v80,v81,v82,v83,v84,v85,v86,v87,v88,v89,v90,v91,v92,v93,v94,U,U,U,U,U,U,U,U,U,U,U,U,U,U,U,U,U,U,U,U,U],defers:=[]} y:=by
    intro v73 v74 v75 v76 v77 v78 v79 v80 v81 v82 v83 v84 v85 v86 v87 v88 v89 v90 v91 v92 v93 v94 y Ay Gy
    clear qB18
    have G:=Gy
    have Gy_s:=Gy.size
    clear Gy
    refine hK8.out _ _ ?_
    go_upto_region 9 with (fail)
    refine vR ?_
    refine vV (pX g 0) ?_
    refine vV (pX g 0) ?_
    refine vV (pX g 0) ?_
    refine vV (pX g 23) ?_
    refine vP pCong_big Ay 23 [.int .i64 c5.cX,.int .i64 c5.cT,.int .i64 c5.cD,.bool c5.cF,.int .u32 c5.cR] ?_
    refine vV (iJ n) ?_
    refine vV (uJ s.ak) ?_
    refine vK (hca _) ?_
    intro qw22 qg23
    replace Ay:=Ay.since qg23
    replace G:=touch_since G qg23
    have qg23_s:=qg23.size
    refine vV (.tuple #[.agg #[iJ x6,iJ c5.cT,iJ d6,.bool f6,uJ c5.cR],.bool ag]) ?_
    refine vV (.agg #[iJ x6,iJ c5.cT,iJ d6,.bool f6,uJ c5.cR]) ?_
    refine vV (.bool ag) ?_
    refine vV (pX g 0) ?_
    refine vV (pX g 23) ?_
    refine sP (arrCells {c5 with cX:=x6,cT:=c5.cT,cD:=d6,cF:=f6,cR:=c5.cR} s now (sv)) pCong_big Ay 23 #[.int .i64 x6,.int .i64 c5.cT,.int .i64 d6,.bool f6,.int .u32 c5.cR] (arr_size _ _ _ _) (by simp [Value.oneCell']) ?_
    intro qw24 qt25 qB26
    clear Ay
    replace G:=touch_new G qt25 (by omega)
    have qt25_s:=qt25.size
    refine vV (.bool ag) ?_
    refine vE #[pX g 0,U,pX g 0,uJ s.ak,.bool ag,iJ n,pX g 0,pX g 0,pX g 0,pX g 0,pX g 0,pX g 37,pX g 40,uJ s.ak,pX g 0,pX g 0,pX g 2,uJ d.una,uJ s.ak,iJ n,qz19,pX g 0,pX g 0,pX g 0,pX g 8,qz20,pX g 0,pX g 0,.agg (cnCells d),uJ s.ak,uJ u,qz19,qz21,iJ n2,pX g 0,pX g 8,v36,v37,v38,v39,v40,v41,v42,v43,v44,v45,v46,v47,v48,v49,v50,v51,v52,v53,pX g 0,pX g 0,pX g 0,pX g 0,uJ s.ak,pX g 0,pX g 0,pX g 3,uJ c3.nxt,uJ s.ak,uJ mv,pX g 0,pX g 2,pX g 0,pX g 3,pX g 0,pX g 34,pX g 0,pX g 31,v73,v74,v75,v76,v77,v78,v79,v80,v81,v82,v83,v84,v85,v86,v87,v88,v89,v90,v91,v92,v93,v94,.tuple #[.agg #[iJ x6,iJ c5.cT,iJ d6,.bool f6,uJ c5.cR],.bool ag],pX g 0,pX g 0,pX g 0,pX g 23,.agg #[iJ c5.cX,iJ c5.cT,iJ c5.cD,.bool c5.cF,uJ c5.cR],iJ n,uJ s.ak,.tuple #[.agg #[iJ x6,iJ c5.cT,iJ d6,.bool f6,uJ c5.cR],.bool ag],.agg #[iJ x6,iJ c5.cT,iJ d6,.bool f6,uJ c5.cR],.bool ag,pX g 0,pX g 23,U,U,U,U,U,U,U,U] ?_
    generalize (.tuple #[.agg #[.int .i64 x6,.int .i64 c5.cT,.int .i64 d6,.bool f6,.int .u32 c5.cR],.bool ag]:Value)=qz27
    generalize (.agg #[.int .i64 c5.cX,.int .i64 c5.cT,.int .i64 c5.cD,.bool c5.cF,.int .u32 c5.cR]:Value)=qz28
    generalize (.agg #[.int .i64 x6,.int .i64 c5.cT,.int .i64 d6,.bool f6,.int .u32 c5.cR]:Value)=qz29
    have e_c6:{c5 with cX:=x6,cT:=c5.cT,cD:=d6,cF:=f6,cR:=c5.cR}=c6:=by
     rw [hc6.out]
     unfold conf6
     rw [hx6.out,hd6.out,hf6.out]
    rw [e_c6] at qB26
    clear e_c6
    go_upto_region 10 with (fail)
    refine vR ?_
    refine vV (.bool ag) ?_
    refine vE #[pX g 0,U,pX g 0,uJ s.ak,.bool ag,iJ n,pX g 0,pX g 0,pX g 0,pX g 0,pX g 0,pX g 37,pX g 40,uJ s.ak,pX g 0,pX g 0,pX g 2,uJ d.una,uJ s.ak,iJ n,qz19,pX g 0,pX g 0,pX g 0,pX g 8,qz20,pX g 0,pX g 0,.agg (cnCells d),uJ s.ak,uJ u,qz19,qz21,iJ n2,pX g 0,pX g 8,v36,v37,v38,v39,v40,v41,v42,v43,v44,v45,v46,v47,v48,v49,v50,v51,v52,v53,pX g 0,pX g 0,pX g 0,pX g 0,uJ s.ak,pX g 0,pX g 0,pX g 3,uJ c3.nxt,uJ s.ak,uJ mv,pX g 0,pX g 2,pX g 0,pX g 3,pX g 0,pX g 34,pX g 0,pX g 31,v73,v74,v75,v76,v77,v78,v79,v80,v81,v82,v83,v84,v85,v86,v87,v88,v89,v90,v91,v92,v93,v94,qz27,pX g 0,pX g 0,pX g 0,pX g 23,qz28,iJ n,uJ s.ak,qz27,qz29,.bool ag,pX g 0,pX g 23,.bool ag,U,U,U,U,U,U,U] ?_
    cases ag
    case false=>
     have hfin:Hid (cX=c6):=hX.out
     go_wp2_with (fail)
     refine bodyPost_end (v:=.tuple #[]) (results_none rfl _ _ _) rfl ⟨rfl,G,?_⟩
     rw [hfin.out]
     exact qB26
    case true=>
     go_upto_region 11 with (fail)
     refine vR ?_
     refine vV (pX g 0) ?_
     refine vV (pX g 0) ?_
     refine vV (pX g 0) ?_
     refine vV (pX g 2) ?_
     refine vD (uJ c6.una) (qB26.cell 2) ?_
     refine vV (pX g 0) ?_
     refine vV (pX g 3) ?_
     refine sC (arrCells {c6 with nxt:=c6.una} s now (sv)) qB26 3 (.int .u32 c6.una) (arr_size _ _ _ _) ?_
     intro qw30 qt31 qB32
     clear qB26
     replace G:=touch_new G qt31 (by omega)
     have qt31_s:=qt31.size
     refine vE #[pX g 0,U,pX g 0,uJ s.ak,bT,iJ n,pX g 0,pX g 0,pX g 0,pX g 0,pX g 0,pX g 37,pX g 40,uJ s.ak,pX g 0,pX g 0,pX g 2,uJ d.una,uJ s.ak,iJ n,qz19,pX g 0,pX g 0,pX g 0,pX g 8,qz20,pX g 0,pX g 0,.agg (cnCells d),uJ s.ak,uJ u,qz19,qz21,iJ n2,pX g 0,pX g 8,v36,v37,v38,v39,v40,v41,v42,v43,v44,v45,v46,v47,v48,v49,v50,v51,v52,v53,pX g 0,pX g 0,pX g 0,pX g 0,uJ s.ak,pX g 0,pX g 0,pX g 3,uJ c3.nxt,uJ s.ak,uJ mv,pX g 0,pX g 2,pX g 0,pX g 3,pX g 0,pX g 34,pX g 0,pX g 31,v73,v74,v75,v76,v77,v78,v79,v80,v81,v82,v83,v84,v85,v86,v87,v88,v89,v90,v91,v92,v93,v94,qz27,pX g 0,pX g 0,pX g 0,pX g 23,qz28,iJ n,uJ s.ak,qz27,qz29,bT,pX g 0,pX g 23,bT,pX g 0,pX g 0,pX g 0,pX g 2,uJ c6.una,pX g 0,pX g 3] ?_
     have hfin:Hid (cX={c6 with nxt:=c6.una}):=hX.out
     go_wp2_with (fail)
     refine bodyPost_end (v:=.tuple #[]) (results_none rfl _ _ _) rfl ⟨rfl,G,?_⟩
     rw [hfin.out]
     exact qB32
   replace key8:Hid _:=key8
   obtain ⟨b7,hb7⟩:∃ q,Hid (q=(c4.una != c4.mx)):=⟨_,rfl⟩
   go_upto_region 7 with (fail)
   cases b7
   case false=>
    refine wp_region_qs (wb:=qw16) (by kernel_rfl) (by kernel_rfl) (Since.refl _) ?_
    refine qV (pX g 0) ?_
    refine qV (pX g 0) ?_
    refine qV (pX g 2) ?_
    refine qC ⟨g,2,none⟩ (uJ c4.una) (fun y hy=>(qB18.since hy).cell 2) ?_
    refine qV (pX g 0) ?_
    refine qV (pX g 0) ?_
    refine qV (pX g 4) ?_
    refine qC ⟨g,4,none⟩ (uJ c4.mx) (fun y hy=>(qB18.since hy).cell 4) ?_
    refine q_val (by kernel_rfl) (.bool false) (fun x hx=>by rw [show false=(c4.una != c4.mx) from hb7.out];kernel_rfl) ?_
    refine q_frame (a':={tmps:=#[pX g 0,U,pX g 0,uJ s.ak,bF,iJ n,pX g 0,pX g 0,pX g 0,pX g 0,pX g 0,pX g 37,pX g 40,uJ s.ak,pX g 0,pX g 0,pX g 2,uJ d.una,uJ s.ak,iJ n,qz19,pX g 0,pX g 0,pX g 0,pX g 8,qz20,pX g 0,pX g 0,.agg (cnCells d),uJ s.ak,uJ u,qz19,qz21,iJ n2,pX g 0,pX g 8,v36,v37,v38,v39,v40,v41,v42,v43,v44,v45,v46,v47,v48,v49,v50,v51,v52,v53,pX g 0,pX g 0,pX g 0,pX g 0,uJ s.ak,pX g 0,pX g 0,pX g 3,uJ c3.nxt,uJ s.ak,uJ mv,pX g 0,pX g 2,pX g 0,pX g 3,pX g 0,pX g 34,pX g 0,pX g 31,pX g 0,pX g 0,pX g 2,uJ c4.una,pX g 0,pX g 0,pX g 4,uJ c4.mx,bF,U,U,U,U,U,U,U,U,U,U,U,U,U,U,U,U,U,U,U,U,U,U,U,U,U,U,U,U,U,U,U,U,U,U],defers:=[]}) (by kernel_rfl) ?_
    refine q_nil ?_
    intro qw22 qh23
    replace qB18:=qB18.since qh23
    replace G:=touch_since G qh23
    have qh23_s:=qh23.size
    have e5:c4=c5:=by
     rw [hc5.out]
     unfold conf5
     rw [if_pos (by simpa using hb7.out.symm)]
    rw [e5] at qB18
    clear e5
    go_wp2_with (fail)
    exact key8.out _ _ _ _ _ _ _ _ _ _ _ _ _ _ _ _ _ _ _ _ _ _ _ qB18 G
   case true=>
    refine wp_region_qs (wb:=qw16) (by kernel_rfl) (by kernel_rfl) (Since.refl _) ?_
    refine qV (pX g 0) ?_
    refine qV (pX g 0) ?_
    refine qV (pX g 2) ?_
    refine qC ⟨g,2,none⟩ (uJ c4.una) (fun y hy=>(qB18.since hy).cell 2) ?_
    refine qV (pX g 0) ?_
    refine qV (pX g 0) ?_
    refine qV (pX g 4) ?_
    refine qC ⟨g,4,none⟩ (uJ c4.mx) (fun y hy=>(qB18.since hy).cell 4) ?_
    refine q_val (by kernel_rfl) (.bool true) (fun x hx=>by rw [show true=(c4.una != c4.mx) from hb7.out];kernel_rfl) ?_
    refine q_frame (a':={tmps:=#[pX g 0,U,pX g 0,uJ s.ak,bF,iJ n,pX g 0,pX g 0,pX g 0,pX g 0,pX g 0,pX g 37,pX g 40,uJ s.ak,pX g 0,pX g 0,pX g 2,uJ d.una,uJ s.ak,iJ n,qz19,pX g 0,pX g 0,pX g 0,pX g 8,qz20,pX g 0,pX g 0,.agg (cnCells d),uJ s.ak,uJ u,qz19,qz21,iJ n2,pX g 0,pX g 8,v36,v37,v38,v39,v40,v41,v42,v43,v44,v45,v46,v47,v48,v49,v50,v51,v52,v53,pX g 0,pX g 0,pX g 0,pX g 0,uJ s.ak,pX g 0,pX g 0,pX g 3,uJ c3.nxt,uJ s.ak,uJ mv,pX g 0,pX g 2,pX g 0,pX g 3,pX g 0,pX g 34,pX g 0,pX g 31,pX g 0,pX g 0,pX g 2,uJ c4.una,pX g 0,pX g 0,pX g 4,uJ c4.mx,bT,U,U,U,U,U,U,U,U,U,U,U,U,U,U,U,U,U,U,U,U,U,U,U,U,U,U,U,U,U,U,U,U,U,U],defers:=[]}) (by kernel_rfl) ?_
    refine q_nil ?_
    intro qw22 qh23
    replace qB18:=qB18.since qh23
    replace G:=touch_since G qh23
    have qh23_s:=qh23.size
    go_upto_region 8 with (fail)
    refine wp_region_tail (wb:=qw22) 11 (fun i x v=>match i with
      | 0=>v=.pointer (some ⟨g,0,none⟩)
      | 1=>v=.pointer (some ⟨g,0,none⟩)
      | 2=>v=.pointer (some ⟨g,0,none⟩)
      | 3=>v=.pointer (some ⟨g,45,none⟩)
      | 4=>v=.int .i64 now
      | 5=>v=.pointer (some ⟨g,0,none⟩)
      | 6=>v=.pointer (some ⟨g,0,none⟩)
      | 7=>v=.pointer (some ⟨g,19,none⟩)
      | 8=>v=.agg #[.bool c4.rA,.int .i64 c4.rS,.int .i64 c4.rV,.int .i64 c4.rD]
      | 9=>v=.int .i64 wt
      | 10=>v=.int .i64 (now+wt)
      | _=>True) (fun v=>{tmps:=#[pX g 0,U,pX g 0,uJ s.ak,bF,iJ n,pX g 0,pX g 0,pX g 0,pX g 0,pX g 0,pX g 37,pX g 40,uJ s.ak,pX g 0,pX g 0,pX g 2,uJ d.una,uJ s.ak,iJ n,qz19,pX g 0,pX g 0,pX g 0,pX g 8,qz20,pX g 0,pX g 0,.agg (cnCells d),uJ s.ak,uJ u,qz19,qz21,iJ n2,pX g 0,pX g 8,v36,v37,v38,v39,v40,v41,v42,v43,v44,v45,v46,v47,v48,v49,v50,v51,v52,v53,pX g 0,pX g 0,pX g 0,pX g 0,uJ s.ak,pX g 0,pX g 0,pX g 3,uJ c3.nxt,uJ s.ak,uJ mv,pX g 0,pX g 2,pX g 0,pX g 3,pX g 0,pX g 34,pX g 0,pX g 31,pX g 0,pX g 0,pX g 2,uJ c4.una,pX g 0,pX g 0,pX g 4,uJ c4.mx,bT,v 0,v 1,v 2,v 3,v 4,v 5,v 6,v 7,v 8,v 9,v 10,U,U,U,U,U,U,U,U,U,U,U,U,U,U,U,U,U,U,U,U,U,U,U],defers:=[]}) (by kernel_rfl) (by kernel_rfl) (by kernel_rfl) (Since.refl _) ?_ (fun vals=>by kernel_rfl) ?_ ?_
    case refine_1=>
     intro j x x' v h1 h2
     match j,h2 with
     | 0,h2|1,h2|2,h2|3,h2|4,h2|5,h2|6,h2|7,h2|8,h2|9,h2|10,h2=>exact h2
     | n+11,_=>trivial
    case refine_2=>
     repeat (first|exact eachDoes_nil|refine eachDoes_cons ?_ ?_)
     all_goals intro vals x hx hv
     all_goals simp [Region.binds] at hv
     ·simp [does,doesUpon,go_sem,hv,Since.refl,hws.out]
     ·simp [does,doesUpon,go_sem,hv]
      refine (hwt _).mono ?_
      rintro _ x' ⟨rfl,h1⟩
      simp [h1]
     ·exact does_part_load (qB18.since hx) pRtt_big _ rfl 19 hv [.bool c4.rA,.int .i64 c4.rS,.int .i64 c4.rV,.int .i64 c4.rD] rfl (fun j v hj=>by match j,hj with|0,h=>exact h|1,h=>exact h|2,h=>exact h|3,h=>exact h|n+4,h=>exact absurd h (by simp)) ⟨Since.refl _,rfl⟩
     ·simp [does,doesUpon,go_sem,hv,Since.refl]
     ·simp [does,doesUpon,go_sem,hv,Since.refl]
     ·simp [does,doesUpon,go_sem,Since.refl]
     ·have fl0:x.cell? ⟨g,45,none⟩=some (.int .i64 now):=(qB18.since hx).cell 45
      simp [does,doesUpon,go_sem,hv,fl0,Since.refl]
     ·simp [does,doesUpon,go_sem,hv,Since.refl]
     ·simp [does,doesUpon,go_sem,hv,Since.refl]
     ·simp [does,doesUpon,go_sem,Since.refl]
     ·simp [does,doesUpon,go_sem,Since.refl]
    case refine_3=>
     intro qv26 qw24 qh25 hv
     have hv0:qv26 0=_:=hv 0 (by decide)
     have hv1:qv26 1=_:=hv 1 (by decide)
     have hv2:qv26 2=_:=hv 2 (by decide)
     have hv3:qv26 3=_:=hv 3 (by decide)
     have hv4:qv26 4=_:=hv 4 (by decide)
     have hv5:qv26 5=_:=hv 5 (by decide)
     have hv6:qv26 6=_:=hv 6 (by decide)
     have hv7:qv26 7=_:=hv 7 (by decide)
     have hv8:qv26 8=_:=hv 8 (by decide)
     have hv9:qv26 9=_:=hv 9 (by decide)
     have hv10:qv26 10=_:=hv 10 (by decide)
     clear hv
     simp only [hv0,hv1,hv2,hv3,hv4,hv5,hv6,hv7,hv8,hv9,hv10,List.drop]
     clear hv0 hv1 hv2 hv3 hv4 hv5 hv6 hv7 hv8 hv9 hv10
     replace qB18:=qB18.since qh25
     replace G:=touch_since G qh25
     have qh25_s:=qh25.size
     refine VL.out ?_
     refine vV (pX g 0) ?_
     refine vV (pX g 31) ?_
     refine sC (arrCells {c4 with agn:=(now+wt)} s now (sv)) qB18 31 (.int .i64 (now+wt)) (arr_size _ _ _ _) ?_
     intro qw27 qt28 qB29
     clear qB18
     replace G:=touch_new G qt28 (by omega)
     have qt28_s:=qt28.size
     refine vE #[pX g 0,U,pX g 0,uJ s.ak,bF,iJ n,pX g 0,pX g 0,pX g 0,pX g 0,pX g 0,pX g 37,pX g 40,uJ s.ak,pX g 0,pX g 0,pX g 2,uJ d.una,uJ s.ak,iJ n,qz19,pX g 0,pX g 0,pX g 0,pX g 8,qz20,pX g 0,pX g 0,.agg (cnCells d),uJ s.ak,uJ u,qz19,qz21,iJ n2,pX g 0,pX g 8,v36,v37,v38,v39,v40,v41,v42,v43,v44,v45,v46,v47,v48,v49,v50,v51,v52,v53,pX g 0,pX g 0,pX g 0,pX g 0,uJ s.ak,pX g 0,pX g 0,pX g 3,uJ c3.nxt,uJ s.ak,uJ mv,pX g 0,pX g 2,pX g 0,pX g 3,pX g 0,pX g 34,pX g 0,pX g 31,pX g 0,pX g 0,pX g 2,uJ c4.una,pX g 0,pX g 0,pX g 4,uJ c4.mx,bT,pX g 0,pX g 0,pX g 0,pX g 45,iJ now,pX g 0,pX g 0,pX g 19,.agg #[.bool c4.rA,iJ c4.rS,iJ c4.rV,iJ c4.rD],iJ wt,iJ (now+wt),pX g 0,pX g 31,U,U,U,U,U,U,U,U,U,U,U,U,U,U,U,U,U,U,U,U,U] ?_
     generalize (.agg #[.bool c4.rA,.int .i64 c4.rS,.int .i64 c4.rV,.int .i64 c4.rD]:Value)=qz30
     have e5:{c4 with agn:=(now+wt)}=c5:=by
      rw [hc5.out]
      unfold conf5
      rw [if_neg (by simpa using hb7.out.symm),hwt2.out]
     rw [e5] at qB29
     clear e5
     go_wp2_with (fail)
     exact key8.out _ _ _ _ _ _ _ _ _ _ _ _ _ _ _ _ _ _ _ _ _ _ _ qB29 G
  replace key3:Hid _:=key3
  obtain ⟨tm,htm⟩:∃ q,Hid (c2.tmg=q):=⟨_,rfl⟩
  obtain ⟨b3,hb3⟩:∃ q,Hid (q=decide (0<distI c2.tsq s.ak)):=⟨_,rfl⟩
  rw [← hb3.out] at hl3
  go_upto_region 3 with (fail)
  cases tm
  case false=>
   refine vR ?_
   refine vV (pX g 0) ?_
   refine vV (pX g 0) ?_
   refine vV (pX g 28) ?_
   refine vD (bF) ((qB5.cell 28).trans (by show some (.bool c2.tmg:Value)=some (bF:Value);rw [htm.out])) ?_
   refine vV (bF) ?_
   refine vS ?_
   refine vS ?_
   refine vS ?_
   refine vS ?_
   refine vS ?_
   refine vS ?_
   refine vV (bF) ?_
   refine vE #[pX g 0,U,pX g 0,uJ s.ak,bF,iJ n,pX g 0,pX g 0,pX g 0,pX g 0,pX g 0,pX g 37,pX g 40,uJ s.ak,pX g 0,pX g 0,pX g 2,uJ d.una,uJ s.ak,iJ n,.tuple #[.agg #[uJ f2,.string d2,iJ d.oR],iJ n2],pX g 0,pX g 0,pX g 0,pX g 8,.agg #[uJ d.oF,.string d.oD,iJ d.oR],pX g 0,pX g 0,.agg (cnCells d),uJ s.ak,uJ u,.tuple #[.agg #[uJ f2,.string d2,iJ d.oR],iJ n2],.agg #[uJ f2,.string d2,iJ d.oR],iJ n2,pX g 0,pX g 8,pX g 0,pX g 0,pX g 28,bF,bF,U,U,U,U,U,U,bF,U,U,U,U,U,U,U,U,U,U,U,U,U,U,U,U,U,U,U,U,U,U,U,U,U,U,U,U,U,U,U,U,U,U,U,U,U,U,U,U,U,U,U,U,U,U,U,U,U,U,U,U,U,U,U,U,U,U,U,U,U,U,U,U,U,U,U,U] ?_
   go_upto_region 5 with (fail)
   refine vR ?_
   refine vV (pX g 0) ?_
   refine vV (pX g 0) ?_
   refine vV (pX g 19) ?_
   refine vV (pX g 22) ?_
   refine sC (arrCells {c2 with rD:=0} s now (sv)) qB5 22 (.int .i64 0) (arr_size _ _ _ _) ?_
   intro qw7 qt8 qB9
   clear qB5
   replace G:=touch_new G qt8 (by omega)
   have qt8_s:=qt8.size
   refine vE #[pX g 0,U,pX g 0,uJ s.ak,bF,iJ n,pX g 0,pX g 0,pX g 0,pX g 0,pX g 0,pX g 37,pX g 40,uJ s.ak,pX g 0,pX g 0,pX g 2,uJ d.una,uJ s.ak,iJ n,.tuple #[.agg #[uJ f2,.string d2,iJ d.oR],iJ n2],pX g 0,pX g 0,pX g 0,pX g 8,.agg #[uJ d.oF,.string d.oD,iJ d.oR],pX g 0,pX g 0,.agg (cnCells d),uJ s.ak,uJ u,.tuple #[.agg #[uJ f2,.string d2,iJ d.oR],iJ n2],.agg #[uJ f2,.string d2,iJ d.oR],iJ n2,pX g 0,pX g 8,pX g 0,pX g 0,pX g 28,bF,bF,U,U,U,U,U,U,bF,U,U,pX g 0,pX g 0,pX g 19,pX g 22,U,U,U,U,U,U,U,U,U,U,U,U,U,U,U,U,U,U,U,U,U,U,U,U,U,U,U,U,U,U,U,U,U,U,U,U,U,U,U,U,U,U,U,U,U,U,U,U,U,U,U,U,U,U,U,U,U,U,U,U,U,U] ?_
   have e3:{c2 with rD:=0}=c3:=by
    rw [hc3.out]
    unfold conf3
    rw [if_neg (fun h=>by rw [htm.out] at h;exact absurd h.1 (by decide))]
   rw [e3] at qB9
   clear e3
   go_wp2_with (fail)
   exact key3.out _ _ _ _ _ _ _ _ _ _ _ _ _ _ _ _ _ _ _ qB9 G
  case true=>
   cases b3
   case false=>
    refine vR ?_
    refine vV (pX g 0) ?_
    refine vV (pX g 0) ?_
    refine vV (pX g 28) ?_
    refine vD (bT) ((qB5.cell 28).trans (by show some (.bool c2.tmg:Value)=some (bT:Value);rw [htm.out])) ?_
    refine vV (bT) ?_
    refine vV (pX g 0) ?_
    refine vV (pX g 0) ?_
    refine vV (pX g 29) ?_
    refine vD (uJ c2.tsq) (qB5.cell 29) ?_
    refine vV (uJ s.ak) ?_
    refine vC (hl3 _) ?_
    rintro _ _ ⟨rfl,rfl⟩
    refine ⟨_,rfl,?_⟩
    refine vV (bF) ?_
    refine vE #[pX g 0,U,pX g 0,uJ s.ak,bF,iJ n,pX g 0,pX g 0,pX g 0,pX g 0,pX g 0,pX g 37,pX g 40,uJ s.ak,pX g 0,pX g 0,pX g 2,uJ d.una,uJ s.ak,iJ n,.tuple #[.agg #[uJ f2,.string d2,iJ d.oR],iJ n2],pX g 0,pX g 0,pX g 0,pX g 8,.agg #[uJ d.oF,.string d.oD,iJ d.oR],pX g 0,pX g 0,.agg (cnCells d),uJ s.ak,uJ u,.tuple #[.agg #[uJ f2,.string d2,iJ d.oR],iJ n2],.agg #[uJ f2,.string d2,iJ d.oR],iJ n2,pX g 0,pX g 8,pX g 0,pX g 0,pX g 28,bT,bT,pX g 0,pX g 0,pX g 29,uJ c2.tsq,uJ s.ak,bF,bF,U,U,U,U,U,U,U,U,U,U,U,U,U,U,U,U,U,U,U,U,U,U,U,U,U,U,U,U,U,U,U,U,U,U,U,U,U,U,U,U,U,U,U,U,U,U,U,U,U,U,U,U,U,U,U,U,U,U,U,U,U,U,U,U,U,U,U,U] ?_
    go_upto_region 5 with (fail)
    refine vR ?_
    refine vV (pX g 0) ?_
    refine vV (pX g 0) ?_
    refine vV (pX g 19) ?_
    refine vV (pX g 22) ?_
    refine sC (arrCells {c2 with rD:=0} s now (sv)) qB5 22 (.int .i64 0) (arr_size _ _ _ _) ?_
    intro qw7 qt8 qB9
    clear qB5
    replace G:=touch_new G qt8 (by omega)
    have qt8_s:=qt8.size
    refine vE #[pX g 0,U,pX g 0,uJ s.ak,bF,iJ n,pX g 0,pX g 0,pX g 0,pX g 0,pX g 0,pX g 37,pX g 40,uJ s.ak,pX g 0,pX g 0,pX g 2,uJ d.una,uJ s.ak,iJ n,.tuple #[.agg #[uJ f2,.string d2,iJ d.oR],iJ n2],pX g 0,pX g 0,pX g 0,pX g 8,.agg #[uJ d.oF,.string d.oD,iJ d.oR],pX g 0,pX g 0,.agg (cnCells d),uJ s.ak,uJ u,.tuple #[.agg #[uJ f2,.string d2,iJ d.oR],iJ n2],.agg #[uJ f2,.string d2,iJ d.oR],iJ n2,pX g 0,pX g 8,pX g 0,pX g 0,pX g 28,bT,bT,pX g 0,pX g 0,pX g 29,uJ c2.tsq,uJ s.ak,bF,bF,U,U,pX g 0,pX g 0,pX g 19,pX g 22,U,U,U,U,U,U,U,U,U,U,U,U,U,U,U,U,U,U,U,U,U,U,U,U,U,U,U,U,U,U,U,U,U,U,U,U,U,U,U,U,U,U,U,U,U,U,U,U,U,U,U,U,U,U,U,U,U,U,U,U,U,U] ?_
    have e3:{c2 with rD:=0}=c3:=by
     rw [hc3.out]
     unfold conf3
     rw [if_neg (fun h=>by have:=hb3.out;rw [decide_eq_true h.2] at this;cases this)]
    rw [e3] at qB9
    clear e3
    go_wp2_with (fail)
    exact key3.out _ _ _ _ _ _ _ _ _ _ _ _ _ _ _ _ _ _ _ qB9 G
   case true=>
    refine vR ?_
    refine vV (pX g 0) ?_
    refine vV (pX g 0) ?_
    refine vV (pX g 28) ?_
    refine vD (bT) ((qB5.cell 28).trans (by show some (.bool c2.tmg:Value)=some (bT:Value);rw [htm.out])) ?_
    refine vV (bT) ?_
    refine vV (pX g 0) ?_
    refine vV (pX g 0) ?_
    refine vV (pX g 29) ?_
    refine vD (uJ c2.tsq) (qB5.cell 29) ?_
    refine vV (uJ s.ak) ?_
    refine vC (hl3 _) ?_
    rintro _ _ ⟨rfl,rfl⟩
    refine ⟨_,rfl,?_⟩
    refine vV (bT) ?_
    refine vE #[pX g 0,U,pX g 0,uJ s.ak,bF,iJ n,pX g 0,pX g 0,pX g 0,pX g 0,pX g 0,pX g 37,pX g 40,uJ s.ak,pX g 0,pX g 0,pX g 2,uJ d.una,uJ s.ak,iJ n,.tuple #[.agg #[uJ f2,.string d2,iJ d.oR],iJ n2],pX g 0,pX g 0,pX g 0,pX g 8,.agg #[uJ d.oF,.string d.oD,iJ d.oR],pX g 0,pX g 0,.agg (cnCells d),uJ s.ak,uJ u,.tuple #[.agg #[uJ f2,.string d2,iJ d.oR],iJ n2],.agg #[uJ f2,.string d2,iJ d.oR],iJ n2,pX g 0,pX g 8,pX g 0,pX g 0,pX g 28,bT,bT,pX g 0,pX g 0,pX g 29,uJ c2.tsq,uJ s.ak,bT,bT,U,U,U,U,U,U,U,U,U,U,U,U,U,U,U,U,U,U,U,U,U,U,U,U,U,U,U,U,U,U,U,U,U,U,U,U,U,U,U,U,U,U,U,U,U,U,U,U,U,U,U,U,U,U,U,U,U,U,U,U,U,U,U,U,U,U,U,U] ?_
    go_upto_region 4 with (fail)
    refine vR ?_
    refine vV (pX g 0) ?_
    refine vC (implTimedA g c2 s now sv h0 h1 ht2 ht3 _ qB5) ?_
    rintro _ qw7 ⟨rfl,qt8,qB9⟩
    refine ⟨_,rfl,?_⟩
    clear qB5
    replace G:=touch_new G qt8 (by omega)
    have qt8_s:=qt8.size
    refine vE #[pX g 0,U,pX g 0,uJ s.ak,bF,iJ n,pX g 0,pX g 0,pX g 0,pX g 0,pX g 0,pX g 37,pX g 40,uJ s.ak,pX g 0,pX g 0,pX g 2,uJ d.una,uJ s.ak,iJ n,.tuple #[.agg #[uJ f2,.string d2,iJ d.oR],iJ n2],pX g 0,pX g 0,pX g 0,pX g 8,.agg #[uJ d.oF,.string d.oD,iJ d.oR],pX g 0,pX g 0,.agg (cnCells d),uJ s.ak,uJ u,.tuple #[.agg #[uJ f2,.string d2,iJ d.oR],iJ n2],.agg #[uJ f2,.string d2,iJ d.oR],iJ n2,pX g 0,pX g 8,pX g 0,pX g 0,pX g 28,bT,bT,pX g 0,pX g 0,pX g 29,uJ c2.tsq,uJ s.ak,bT,bT,pX g 0,.tuple #[],U,U,U,U,U,U,U,U,U,U,U,U,U,U,U,U,U,U,U,U,U,U,U,U,U,U,U,U,U,U,U,U,U,U,U,U,U,U,U,U,U,U,U,U,U,U,U,U,U,U,U,U,U,U,U,U,U,U,U,U,U,U,U,U,U,U] ?_
    have e3:timedC c2 now=c3:=by
     rw [hc3.out]
     unfold conf3
     rw [if_pos ⟨htm.out,by simpa using hb3.out.symm⟩]
    rw [e3] at qB9
    clear e3
    go_wp2_with (fail)
    exact key3.out _ _ _ _ _ _ _ _ _ _ _ _ _ _ _ _ _ _ _ qB9 G
end Go.Proofs.YtmigalhmlofbkaaGreatDoor
