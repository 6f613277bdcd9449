/- A part of the proof. -/
import Derived.Test.YtmigalhmlofbkaaGreatDoorArrC
set_option linter.unusedVariables false
set_option maxRecDepth 20000
set_option maxHeartbeats 16000000
namespace Go.Proofs.YtmigalhmlofbkaaGreatDoor
open Go.ChangeShapes Go.WideShapes Go.ChangeAt Go.RowKit Go.Deep
theorem implConfirmedSame (g:Nat) (d:Cn) (s:Sg) (now:Int) (sv:Value) (wd:Wd d) (hp:0≤distI d.una d.mx) (w:World) (A:Blk g w (arrCells d s now sv)) :
  Calls Tryz.prog 109 #[.pointer (some ⟨g,0,none⟩)] w fun e w'=>e=.returned (.tuple #[])∧Touch g w w'∧Blk g w' (arrCells (dupC (dupA d) (dupB d)) s now sv):=by
 have huw:=fun wx=>implUnderWayA d wd.w_una wd.w_mx hp wx
 obtain ⟨un,hun⟩:∃ q,Hid (q=dupN d):=⟨_,rfl⟩
 rw [← hun.out] at huw
 have hcd:=fun wx=>implDup d.cX d.cT d.cD d.cF d.cR un d.mx wx
 unfold dupVal congVal at hcd
 obtain ⟨x1,hx1⟩:∃ q,Hid (q=dupX (okA d un) d.cF d.cX d.cD un):=⟨_,rfl⟩
 obtain ⟨t1,ht1⟩:∃ q,Hid (q=dupT (okA d un) d.cF d.cT d.cD un):=⟨_,rfl⟩
 obtain ⟨d1,hd1⟩:∃ q,Hid (q=dupD (okA d un) d.cF d.cD):=⟨_,rfl⟩
 obtain ⟨f1,hf1⟩:∃ q,Hid (q=dupF (okA d un) d.cF d.cD):=⟨_,rfl⟩
 obtain ⟨r1,hr1⟩:∃ q,Hid (q=dupR (okA d un) d.cF d.cD d.cR d.mx):=⟨_,rfl⟩
 obtain ⟨ag,hag⟩:∃ q,Hid (q=third (okA d un) d.cF d.cD):=⟨_,rfl⟩
 rw [show (congOk d.cX d.cT d.cD && decide (0≤un∧un≤8000))=okA d un from rfl,← hx1.out,← ht1.out,← hd1.out,← hf1.out,← hr1.out,← hag.out] at hcd
 obtain ⟨c1,hc1⟩:∃ q,Hid (q=dupA d):=⟨_,rfl⟩
 have hX:Hid (dupC (dupA d) (dupB d)=dupC c1 ag):=by
  show _=_
  rw [hc1.out,hag.out,hun.out]
  rfl
 clear wd
 generalize dupC (dupA d) (dupB d)=cX at hX ⊢
 have hA:=A.lt
 have G:=Touch.refl g w
 go_enter Tryz.func109,Tryz.ntmps109
 go_upto_region 0 with (fail)
 refine vR ?_
 refine vV (pX g 0) ?_
 refine vV (pX g 0) ?_
 refine vV (pX g 0) ?_
 refine vV (pX g 0) ?_
 refine vV (bF) ?_
 refine vE #[pX g 0,U,pX g 0,bF,pX g 0,pX g 0,pX g 0,U,U,U,U,U,U,U,U,U,U,U,U,U,U,U,U,U,U,U,U,U,U,U,U,U,U,U,U,U,U] ?_
 go_upto_region 1 with (fail)
 refine wp_region_done (fun i v=>match i with
   | 0=>v=.pointer (some ⟨g,0,none⟩)
   | 1=>v=.pointer (some ⟨g,0,none⟩)
   | 2=>v=.pointer (some ⟨g,0,none⟩)
   | 3=>v=.pointer (some ⟨g,23,none⟩)
   | 4=>v=.agg #[.int .i64 d.cX,.int .i64 d.cT,.int .i64 d.cD,.bool d.cF,.int .u32 d.cR]
   | 5=>v=.pointer (some ⟨g,0,none⟩)
   | 6=>v=.pointer (some ⟨g,0,none⟩)
   | 7=>v=.agg (cnCells d)
   | 8=>v=.int .i64 un
   | 9=>v=.pointer (some ⟨g,0,none⟩)
   | 10=>v=.pointer (some ⟨g,0,none⟩)
   | 11=>v=.pointer (some ⟨g,4,none⟩)
   | 12=>v=.int .u32 d.mx
   | 13=>v=.tuple #[.agg #[.int .i64 x1,.int .i64 t1,.int .i64 d1,.bool f1,.int .u32 r1],.bool ag]
   | 14=>v=.tuple #[.agg #[.int .i64 x1,.int .i64 t1,.int .i64 d1,.bool f1,.int .u32 r1],.bool ag]
   | 15=>v=.agg #[.int .i64 x1,.int .i64 t1,.int .i64 d1,.bool f1,.int .u32 r1]
   | 16=>v=.bool ag
   | 17=>v=.pointer (some ⟨g,0,none⟩)
   | 18=>v=.pointer (some ⟨g,23,none⟩)
   | 20=>v=.bool ag
   | _=>True) (fun f x=>Chain g w 19 26 27 [4,7,12] (arrCells d s now (sv)) (arrCells {d with cX:=x1,cT:=t1,cD:=d1,cF:=f1,cR:=r1} s now (sv)) (arrCells {d with cX:=x1,cT:=t1,cD:=d1,cF:=f1,cR:=r1} s now (sv)) (arrCells {d with cX:=x1,cT:=t1,cD:=d1,cF:=f1,cR:=r1} s now (sv)) f x) (fun v=>{tmps:=#[pX g 0,U,pX g 0,v 20,pX g 0,pX g 0,pX g 0,v 14,v 0,v 1,v 2,v 3,v 4,v 5,v 6,v 7,v 8,v 9,v 10,v 11,v 12,v 13,v 15,v 16,v 17,v 18,U,U,U,U,U,U,U,U,U,U,U],defers:=[]}) (by kernel_rfl) (by kernel_rfl) (fun f hf=>Chain.start A hf) (fun vals=>by kernel_rfl) ?_ ?_
 case refine_1=>
  repeat (first|exact eachDone_nil|refine eachDone_cons ?_ ?_)
  all_goals intro f vals x hf hr hI hV
  all_goals simp [Region.binds] at hr
  ·have e16:vals 16=.bool ag:=hV 16 (by simp [hr])
   simp [does,doesUpon,go_sem,e16]
   exact hI.skip 20 (by decide) (by decide) (by decide)
  ·have e15:vals 15=.agg #[.int .i64 x1,.int .i64 t1,.int .i64 d1,.bool f1,.int .u32 r1]:=hV 15 (by simp [hr])
   have e18:vals 18=.pointer (some ⟨g,23,none⟩):=hV 18 (by simp [hr])
   have q1:∀ j,([4,7,12]:List Nat).contains j=true→f j=true:=by
    intro j hj
    simp at hj
    rcases hj with rfl|rfl|rfl<;>simp [hr]
   have B0:=hI.old hf
   refine does_part_store (cs':=arrCells {d with cX:=x1,cT:=t1,cD:=d1,cF:=f1,cR:=r1} s now (sv)) B0 pCong_big _ _ rfl 23 e18 #[.int .i64 x1,.int .i64 t1,.int .i64 d1,.bool f1,.int .u32 r1] e15 rfl (by simp [Value.oneCell']) (by rw [arr_size];decide) rfl ?_
   intro z tz Bz
   exact ⟨hI.put1 (by decide) (by decide) hf q1 tz Bz,trivial⟩
  ·have e17:vals 17=.pointer (some ⟨g,0,none⟩):=hV 17 (by simp [hr])
   simp [does,doesUpon,go_sem,e17]
   exact hI.skip 18 (by decide) (by decide) (by decide)
  ·have e0:vals 0=.pointer (some ⟨g,0,none⟩):=hV 0 (by simp [hr])
   simp [does,doesUpon,go_sem,e0]
   exact hI.skip 17 (by decide) (by decide) (by decide)
  ·have e14:vals 14=.tuple #[.agg #[.int .i64 x1,.int .i64 t1,.int .i64 d1,.bool f1,.int .u32 r1],.bool ag]:=hV 14 (by simp [hr])
   simp [does,doesUpon,go_sem,e14]
   exact hI.skip 16 (by decide) (by decide) (by decide)
  ·have e14:vals 14=.tuple #[.agg #[.int .i64 x1,.int .i64 t1,.int .i64 d1,.bool f1,.int .u32 r1],.bool ag]:=hV 14 (by simp [hr])
   simp [does,doesUpon,go_sem,e14]
   exact hI.skip 15 (by decide) (by decide) (by decide)
  ·have e13:vals 13=.tuple #[.agg #[.int .i64 x1,.int .i64 t1,.int .i64 d1,.bool f1,.int .u32 r1],.bool ag]:=hV 13 (by simp [hr])
   simp [does,doesUpon,go_sem,e13]
   exact hI.skip 14 (by decide) (by decide) (by decide)
  ·have e4:vals 4=.agg #[.int .i64 d.cX,.int .i64 d.cT,.int .i64 d.cD,.bool d.cF,.int .u32 d.cR]:=hV 4 (by simp [hr])
   have e8:vals 8=.int .i64 un:=hV 8 (by simp [hr])
   have e12:vals 12=.int .u32 d.mx:=hV 12 (by simp [hr])
   simp [does,doesUpon,go_sem,e4,e8,e12]
   refine (hcd _).mono ?_
   rintro _ x' ⟨rfl,h1⟩
   simp
   exact (hI.since h1).skip 13 (by decide) (by decide) (by decide)
  ·have e11:vals 11=.pointer (some ⟨g,4,none⟩):=hV 11 (by simp [hr])
   have B0:=hI.old (hI.no_a hf (by decide))
   have fl:x.cell? ⟨g,4,none⟩=some (.int .u32 d.mx):=B0.cell 4
   simp [does,doesUpon,go_sem,e11,fl]
   exact hI.skip 12 (by decide) (by decide) (by decide)
  ·have e10:vals 10=.pointer (some ⟨g,0,none⟩):=hV 10 (by simp [hr])
   simp [does,doesUpon,go_sem,e10]
   exact hI.skip 11 (by decide) (by decide) (by decide)
  ·have e9:vals 9=.pointer (some ⟨g,0,none⟩):=hV 9 (by simp [hr])
   simp [does,doesUpon,go_sem,e9]
   exact hI.skip 10 (by decide) (by decide) (by decide)
  ·simp [does,doesUpon,go_sem]
   exact hI.skip 9 (by decide) (by decide) (by decide)
  ·have e7:vals 7=.agg (cnCells d):=hV 7 (by simp [hr])
   simp [does,doesUpon,go_sem,e7]
   refine (huw _).mono ?_
   rintro _ x' ⟨rfl,h1⟩
   simp
   exact (hI.since h1).skip 8 (by decide) (by decide) (by decide)
  ·have e6:vals 6=.pointer (some ⟨g,0,none⟩):=hV 6 (by simp [hr])
   have B0:=hI.old (hI.no_a hf (by decide))
   exact does_aend B0 _ rfl e6 ⟨hI.skip 7 (by decide) (by decide) (by decide),rfl⟩
  ·have e5:vals 5=.pointer (some ⟨g,0,none⟩):=hV 5 (by simp [hr])
   simp [does,doesUpon,go_sem,e5]
   exact hI.skip 6 (by decide) (by decide) (by decide)
  ·simp [does,doesUpon,go_sem]
   exact hI.skip 5 (by decide) (by decide) (by decide)
  ·have e3:vals 3=.pointer (some ⟨g,23,none⟩):=hV 3 (by simp [hr])
   have B0:=hI.old (hI.no_a hf (by decide))
   exact does_part_load B0 pCong_big _ rfl 23 e3 [.int .i64 d.cX,.int .i64 d.cT,.int .i64 d.cD,.bool d.cF,.int .u32 d.cR] rfl (fun j v hj=>by match j,hj with|0,h=>exact h|1,h=>exact h|2,h=>exact h|3,h=>exact h|4,h=>exact h|n+5,h=>exact absurd h (by simp)) ⟨hI.skip 4 (by decide) (by decide) (by decide),rfl⟩
  ·have e2:vals 2=.pointer (some ⟨g,0,none⟩):=hV 2 (by simp [hr])
   simp [does,doesUpon,go_sem,e2]
   exact hI.skip 3 (by decide) (by decide) (by decide)
  ·have e1:vals 1=.pointer (some ⟨g,0,none⟩):=hV 1 (by simp [hr])
   simp [does,doesUpon,go_sem,e1]
   exact hI.skip 2 (by decide) (by decide) (by decide)
  ·simp [does,doesUpon,go_sem]
   exact hI.skip 1 (by decide) (by decide) (by decide)
  ·simp [does,doesUpon,go_sem]
   exact hI.skip 0 (by decide) (by decide) (by decide)
 case refine_2=>
  intro f qv2 qw1 hI hf hv
  have qB3:=hI.end1 (hf 19 (by decide))
  have hT:=hI.touch
  clear hI hf
  have hv0:qv2 0=_:=hv 0 (by decide)
  have hv1:qv2 1=_:=hv 1 (by decide)
  have hv2:qv2 2=_:=hv 2 (by decide)
  have hv3:qv2 3=_:=hv 3 (by decide)
  have hv4:qv2 4=_:=hv 4 (by decide)
  have hv5:qv2 5=_:=hv 5 (by decide)
  have hv6:qv2 6=_:=hv 6 (by decide)
  have hv7:qv2 7=_:=hv 7 (by decide)
  have hv8:qv2 8=_:=hv 8 (by decide)
  have hv9:qv2 9=_:=hv 9 (by decide)
  have hv10:qv2 10=_:=hv 10 (by decide)
  have hv11:qv2 11=_:=hv 11 (by decide)
  have hv12:qv2 12=_:=hv 12 (by decide)
  have hv13:qv2 13=_:=hv 13 (by decide)
  have hv14:qv2 14=_:=hv 14 (by decide)
  have hv15:qv2 15=_:=hv 15 (by decide)
  have hv16:qv2 16=_:=hv 16 (by decide)
  have hv17:qv2 17=_:=hv 17 (by decide)
  have hv18:qv2 18=_:=hv 18 (by decide)
  have hv20:qv2 20=_:=hv 20 (by decide)
  clear hv
  simp only [hv0,hv1,hv2,hv3,hv4,hv5,hv6,hv7,hv8,hv9,hv10,hv11,hv12,hv13,hv14,hv15,hv16,hv17,hv18,hv20]
  clear hv0 hv1 hv2 hv3 hv4 hv5 hv6 hv7 hv8 hv9 hv10 hv11 hv12 hv13 hv14 hv15 hv16 hv17 hv18 hv20
  clear A
  have qt4:=hT
  clear hT
  replace G:=touch_new G qt4 (by omega)
  have qt4_s:=qt4.size
  have e_c1:{d with cX:=x1,cT:=t1,cD:=d1,cF:=f1,cR:=r1}=c1:=by
   rw [hc1.out]
   unfold dupA
   rw [← hun.out,hx1.out,ht1.out,hd1.out,hf1.out,hr1.out]
  rw [e_c1] at qB3
  clear e_c1
  simp only [Exit.then]
  rename_i hK
  refine hK _ _ ?_
  clear hK
  go_upto_region 2 with (fail)
  refine vR ?_
  refine vV (.bool ag) ?_
  refine vE #[pX g 0,U,pX g 0,.bool ag,pX g 0,pX g 0,pX g 0,.tuple #[.agg #[iJ x1,iJ t1,iJ d1,.bool f1,uJ r1],.bool ag],pX g 0,pX g 0,pX g 0,pX g 23,.agg #[iJ d.cX,iJ d.cT,iJ d.cD,.bool d.cF,uJ d.cR],pX g 0,pX g 0,.agg (cnCells d),iJ un,pX g 0,pX g 0,pX g 4,uJ d.mx,.tuple #[.agg #[iJ x1,iJ t1,iJ d1,.bool f1,uJ r1],.bool ag],.agg #[iJ x1,iJ t1,iJ d1,.bool f1,uJ r1],.bool ag,pX g 0,pX g 23,.bool ag,U,U,U,U,U,U,U,U,U,U] ?_
  generalize (.tuple #[.agg #[.int .i64 x1,.int .i64 t1,.int .i64 d1,.bool f1,.int .u32 r1],.bool ag]:Value)=qz5
  generalize (.agg #[.int .i64 d.cX,.int .i64 d.cT,.int .i64 d.cD,.bool d.cF,.int .u32 d.cR]:Value)=qz6
  generalize (.agg #[.int .i64 x1,.int .i64 t1,.int .i64 d1,.bool f1,.int .u32 r1]:Value)=qz7
  cases ag
  case false=>
   have hfin:Hid (cX=c1):=hX.out
   go_wp2_with (fail)
   refine bodyPost_end (v:=.tuple #[]) (results_none rfl _ _ _) rfl ⟨rfl,G,?_⟩
   rw [hfin.out]
   exact qB3
  case true=>
   go_upto_region 3 with (fail)
   refine vR ?_
   refine vV (pX g 0) ?_
   refine vV (pX g 0) ?_
   refine vV (pX g 0) ?_
   refine vV (pX g 0) ?_
   refine vV (pX g 2) ?_
   refine vD (uJ c1.una) (qB3.cell 2) ?_
   refine vV (pX g 0) ?_
   refine vV (pX g 3) ?_
   refine sC (arrCells {c1 with nxt:=c1.una} s now (sv)) qB3 3 (.int .u32 c1.una) (arr_size _ _ _ _) ?_
   intro qw8 qt9 qB10
   clear qB3
   replace G:=touch_new G qt9 (by omega)
   have qt9_s:=qt9.size
   refine vV (pX g 0) ?_
   refine vV (pX g 28) ?_
   refine sC (arrCells {c1 with nxt:=c1.una,tmg:=false} s now (sv)) qB10 28 (.bool false) (arr_size _ _ _ _) ?_
   intro qw11 qt12 qB13
   clear qB10
   replace G:=touch_new G qt12 (by omega)
   have qt12_s:=qt12.size
   refine vE #[pX g 0,U,pX g 0,bT,pX g 0,pX g 0,pX g 0,qz5,pX g 0,pX g 0,pX g 0,pX g 23,qz6,pX g 0,pX g 0,.agg (cnCells d),iJ un,pX g 0,pX g 0,pX g 4,uJ d.mx,qz5,qz7,bT,pX g 0,pX g 23,bT,pX g 0,pX g 0,pX g 0,pX g 0,pX g 2,uJ c1.una,pX g 0,pX g 3,pX g 0,pX g 28] ?_
   have hfin:Hid (cX={c1 with nxt:=c1.una,tmg:=false}):=hX.out
   go_wp2_with (fail)
   refine bodyPost_end (v:=.tuple #[]) (results_none rfl _ _ _) rfl ⟨rfl,G,?_⟩
   rw [hfin.out]
   exact qB13
theorem noTextA {d:ByteArray} (h:¬ d=ByteArray.empty):(d.toList == [])=false:=by
 rw [beq_eq_false_iff_ne]
 intro e
 rw [ByteArray.toList_eq] at e
 refine h ?_
 obtain ⟨⟨l⟩⟩:=d
 simp at e
 subst e
 rfl
theorem implConfirmedA (g:Nat) (d:Cn) (s:Sg) (now:Int) (sv:Value) (h0:0≤now) (h1:now≤1000000000) (h2:0≤d.tat) (h3:d.tat≤2000000000) (wd:Wd d) (hak:IsWord s.ak) (hp:0≤distI d.una d.mx) (w:World) (A:Blk g w (arrCells d s now sv)) :
  Calls Tryz.prog 72 #[.pointer (some ⟨g,0,none⟩)] w fun e w'=>e=.returned (.tuple #[])∧Touch g w w'∧Blk g w' (arrCells (confirmed d s now) s now sv):=by
 obtain ⟨c1,hc1⟩:∃ q,Hid (q=conf1 d s):=⟨_,rfl⟩
 have wd1:Wd c1:=by rw [hc1.out];exact wd_conf1 wd
 have k2:0≤c1.tat:=by rw [hc1.out];unfold conf1;split<;>exact h2
 have k3:c1.tat≤2000000000:=by rw [hc1.out];unfold conf1;split<;>exact h3
 have hun:c1.una=d.una:=by rw [hc1.out];unfold conf1;split<;>rfl
 have hmx:c1.mx=d.mx:=by rw [hc1.out];unfold conf1;split<;>rfl
 have hp1:0≤distI c1.una c1.mx:=by rw [hun,hmx];exact hp
 obtain ⟨b1,hb1⟩:∃ q,Hid (q=(d.st == 2)):=⟨_,rfl⟩
 obtain ⟨b2,hb2⟩:∃ q,Hid (q=decide (0<distI d.iss s.ak)):=⟨_,rfl⟩
 have hl1:=fun wx=>implLess d.iss s.ak _ wd.w_iss hak (distI_is _ _) wx
 rw [← hb2.out] at hl1
 have hl3:=fun wx=>implLess c1.una s.ak _ wd1.w_una hak (distI_is _ _) wx
 have hX:Hid (confirmed d s now=if 0<distI c1.una s.ak then confN c1 s now else confD c1 s):=by
  show _=_
  rw [hun,hc1.out]
  rfl
 generalize confirmed d s now=cX at hX ⊢
 clear hun hmx hp
 have hA:=A.lt
 have G:=Touch.refl g w
 go_enter Tryz.func72,Tryz.ntmps72
 go_upto_region 0 with (fail)
 refine vR ?_
 refine vV (pX g 0) ?_
 refine vV (pX g 0) ?_
 refine vV (pX g 0) ?_
 refine vV (pX g 0) ?_
 refine vE #[pX g 0,U,pX g 0,pX g 0,pX g 0,pX g 0,U,U,U,U,U,U,U,U,U,U,U,U,U,U,U,U,U,U,U,U,U,U,U,U,U,U,U,U,U,U,U,U,U,U,U,U,U,U,U,U,U,U,U,U,U,U,U,U,U,U,U,U,U,U,U,U,U,U,U,U,U,U,U,U,U] ?_
 refine wpList_nil ?_
 simp only [Exit.then]
 rename_i hK
 refine hK _ _ ?_
 clear hK
 apply wp_seq_k
 intro K2 hK2
 replace hK2:Hid _:=hK2
 have key2:∀ (v6 v7 v8 v9 v10 v11 v12 v13 v14 v15 v16 v17 v18 v19 v20 v21 v22 v23 v24 v25:Value) (y:World),Blk g y (arrCells c1 s now sv)→Touch g w y→K2 {tmps:=#[pX g 0,U,pX g 0,pX g 0,pX g 0,pX g 0,v6,v7,v8,v9,v10,v11,v12,v13,v14,v15,v16,v17,v18,v19,v20,v21,v22,v23,v24,v25,U,U,U,U,U,U,U,U,U,U,U,U,U,U,U,U,U,U,U,U,U,U,U,U,U,U,U,U,U,U,U,U,U,U,U,U,U,U,U,U,U,U,U,U,U],defers:=[]} y:=by
  intro v6 v7 v8 v9 v10 v11 v12 v13 v14 v15 v16 v17 v18 v19 v20 v21 v22 v23 v24 v25 y Ay Gy
  clear A
  have G:=Gy
  have Gy_s:=Gy.size
  clear Gy
  refine hK2.out _ _ ?_
  obtain ⟨b3,hb3⟩:∃ q,Hid (q=decide (0<distI c1.una s.ak)):=⟨_,rfl⟩
  rw [← hb3.out] at hl3
  replace hX:Hid (cX=if b3 then confN c1 s now else confD c1 s):=by
   show _=_
   rw [hX.out,hb3.out]
   simp
  go_upto_region 3 with (fail)
  cases b3
  case true=>
   refine wp_region_qs (wb:=y) (by kernel_rfl) (by kernel_rfl) (Since.refl _) ?_
   refine qV (pX g 0) ?_
   refine qV (pX g 0) ?_
   refine qV (pX g 2) ?_
   refine qC ⟨g,2,none⟩ (uJ c1.una) (fun y hy=>(Ay.since hy).cell 2) ?_
   refine qV (pX g 0) ?_
   refine qV (pX g 0) ?_
   refine qV (pX g 37) ?_
   refine qV (pX g 40) ?_
   refine qC ⟨g,40,none⟩ (uJ s.ak) (fun y hy=>(Ay.since hy).cell 40) ?_
   refine q_same (by kernel_rfl) 107 #[.int .u32 c1.una,.int .u32 s.ak] (.bool true) (fun x=>by kernel_rfl) (fun x=>hl3 x) ?_
   refine qV (bT) ?_
   refine q_frame (a':={tmps:=#[pX g 0,U,pX g 0,pX g 0,pX g 0,pX g 0,v6,v7,v8,v9,v10,v11,v12,v13,v14,v15,v16,v17,v18,v19,v20,v21,v22,v23,v24,v25,bT,pX g 0,pX g 0,pX g 2,uJ c1.una,pX g 0,pX g 0,pX g 37,pX g 40,uJ s.ak,bT,U,U,U,U,U,U,U,U,U,U,U,U,U,U,U,U,U,U,U,U,U,U,U,U,U,U,U,U,U,U,U,U,U,U],defers:=[]}) (by kernel_rfl) ?_
   refine q_nil ?_
   intro qw1 qh2
   replace Ay:=Ay.since qh2
   replace G:=touch_since G qh2
   have qh2_s:=qh2.size
   go_upto_region 4 with (fail)
   refine vR ?_
   refine vV (pX g 0) ?_
   refine vC (implConfirmedMore g c1 s now sv h0 h1 k2 k3 wd1 hak _ Ay) ?_
   rintro _ qw3 ⟨rfl,qt4,qB5⟩
   refine ⟨_,rfl,?_⟩
   clear Ay
   replace G:=touch_new G qt4 (by omega)
   have qt4_s:=qt4.size
   refine vE #[pX g 0,U,pX g 0,pX g 0,pX g 0,pX g 0,v6,v7,v8,v9,v10,v11,v12,v13,v14,v15,v16,v17,v18,v19,v20,v21,v22,v23,v24,v25,bT,pX g 0,pX g 0,pX g 2,uJ c1.una,pX g 0,pX g 0,pX g 37,pX g 40,uJ s.ak,bT,pX g 0,.tuple #[],U,U,U,U,U,U,U,U,U,U,U,U,U,U,U,U,U,U,U,U,U,U,U,U,U,U,U,U,U,U,U,U] ?_
   have hfin:Hid (cX=confN c1 s now):=hX.out
   go_wp2_with (fail)
   refine bodyPost_end (v:=.tuple #[]) (results_none rfl _ _ _) rfl ⟨rfl,G,?_⟩
   rw [hfin.out]
   exact qB5
  case false=>
   obtain ⟨b6,hb6⟩:∃ q,Hid (q=(s.wn == c1.wnd)):=⟨_,rfl⟩
   obtain ⟨b7,hb7⟩:∃ q,Hid (q=(c1.una != c1.mx)):=⟨_,rfl⟩
   replace hX:Hid (cX=confD c1 s):=hX.out
   by_cases he:s.d=ByteArray.empty
   case pos=>
    have e0:(s.d.toList == [])=true:=by rw [he,ByteArray.toList_eq];rfl
    cases b6
    case false=>
     refine wp_region_qs (wb:=y) (by kernel_rfl) (by kernel_rfl) (Since.refl _) ?_
     refine qV (pX g 0) ?_
     refine qV (pX g 0) ?_
     refine qV (pX g 2) ?_
     refine qC ⟨g,2,none⟩ (uJ c1.una) (fun y hy=>(Ay.since hy).cell 2) ?_
     refine qV (pX g 0) ?_
     refine qV (pX g 0) ?_
     refine qV (pX g 37) ?_
     refine qV (pX g 40) ?_
     refine qC ⟨g,40,none⟩ (uJ s.ak) (fun y hy=>(Ay.since hy).cell 40) ?_
     refine q_same (by kernel_rfl) 107 #[.int .u32 c1.una,.int .u32 s.ak] (.bool false) (fun x=>by kernel_rfl) (fun x=>hl3 x) ?_
     refine qV (bF) ?_
     refine q_frame (a':={tmps:=#[pX g 0,U,pX g 0,pX g 0,pX g 0,pX g 0,v6,v7,v8,v9,v10,v11,v12,v13,v14,v15,v16,v17,v18,v19,v20,v21,v22,v23,v24,v25,bF,pX g 0,pX g 0,pX g 2,uJ c1.una,pX g 0,pX g 0,pX g 37,pX g 40,uJ s.ak,bF,U,U,U,U,U,U,U,U,U,U,U,U,U,U,U,U,U,U,U,U,U,U,U,U,U,U,U,U,U,U,U,U,U,U],defers:=[]}) (by kernel_rfl) ?_
     refine q_nil ?_
     intro qw1 qh2
     replace Ay:=Ay.since qh2
     replace G:=touch_since G qh2
     have qh2_s:=qh2.size
     go_upto_region 5 with (fail)
     refine wp_region_qs (wb:=qw1) (by kernel_rfl) (by kernel_rfl) (Since.refl _) ?_
     refine qV (pX g 0) ?_
     refine qV (pX g 0) ?_
     refine qV (pX g 37) ?_
     refine qV (pX g 44) ?_
     refine qC ⟨g,44,none⟩ (.string s.d) (fun y hy=>(Ay.since hy).cell 44) ?_
     refine q_val (by kernel_rfl) (bT) (fun x hx=>by simp [execOp,go_sem,e0]) ?_
     refine qV (bT) ?_
     refine qV (pX g 0) ?_
     refine qV (pX g 0) ?_
     refine qV (pX g 37) ?_
     refine qV (pX g 42) ?_
     refine qC ⟨g,42,none⟩ (iJ s.wn) (fun y hy=>(Ay.since hy).cell 42) ?_
     refine qV (pX g 0) ?_
     refine qV (pX g 0) ?_
     refine qV (pX g 5) ?_
     refine qC ⟨g,5,none⟩ (iJ c1.wnd) (fun y hy=>(Ay.since hy).cell 5) ?_
     refine q_val (by kernel_rfl) (.bool false) (fun x hx=>by rw [show false=(s.wn == c1.wnd) from hb6.out];kernel_rfl) ?_
     refine qV (bF) ?_
     refine qV (bF) ?_
     refine qS ?_
     refine qS ?_
     refine qS ?_
     refine qS ?_
     refine qS ?_
     refine qS ?_
     refine qS ?_
     refine qS ?_
     refine qS ?_
     refine qV (bF) ?_
     refine qV (bF) ?_
     refine q_frame (a':={tmps:=#[pX g 0,U,pX g 0,pX g 0,pX g 0,pX g 0,v6,v7,v8,v9,v10,v11,v12,v13,v14,v15,v16,v17,v18,v19,v20,v21,v22,v23,v24,v25,bF,pX g 0,pX g 0,pX g 2,uJ c1.una,pX g 0,pX g 0,pX g 37,pX g 40,uJ s.ak,bF,U,U,bF,pX g 0,pX g 0,pX g 37,pX g 44,.string s.d,bT,bT,pX g 0,pX g 0,pX g 37,pX g 42,iJ s.wn,pX g 0,pX g 0,pX g 5,iJ c1.wnd,bF,bF,bF,U,U,U,U,U,U,U,U,U,bF,U,U],defers:=[]}) (by kernel_rfl) ?_
     refine q_nil ?_
     intro qw3 qh4
     replace Ay:=Ay.since qh4
     replace G:=touch_since G qh4
     have qh4_s:=qh4.size
     have hfin:Hid (cX=c1):=hX.out.trans (if_neg (fun h=>absurd h.2.1 (by simpa using hb6.out.symm)))
     go_wp2_with (fail)
     refine bodyPost_end (v:=.tuple #[]) (results_none rfl _ _ _) rfl ⟨rfl,G,?_⟩
     rw [hfin.out]
     exact Ay
    case true=>
     cases b7
     case false=>
      refine wp_region_qs (wb:=y) (by kernel_rfl) (by kernel_rfl) (Since.refl _) ?_
      refine qV (pX g 0) ?_
      refine qV (pX g 0) ?_
      refine qV (pX g 2) ?_
      refine qC ⟨g,2,none⟩ (uJ c1.una) (fun y hy=>(Ay.since hy).cell 2) ?_
      refine qV (pX g 0) ?_
      refine qV (pX g 0) ?_
      refine qV (pX g 37) ?_
      refine qV (pX g 40) ?_
      refine qC ⟨g,40,none⟩ (uJ s.ak) (fun y hy=>(Ay.since hy).cell 40) ?_
      refine q_same (by kernel_rfl) 107 #[.int .u32 c1.una,.int .u32 s.ak] (.bool false) (fun x=>by kernel_rfl) (fun x=>hl3 x) ?_
      refine qV (bF) ?_
      refine q_frame (a':={tmps:=#[pX g 0,U,pX g 0,pX g 0,pX g 0,pX g 0,v6,v7,v8,v9,v10,v11,v12,v13,v14,v15,v16,v17,v18,v19,v20,v21,v22,v23,v24,v25,bF,pX g 0,pX g 0,pX g 2,uJ c1.una,pX g 0,pX g 0,pX g 37,pX g 40,uJ s.ak,bF,U,U,U,U,U,U,U,U,U,U,U,U,U,U,U,U,U,U,U,U,U,U,U,U,U,U,U,U,U,U,U,U,U,U],defers:=[]}) (by kernel_rfl) ?_
      refine q_nil ?_
      intro qw1 qh2
      replace Ay:=Ay.since qh2
      replace G:=touch_since G qh2
      have qh2_s:=qh2.size
      go_upto_region 5 with (fail)
      refine wp_region_qs (wb:=qw1) (by kernel_rfl) (by kernel_rfl) (Since.refl _) ?_
      refine qV (pX g 0) ?_
      refine qV (pX g 0) ?_
      refine qV (pX g 37) ?_
      refine qV (pX g 44) ?_
      refine qC ⟨g,44,none⟩ (.string s.d) (fun y hy=>(Ay.since hy).cell 44) ?_
      refine q_val (by kernel_rfl) (bT) (fun x hx=>by simp [execOp,go_sem,e0]) ?_
      refine qV (bT) ?_
      refine qV (pX g 0) ?_
      refine qV (pX g 0) ?_
      refine qV (pX g 37) ?_
      refine qV (pX g 42) ?_
      refine qC ⟨g,42,none⟩ (iJ s.wn) (fun y hy=>(Ay.since hy).cell 42) ?_
      refine qV (pX g 0) ?_
      refine qV (pX g 0) ?_
      refine qV (pX g 5) ?_
      refine qC ⟨g,5,none⟩ (iJ c1.wnd) (fun y hy=>(Ay.since hy).cell 5) ?_
      refine q_val (by kernel_rfl) (.bool true) (fun x hx=>by rw [show true=(s.wn == c1.wnd) from hb6.out];kernel_rfl) ?_
      refine qV (bT) ?_
      refine qV (bT) ?_
      refine qV (pX g 0) ?_
      refine qV (pX g 0) ?_
      refine qV (pX g 2) ?_
      refine qC ⟨g,2,none⟩ (uJ c1.una) (fun y hy=>(Ay.since hy).cell 2) ?_
      refine qV (pX g 0) ?_
      refine qV (pX g 0) ?_
      refine qV (pX g 4) ?_
      refine qC ⟨g,4,none⟩ (uJ c1.mx) (fun y hy=>(Ay.since hy).cell 4) ?_
      refine q_val (by kernel_rfl) (.bool false) (fun x hx=>by rw [show false=(c1.una != c1.mx) from hb7.out];kernel_rfl) ?_
      refine qV (bF) ?_
      refine qV (bF) ?_
      refine q_frame (a':={tmps:=#[pX g 0,U,pX g 0,pX g 0,pX g 0,pX g 0,v6,v7,v8,v9,v10,v11,v12,v13,v14,v15,v16,v17,v18,v19,v20,v21,v22,v23,v24,v25,bF,pX g 0,pX g 0,pX g 2,uJ c1.una,pX g 0,pX g 0,pX g 37,pX g 40,uJ s.ak,bF,U,U,bF,pX g 0,pX g 0,pX g 37,pX g 44,.string s.d,bT,bT,pX g 0,pX g 0,pX g 37,pX g 42,iJ s.wn,pX g 0,pX g 0,pX g 5,iJ c1.wnd,bT,bT,bT,pX g 0,pX g 0,pX g 2,uJ c1.una,pX g 0,pX g 0,pX g 4,uJ c1.mx,bF,bF,U,U],defers:=[]}) (by kernel_rfl) ?_
      refine q_nil ?_
      intro qw3 qh4
      replace Ay:=Ay.since qh4
      replace G:=touch_since G qh4
      have qh4_s:=qh4.size
      have hfin:Hid (cX=c1):=hX.out.trans (if_neg (fun h=>absurd h.2.2 (by simpa using hb7.out.symm)))
      go_wp2_with (fail)
      refine bodyPost_end (v:=.tuple #[]) (results_none rfl _ _ _) rfl ⟨rfl,G,?_⟩
      rw [hfin.out]
      exact Ay
     case true=>
      refine wp_region_qs (wb:=y) (by kernel_rfl) (by kernel_rfl) (Since.refl _) ?_
      refine qV (pX g 0) ?_
      refine qV (pX g 0) ?_
      refine qV (pX g 2) ?_
      refine qC ⟨g,2,none⟩ (uJ c1.una) (fun y hy=>(Ay.since hy).cell 2) ?_
      refine qV (pX g 0) ?_
      refine qV (pX g 0) ?_
      refine qV (pX g 37) ?_
      refine qV (pX g 40) ?_
      refine qC ⟨g,40,none⟩ (uJ s.ak) (fun y hy=>(Ay.since hy).cell 40) ?_
      refine q_same (by kernel_rfl) 107 #[.int .u32 c1.una,.int .u32 s.ak] (.bool false) (fun x=>by kernel_rfl) (fun x=>hl3 x) ?_
      refine qV (bF) ?_
      refine q_frame (a':={tmps:=#[pX g 0,U,pX g 0,pX g 0,pX g 0,pX g 0,v6,v7,v8,v9,v10,v11,v12,v13,v14,v15,v16,v17,v18,v19,v20,v21,v22,v23,v24,v25,bF,pX g 0,pX g 0,pX g 2,uJ c1.una,pX g 0,pX g 0,pX g 37,pX g 40,uJ s.ak,bF,U,U,U,U,U,U,U,U,U,U,U,U,U,U,U,U,U,U,U,U,U,U,U,U,U,U,U,U,U,U,U,U,U,U],defers:=[]}) (by kernel_rfl) ?_
      refine q_nil ?_
      intro qw1 qh2
      replace Ay:=Ay.since qh2
      replace G:=touch_since G qh2
      have qh2_s:=qh2.size
      go_upto_region 5 with (fail)
      refine wp_region_qs (wb:=qw1) (by kernel_rfl) (by kernel_rfl) (Since.refl _) ?_
      refine qV (pX g 0) ?_
      refine qV (pX g 0) ?_
      refine qV (pX g 37) ?_
      refine qV (pX g 44) ?_
      refine qC ⟨g,44,none⟩ (.string s.d) (fun y hy=>(Ay.since hy).cell 44) ?_
      refine q_val (by kernel_rfl) (bT) (fun x hx=>by simp [execOp,go_sem,e0]) ?_
      refine qV (bT) ?_
      refine qV (pX g 0) ?_
      refine qV (pX g 0) ?_
      refine qV (pX g 37) ?_
      refine qV (pX g 42) ?_
      refine qC ⟨g,42,none⟩ (iJ s.wn) (fun y hy=>(Ay.since hy).cell 42) ?_
      refine qV (pX g 0) ?_
      refine qV (pX g 0) ?_
      refine qV (pX g 5) ?_
      refine qC ⟨g,5,none⟩ (iJ c1.wnd) (fun y hy=>(Ay.since hy).cell 5) ?_
      refine q_val (by kernel_rfl) (.bool true) (fun x hx=>by rw [show true=(s.wn == c1.wnd) from hb6.out];kernel_rfl) ?_
      refine qV (bT) ?_
      refine qV (bT) ?_
      refine qV (pX g 0) ?_
      refine qV (pX g 0) ?_
      refine qV (pX g 2) ?_
      refine qC ⟨g,2,none⟩ (uJ c1.una) (fun y hy=>(Ay.since hy).cell 2) ?_
      refine qV (pX g 0) ?_
      refine qV (pX g 0) ?_
      refine qV (pX g 4) ?_
      refine qC ⟨g,4,none⟩ (uJ c1.mx) (fun y hy=>(Ay.since hy).cell 4) ?_
      refine q_val (by kernel_rfl) (.bool true) (fun x hx=>by rw [show true=(c1.una != c1.mx) from hb7.out];kernel_rfl) ?_
      refine qV (bT) ?_
      refine qV (bT) ?_
      refine q_frame (a':={tmps:=#[pX g 0,U,pX g 0,pX g 0,pX g 0,pX g 0,v6,v7,v8,v9,v10,v11,v12,v13,v14,v15,v16,v17,v18,v19,v20,v21,v22,v23,v24,v25,bF,pX g 0,pX g 0,pX g 2,uJ c1.una,pX g 0,pX g 0,pX g 37,pX g 40,uJ s.ak,bF,U,U,bT,pX g 0,pX g 0,pX g 37,pX g 44,.string s.d,bT,bT,pX g 0,pX g 0,pX g 37,pX g 42,iJ s.wn,pX g 0,pX g 0,pX g 5,iJ c1.wnd,bT,bT,bT,pX g 0,pX g 0,pX g 2,uJ c1.una,pX g 0,pX g 0,pX g 4,uJ c1.mx,bT,bT,U,U],defers:=[]}) (by kernel_rfl) ?_
      refine q_nil ?_
      intro qw3 qh4
      replace Ay:=Ay.since qh4
      replace G:=touch_since G qh4
      have qh4_s:=qh4.size
      have hfin:Hid (cX=dupC (dupA c1) (dupB c1)):=hX.out.trans (if_pos ⟨he,by simpa using hb6.out.symm,by simpa using hb7.out.symm⟩)
      go_upto_region 6 with (fail)
      refine vR ?_
      refine vV (pX g 0) ?_
      refine vC (implConfirmedSame g c1 s now sv wd1 hp1 _ Ay) ?_
      rintro _ qw5 ⟨rfl,qt6,qB7⟩
      refine ⟨_,rfl,?_⟩
      clear Ay
      replace G:=touch_new G qt6 (by omega)
      have qt6_s:=qt6.size
      refine vE #[pX g 0,U,pX g 0,pX g 0,pX g 0,pX g 0,v6,v7,v8,v9,v10,v11,v12,v13,v14,v15,v16,v17,v18,v19,v20,v21,v22,v23,v24,v25,bF,pX g 0,pX g 0,pX g 2,uJ c1.una,pX g 0,pX g 0,pX g 37,pX g 40,uJ s.ak,bF,U,U,bT,pX g 0,pX g 0,pX g 37,pX g 44,.string s.d,bT,bT,pX g 0,pX g 0,pX g 37,pX g 42,iJ s.wn,pX g 0,pX g 0,pX g 5,iJ c1.wnd,bT,bT,bT,pX g 0,pX g 0,pX g 2,uJ c1.una,pX g 0,pX g 0,pX g 4,uJ c1.mx,bT,bT,pX g 0,.tuple #[]] ?_
      go_wp2_with (fail)
      refine bodyPost_end (v:=.tuple #[]) (results_none rfl _ _ _) rfl ⟨rfl,G,?_⟩
      rw [hfin.out]
      exact qB7
   case neg=>
    have e0:=noTextA he
    refine wp_region_qs (wb:=y) (by kernel_rfl) (by kernel_rfl) (Since.refl _) ?_
    refine qV (pX g 0) ?_
    refine qV (pX g 0) ?_
    refine qV (pX g 2) ?_
    refine qC ⟨g,2,none⟩ (uJ c1.una) (fun y hy=>(Ay.since hy).cell 2) ?_
    refine qV (pX g 0) ?_
    refine qV (pX g 0) ?_
    refine qV (pX g 37) ?_
    refine qV (pX g 40) ?_
    refine qC ⟨g,40,none⟩ (uJ s.ak) (fun y hy=>(Ay.since hy).cell 40) ?_
    refine q_same (by kernel_rfl) 107 #[.int .u32 c1.una,.int .u32 s.ak] (.bool false) (fun x=>by kernel_rfl) (fun x=>hl3 x) ?_
    refine qV (bF) ?_
    refine q_frame (a':={tmps:=#[pX g 0,U,pX g 0,pX g 0,pX g 0,pX g 0,v6,v7,v8,v9,v10,v11,v12,v13,v14,v15,v16,v17,v18,v19,v20,v21,v22,v23,v24,v25,bF,pX g 0,pX g 0,pX g 2,uJ c1.una,pX g 0,pX g 0,pX g 37,pX g 40,uJ s.ak,bF,U,U,U,U,U,U,U,U,U,U,U,U,U,U,U,U,U,U,U,U,U,U,U,U,U,U,U,U,U,U,U,U,U,U],defers:=[]}) (by kernel_rfl) ?_
    refine q_nil ?_
    intro qw1 qh2
    replace Ay:=Ay.since qh2
    replace G:=touch_since G qh2
    have qh2_s:=qh2.size
    go_upto_region 5 with (fail)
    refine wp_region_qs (wb:=qw1) (by kernel_rfl) (by kernel_rfl) (Since.refl _) ?_
    refine qV (pX g 0) ?_
    refine qV (pX g 0) ?_
    refine qV (pX g 37) ?_
    refine qV (pX g 44) ?_
    refine qC ⟨g,44,none⟩ (.string s.d) (fun y hy=>(Ay.since hy).cell 44) ?_
    refine q_val (by kernel_rfl) (bF) (fun x hx=>by simp [execOp,go_sem,e0]) ?_
    refine qV (bF) ?_
    refine qS ?_
    refine qS ?_
    refine qS ?_
    refine qS ?_
    refine qS ?_
    refine qS ?_
    refine qS ?_
    refine qS ?_
    refine qS ?_
    refine qS ?_
    refine qV (bF) ?_
    refine qV (bF) ?_
    refine qS ?_
    refine qS ?_
    refine qS ?_
    refine qS ?_
    refine qS ?_
    refine qS ?_
    refine qS ?_
    refine qS ?_
    refine qS ?_
    refine qV (bF) ?_
    refine qV (bF) ?_
    refine q_frame (a':={tmps:=#[pX g 0,U,pX g 0,pX g 0,pX g 0,pX g 0,v6,v7,v8,v9,v10,v11,v12,v13,v14,v15,v16,v17,v18,v19,v20,v21,v22,v23,v24,v25,bF,pX g 0,pX g 0,pX g 2,uJ c1.una,pX g 0,pX g 0,pX g 37,pX g 40,uJ s.ak,bF,U,U,bF,pX g 0,pX g 0,pX g 37,pX g 44,.string s.d,bF,bF,U,U,U,U,U,U,U,U,U,U,bF,bF,U,U,U,U,U,U,U,U,U,bF,U,U],defers:=[]}) (by kernel_rfl) ?_
    refine q_nil ?_
    intro qw3 qh4
    replace Ay:=Ay.since qh4
    replace G:=touch_since G qh4
    have qh4_s:=qh4.size
    have hfin:Hid (cX=c1):=hX.out.trans (if_neg (fun h=>absurd h.1 he))
    go_wp2_with (fail)
    refine bodyPost_end (v:=.tuple #[]) (results_none rfl _ _ _) rfl ⟨rfl,G,?_⟩
    rw [hfin.out]
    exact Ay
 replace key2:Hid _:=key2
 go_upto_region 1 with (fail)
 cases b1
 case false=>
  refine wp_region_qs (wb:=w) (by kernel_rfl) (by kernel_rfl) (Since.refl _) ?_
  refine qV (pX g 0) ?_
  refine qV (pX g 0) ?_
  refine qV (pX g 0) ?_
  refine qC ⟨g,0,none⟩ (iJ d.st) (fun y hy=>(A.since hy).cell 0) ?_
  refine q_val (by kernel_rfl) (.bool false) (fun x hx=>by rw [show false=(d.st == 2) from hb1.out];kernel_rfl) ?_
  refine qV (bF) ?_
  refine qS ?_
  refine qS ?_
  refine qS ?_
  refine qS ?_
  refine qS ?_
  refine qS ?_
  refine qS ?_
  refine qS ?_
  refine qS ?_
  refine qS ?_
  refine qV (bF) ?_
  refine q_frame (a':={tmps:=#[pX g 0,U,pX g 0,pX g 0,pX g 0,pX g 0,pX g 0,pX g 0,pX g 0,iJ d.st,bF,bF,U,U,U,U,U,U,U,U,U,U,bF,U,U,U,U,U,U,U,U,U,U,U,U,U,U,U,U,U,U,U,U,U,U,U,U,U,U,U,U,U,U,U,U,U,U,U,U,U,U,U,U,U,U,U,U,U,U,U,U],defers:=[]}) (by kernel_rfl) ?_
  refine q_nil ?_
  intro qw1 qh2
  replace A:=A.since qh2
  replace G:=touch_since G qh2
  have qh2_s:=qh2.size
  have e1:d=c1:=by
   rw [hc1.out]
   unfold conf1
   rw [if_neg (fun h=>absurd h.1 (by simpa using hb1.out.symm))]
  rw [e1] at A
  clear e1
  go_wp2_with (fail)
  exact key2.out _ _ _ _ _ _ _ _ _ _ _ _ _ _ _ _ _ _ _ _ _ A G
 case true=>
  cases b2
  case false=>
   refine wp_region_qs (wb:=w) (by kernel_rfl) (by kernel_rfl) (Since.refl _) ?_
   refine qV (pX g 0) ?_
   refine qV (pX g 0) ?_
   refine qV (pX g 0) ?_
   refine qC ⟨g,0,none⟩ (iJ d.st) (fun y hy=>(A.since hy).cell 0) ?_
   refine q_val (by kernel_rfl) (.bool true) (fun x hx=>by rw [show true=(d.st == 2) from hb1.out];kernel_rfl) ?_
   refine qV (bT) ?_
   refine qV (pX g 0) ?_
   refine qV (pX g 0) ?_
   refine qV (pX g 1) ?_
   refine qC ⟨g,1,none⟩ (uJ d.iss) (fun y hy=>(A.since hy).cell 1) ?_
   refine qV (pX g 0) ?_
   refine qV (pX g 0) ?_
   refine qV (pX g 37) ?_
   refine qV (pX g 40) ?_
   refine qC ⟨g,40,none⟩ (uJ s.ak) (fun y hy=>(A.since hy).cell 40) ?_
   refine q_same (by kernel_rfl) 107 #[.int .u32 d.iss,.int .u32 s.ak] (.bool false) (fun x=>by kernel_rfl) (fun x=>hl1 x) ?_
   refine qV (bF) ?_
   refine q_frame (a':={tmps:=#[pX g 0,U,pX g 0,pX g 0,pX g 0,pX g 0,pX g 0,pX g 0,pX g 0,iJ d.st,bT,bT,pX g 0,pX g 0,pX g 1,uJ d.iss,pX g 0,pX g 0,pX g 37,pX g 40,uJ s.ak,bF,bF,U,U,U,U,U,U,U,U,U,U,U,U,U,U,U,U,U,U,U,U,U,U,U,U,U,U,U,U,U,U,U,U,U,U,U,U,U,U,U,U,U,U,U,U,U,U,U,U],defers:=[]}) (by kernel_rfl) ?_
   refine q_nil ?_
   intro qw1 qh2
   replace A:=A.since qh2
   replace G:=touch_since G qh2
   have qh2_s:=qh2.size
   have e1:d=c1:=by
    rw [hc1.out]
    unfold conf1
    rw [if_neg (fun h=>absurd h.2 (by simpa using hb2.out.symm))]
   rw [e1] at A
   clear e1
   go_wp2_with (fail)
   exact key2.out _ _ _ _ _ _ _ _ _ _ _ _ _ _ _ _ _ _ _ _ _ A G
  case true=>
   refine wp_region_qs (wb:=w) (by kernel_rfl) (by kernel_rfl) (Since.refl _) ?_
   refine qV (pX g 0) ?_
   refine qV (pX g 0) ?_
   refine qV (pX g 0) ?_
   refine qC ⟨g,0,none⟩ (iJ d.st) (fun y hy=>(A.since hy).cell 0) ?_
   refine q_val (by kernel_rfl) (.bool true) (fun x hx=>by rw [show true=(d.st == 2) from hb1.out];kernel_rfl) ?_
   refine qV (bT) ?_
   refine qV (pX g 0) ?_
   refine qV (pX g 0) ?_
   refine qV (pX g 1) ?_
   refine qC ⟨g,1,none⟩ (uJ d.iss) (fun y hy=>(A.since hy).cell 1) ?_
   refine qV (pX g 0) ?_
   refine qV (pX g 0) ?_
   refine qV (pX g 37) ?_
   refine qV (pX g 40) ?_
   refine qC ⟨g,40,none⟩ (uJ s.ak) (fun y hy=>(A.since hy).cell 40) ?_
   refine q_same (by kernel_rfl) 107 #[.int .u32 d.iss,.int .u32 s.ak] (.bool true) (fun x=>by kernel_rfl) (fun x=>hl1 x) ?_
   refine qV (bT) ?_
   refine q_frame (a':={tmps:=#[pX g 0,U,pX g 0,pX g 0,pX g 0,pX g 0,pX g 0,pX g 0,pX g 0,iJ d.st,bT,bT,pX g 0,pX g 0,pX g 1,uJ d.iss,pX g 0,pX g 0,pX g 37,pX g 40,uJ s.ak,bT,bT,U,U,U,U,U,U,U,U,U,U,U,U,U,U,U,U,U,U,U,U,U,U,U,U,U,U,U,U,U,U,U,U,U,U,U,U,U,U,U,U,U,U,U,U,U,U,U,U],defers:=[]}) (by kernel_rfl) ?_
   refine q_nil ?_
   intro qw1 qh2
   replace A:=A.since qh2
   replace G:=touch_since G qh2
   have qh2_s:=qh2.size
   go_upto_region 2 with (fail)
   refine vR ?_
   refine vV (pX g 0) ?_
   refine vV (pX g 0) ?_
   refine vV (pX g 0) ?_
   refine sC (arrCells {d with st:=3} s now (sv)) A 0 (.int .i64 3) (arr_size _ _ _ _) ?_
   intro qw3 qt4 qB5
   clear A
   replace G:=touch_new G qt4 (by omega)
   have qt4_s:=qt4.size
   refine vE #[pX g 0,U,pX g 0,pX g 0,pX g 0,pX g 0,pX g 0,pX g 0,pX g 0,iJ d.st,bT,bT,pX g 0,pX g 0,pX g 1,uJ d.iss,pX g 0,pX g 0,pX g 37,pX g 40,uJ s.ak,bT,bT,pX g 0,pX g 0,pX g 0,U,U,U,U,U,U,U,U,U,U,U,U,U,U,U,U,U,U,U,U,U,U,U,U,U,U,U,U,U,U,U,U,U,U,U,U,U,U,U,U,U,U,U,U,U] ?_
   have e1:{d with st:=3}=c1:=by
    rw [hc1.out]
    unfold conf1
    rw [if_pos ⟨by simpa using hb1.out.symm,by simpa using hb2.out.symm⟩]
   rw [e1] at qB5
   clear e1
   go_wp2_with (fail)
   exact key2.out _ _ _ _ _ _ _ _ _ _ _ _ _ _ _ _ _ _ _ _ _ qB5 G
def toldB (d:Cn) (s:Sg):Bool:=decide (0<distI d.wsq s.sq) || (d.wsq == s.sq && !decide (0<distI s.ak d.wak))
def toldX (d:Cn) (s:Sg):Cn:=if toldB d s then (if s.wn != 0 then {toldC d s with prb:=0} else toldC d s) else d
theorem implTold (g:Nat) (d:Cn) (s:Sg) (now:Int) (sv:Value) (w1:IsWord d.wsq) (w2:IsWord d.wak) (hsq:IsWord s.sq) (hak:IsWord s.ak) (w:World) (A:Blk g w (arrCells d s now sv)) :
  Calls Tryz.prog 73 #[.pointer (some ⟨g,0,none⟩)] w fun e w'=>e=.returned (.tuple #[])∧Touch g w w'∧Blk g w' (arrCells (toldX d s) s now sv):=by
 have hl1:=fun wx=>implLess d.wsq s.sq _ w1 hsq (distI_is _ _) wx
 have hl2:=fun wx=>implLess s.ak d.wak _ hak w2 (distI_is _ _) wx
 obtain ⟨b1,hb1⟩:∃ q,Hid (q=decide (0<distI d.wsq s.sq)):=⟨_,rfl⟩
 obtain ⟨b2,hb2⟩:∃ q,Hid (q=(d.wsq == s.sq)):=⟨_,rfl⟩
 obtain ⟨b3,hb3⟩:∃ q,Hid (q=decide (0<distI s.ak d.wak)):=⟨_,rfl⟩
 obtain ⟨b4,hb4⟩:∃ q,Hid (q=(s.wn != 0)):=⟨_,rfl⟩
 rw [← hb1.out] at hl1
 rw [← hb3.out] at hl2
 have hX:Hid (toldX d s=if b1 || (b2 && !b3) then (if b4 then {toldC d s with prb:=0} else toldC d s) else d):=by
  show _=_
  rw [hb1.out,hb2.out,hb3.out,hb4.out]
  rfl
 generalize toldX d s=cX at hX ⊢
 have hA:=A.lt
 have G:=Touch.refl g w
 go_enter Tryz.func73,Tryz.ntmps73
 go_upto_region 0 with (fail)
 refine wp_region_tail (wb:=w) 9 (fun i x v=>match i with
   | 0=>v=.pointer (some ⟨g,0,none⟩)
   | 1=>v=.pointer (some ⟨g,0,none⟩)
   | 2=>v=.pointer (some ⟨g,0,none⟩)
   | 3=>v=.pointer (some ⟨g,0,none⟩)
   | 4=>v=.pointer (some ⟨g,0,none⟩)
   | 5=>v=.pointer (some ⟨g,37,none⟩)
   | 6=>v=.agg (sgCells s)
   | 7=>BoxB w.heap.size 8 x v
   | 8=>v=.pointer (some ⟨g,0,none⟩)
   | _=>True) (fun v=>{tmps:=#[pX g 0,U,v 8,v 7,v 0,v 1,v 2,v 3,v 4,v 5,v 6,U,U,U,U,U,U,U,U,U,U,U,U,U,U,U,U,U,U,U,U,U,U,U,U,U,U,U,U,U,U,U,U,U,U,U],defers:=[]}) (by kernel_rfl) (by kernel_rfl) (by kernel_rfl) (Since.refl _) ?_ (fun vals=>by kernel_rfl) ?_ ?_
 case refine_1=>
  intro j x x' v h1 h2
  match j,h2 with
  | 0,h2|1,h2|2,h2|3,h2|4,h2|5,h2|6,h2|8,h2=>exact h2
  | 7,h2=>exact h2.since h1
  | n+9,_=>trivial
 case refine_2=>
  repeat (first|exact eachDoes_nil|refine eachDoes_cons ?_ ?_)
  all_goals intro vals x hx hv
  all_goals simp [Region.binds] at hv
  ·simp [does,doesUpon,go_sem,hv,Since.refl]
  ·simp [does,doesUpon,go_sem]
   exact ⟨(Since.refl _).alloc _,BoxB.new _ _ _ hx.size rfl⟩
  ·exact does_aseg (A.since hx) _ rfl hv ⟨Since.refl _,rfl⟩
  ·simp [does,doesUpon,go_sem,hv,Since.refl]
  ·simp [does,doesUpon,go_sem,hv,Since.refl]
  ·simp [does,doesUpon,go_sem,Since.refl]
  ·simp [does,doesUpon,go_sem,hv,Since.refl]
  ·simp [does,doesUpon,go_sem,hv,Since.refl]
  ·simp [does,doesUpon,go_sem,Since.refl]
 case refine_3=>
  intro qv4 qw2 qh3 hv
  have hv0:qv4 0=_:=hv 0 (by decide)
  have hv1:qv4 1=_:=hv 1 (by decide)
  have hv2:qv4 2=_:=hv 2 (by decide)
  have hv3:qv4 3=_:=hv 3 (by decide)
  have hv4:qv4 4=_:=hv 4 (by decide)
  have hv5:qv4 5=_:=hv 5 (by decide)
  have hv6:qv4 6=_:=hv 6 (by decide)
  obtain ⟨qx1,hv7,qx1_l,qx1_c,qx1_z,qx1_B⟩:=hv 7 (by decide)
  have hv8:qv4 8=_:=hv 8 (by decide)
  clear hv
  simp only [hv0,hv1,hv2,hv3,hv4,hv5,hv6,hv7,hv8,List.drop]
  clear hv0 hv1 hv2 hv3 hv4 hv5 hv6 hv7 hv8
  replace A:=A.since qh3
  replace G:=touch_since G qh3
  have qh3_s:=qh3.size
  have qx1_m:=qx1_B.lt
  refine VL.out ?_
  refine sB (sgCells s) seg_big qx1_B rfl qx1_z (seg_one _ _ _ _ _ _ _ _) ?_
  intro qw5 qt6 qB7
  clear qx1_B
  replace A:=A.touch qt6 (by omega)
  replace G:=touch_new G qt6 (by omega)
  have qt6_s:=qt6.size
  refine vE #[pX g 0,U,pX g 0,pX qx1 0,pX g 0,pX g 0,pX g 0,pX g 0,pX g 0,pX g 37,.agg (sgCells s),U,U,U,U,U,U,U,U,U,U,U,U,U,U,U,U,U,U,U,U,U,U,U,U,U,U,U,U,U,U,U,U,U,U,U] ?_
  go_upto_region 1 with (fail)
  cases b1
  case true=>
   cases b4
   case false=>
    refine wp_region_qs (wb:=qw5) (by kernel_rfl) (by kernel_rfl) (Since.refl _) ?_
    refine qV (pX g 0) ?_
    refine qV (pX g 0) ?_
    refine qV (pX g 6) ?_
    refine qC ⟨g,6,none⟩ (uJ d.wsq) (fun y hy=>(A.since hy).cell 6) ?_
    refine qV (pX qx1 2) ?_
    refine qC ⟨qx1,2,none⟩ (uJ s.sq) (fun y hy=>(qB7.since hy).cell 2) ?_
    refine q_same (by kernel_rfl) 107 #[.int .u32 d.wsq,.int .u32 s.sq] (.bool true) (fun x=>by kernel_rfl) (fun x=>hl1 x) ?_
    refine qV (bF) ?_
    refine qV (bF) ?_
    refine qS ?_
    refine qS ?_
    refine qS ?_
    refine qS ?_
    refine qS ?_
    refine qS ?_
    refine qS ?_
    refine qS ?_
    refine qS ?_
    refine qS ?_
    refine qS ?_
    refine qS ?_
    refine qS ?_
    refine qS ?_
    refine qS ?_
    refine qS ?_
    refine qV (bF) ?_
    refine q_frame (a':={tmps:=#[pX g 0,U,pX g 0,pX qx1 0,pX g 0,pX g 0,pX g 0,pX g 0,pX g 0,pX g 37,.agg (sgCells s),pX g 0,pX g 0,pX g 6,uJ d.wsq,pX qx1 2,uJ s.sq,bT,bF,bF,U,U,U,U,U,U,U,U,U,U,U,U,U,U,U,U,bF,U,U,U,U,U,U,U,U,U],defers:=[]}) (by kernel_rfl) ?_
    refine q_nil ?_
    intro qw8 qh9
    replace A:=A.since qh9
    replace qB7:=qB7.since qh9
    replace G:=touch_since G qh9
    have qh9_s:=qh9.size
    go_upto_region 2 with (fail)
    refine vR ?_
    refine vV (pX g 0) ?_
    refine vB seg_big qB7 rfl ?_
    refine vC (implTellA g _ s now sv s _ A) ?_
    rintro _ qw10 ⟨rfl,qt11,qB12⟩
    refine ⟨_,rfl,?_⟩
    clear A
    replace qB7:=qB7.touch qt11 (by omega)
    replace G:=touch_new G qt11 (by omega)
    have qt11_s:=qt11.size
    refine vE #[pX g 0,U,pX g 0,pX qx1 0,pX g 0,pX g 0,pX g 0,pX g 0,pX g 0,pX g 37,.agg (sgCells s),pX g 0,pX g 0,pX g 6,uJ d.wsq,pX qx1 2,uJ s.sq,bT,bF,bF,U,U,U,U,U,U,U,U,U,U,U,U,U,U,U,U,bF,pX g 0,.agg (sgCells s),.tuple #[],U,U,U,U,U,U] ?_
    go_upto_region 3 with (fail)
    refine vR ?_
    refine vV (pX qx1 5) ?_
    refine vD (iJ s.wn) (qB7.cell 5) ?_
    refine vV (.bool false) ?_ (hrun:=by rw [show false=(s.wn != 0) from hb4.out];kernel_rfl)
    refine vE #[pX g 0,U,pX g 0,pX qx1 0,pX g 0,pX g 0,pX g 0,pX g 0,pX g 0,pX g 37,.agg (sgCells s),pX g 0,pX g 0,pX g 6,uJ d.wsq,pX qx1 2,uJ s.sq,bT,bF,bF,U,U,U,U,U,U,U,U,U,U,U,U,U,U,U,U,bF,pX g 0,.agg (sgCells s),.tuple #[],pX qx1 5,iJ s.wn,bF,U,U,U] ?_
    have hfin:Hid (cX=toldC d s):=hX.out
    go_wp2_with (fail)
    refine bodyPost_end (v:=.tuple #[]) (results_none rfl _ _ _) rfl ⟨rfl,G,?_⟩
    rw [hfin.out]
    exact qB12
   case true=>
    refine wp_region_qs (wb:=qw5) (by kernel_rfl) (by kernel_rfl) (Since.refl _) ?_
    refine qV (pX g 0) ?_
    refine qV (pX g 0) ?_
    refine qV (pX g 6) ?_
    refine qC ⟨g,6,none⟩ (uJ d.wsq) (fun y hy=>(A.since hy).cell 6) ?_
    refine qV (pX qx1 2) ?_
    refine qC ⟨qx1,2,none⟩ (uJ s.sq) (fun y hy=>(qB7.since hy).cell 2) ?_
    refine q_same (by kernel_rfl) 107 #[.int .u32 d.wsq,.int .u32 s.sq] (.bool true) (fun x=>by kernel_rfl) (fun x=>hl1 x) ?_
    refine qV (bF) ?_
    refine qV (bF) ?_
    refine qS ?_
    refine qS ?_
    refine qS ?_
    refine qS ?_
    refine qS ?_
    refine qS ?_
    refine qS ?_
    refine qS ?_
    refine qS ?_
    refine qS ?_
    refine qS ?_
    refine qS ?_
    refine qS ?_
    refine qS ?_
    refine qS ?_
    refine qS ?_
    refine qV (bF) ?_
    refine q_frame (a':={tmps:=#[pX g 0,U,pX g 0,pX qx1 0,pX g 0,pX g 0,pX g 0,pX g 0,pX g 0,pX g 37,.agg (sgCells s),pX g 0,pX g 0,pX g 6,uJ d.wsq,pX qx1 2,uJ s.sq,bT,bF,bF,U,U,U,U,U,U,U,U,U,U,U,U,U,U,U,U,bF,U,U,U,U,U,U,U,U,U],defers:=[]}) (by kernel_rfl) ?_
    refine q_nil ?_
    intro qw8 qh9
    replace A:=A.since qh9
    replace qB7:=qB7.since qh9
    replace G:=touch_since G qh9
    have qh9_s:=qh9.size
    go_upto_region 2 with (fail)
    refine vR ?_
    refine vV (pX g 0) ?_
    refine vB seg_big qB7 rfl ?_
    refine vC (implTellA g _ s now sv s _ A) ?_
    rintro _ qw10 ⟨rfl,qt11,qB12⟩
    refine ⟨_,rfl,?_⟩
    clear A
    replace qB7:=qB7.touch qt11 (by omega)
    replace G:=touch_new G qt11 (by omega)
    have qt11_s:=qt11.size
    refine vE #[pX g 0,U,pX g 0,pX qx1 0,pX g 0,pX g 0,pX g 0,pX g 0,pX g 0,pX g 37,.agg (sgCells s),pX g 0,pX g 0,pX g 6,uJ d.wsq,pX qx1 2,uJ s.sq,bT,bF,bF,U,U,U,U,U,U,U,U,U,U,U,U,U,U,U,U,bF,pX g 0,.agg (sgCells s),.tuple #[],U,U,U,U,U,U] ?_
    go_upto_region 3 with (fail)
    refine vR ?_
    refine vV (pX qx1 5) ?_
    refine vD (iJ s.wn) (qB7.cell 5) ?_
    refine vV (.bool true) ?_ (hrun:=by rw [show true=(s.wn != 0) from hb4.out];kernel_rfl)
    refine vE #[pX g 0,U,pX g 0,pX qx1 0,pX g 0,pX g 0,pX g 0,pX g 0,pX g 0,pX g 37,.agg (sgCells s),pX g 0,pX g 0,pX g 6,uJ d.wsq,pX qx1 2,uJ s.sq,bT,bF,bF,U,U,U,U,U,U,U,U,U,U,U,U,U,U,U,U,bF,pX g 0,.agg (sgCells s),.tuple #[],pX qx1 5,iJ s.wn,bT,U,U,U] ?_
    go_upto_region 4 with (fail)
    refine vR ?_
    refine vV (pX g 0) ?_
    refine vV (pX g 0) ?_
    refine vV (pX g 32) ?_
    refine sC (arrCells {d with wnd:=s.wn,wsq:=s.sq,wak:=s.ak,prb:=0} s now (sv)) qB12 32 (.int .i64 0) (arr_size _ _ _ _) ?_
    intro qw13 qt14 qB15
    clear qB12
    replace qB7:=qB7.touch qt14 (by omega)
    replace G:=touch_new G qt14 (by omega)
    have qt14_s:=qt14.size
    refine vE #[pX g 0,U,pX g 0,pX qx1 0,pX g 0,pX g 0,pX g 0,pX g 0,pX g 0,pX g 37,.agg (sgCells s),pX g 0,pX g 0,pX g 6,uJ d.wsq,pX qx1 2,uJ s.sq,bT,bF,bF,U,U,U,U,U,U,U,U,U,U,U,U,U,U,U,U,bF,pX g 0,.agg (sgCells s),.tuple #[],pX qx1 5,iJ s.wn,bT,pX g 0,pX g 0,pX g 32] ?_
    have hfin:Hid (cX={toldC d s with prb:=0}):=hX.out
    go_wp2_with (fail)
    refine bodyPost_end (v:=.tuple #[]) (results_none rfl _ _ _) rfl ⟨rfl,G,?_⟩
    rw [hfin.out]
    exact qB15
  case false=>
   cases b2
   case false=>
    have hn2:Hid (true=(d.wsq != s.sq)):=by show _=_;rw [bne,← hb2.out];rfl
    refine wp_region_qs (wb:=qw5) (by kernel_rfl) (by kernel_rfl) (Since.refl _) ?_
    refine qV (pX g 0) ?_
    refine qV (pX g 0) ?_
    refine qV (pX g 6) ?_
    refine qC ⟨g,6,none⟩ (uJ d.wsq) (fun y hy=>(A.since hy).cell 6) ?_
    refine qV (pX qx1 2) ?_
    refine qC ⟨qx1,2,none⟩ (uJ s.sq) (fun y hy=>(qB7.since hy).cell 2) ?_
    refine q_same (by kernel_rfl) 107 #[.int .u32 d.wsq,.int .u32 s.sq] (.bool false) (fun x=>by kernel_rfl) (fun x=>hl1 x) ?_
    refine qV (bT) ?_
    refine qV (bT) ?_
    refine qV (pX g 0) ?_
    refine qV (pX g 0) ?_
    refine qV (pX g 6) ?_
    refine qC ⟨g,6,none⟩ (uJ d.wsq) (fun y hy=>(A.since hy).cell 6) ?_
    refine qV (pX qx1 2) ?_
    refine qC ⟨qx1,2,none⟩ (uJ s.sq) (fun y hy=>(qB7.since hy).cell 2) ?_
    refine q_val (by kernel_rfl) (.bool true) (fun x hx=>by rw [show true=(d.wsq != s.sq) from hn2.out];kernel_rfl) ?_
    refine qV (bT) ?_
    refine qS ?_
    refine qS ?_
    refine qS ?_
    refine qS ?_
    refine qS ?_
    refine qS ?_
    refine qS ?_
    refine qV (bT) ?_
    refine qV (bT) ?_
    refine q_frame (a':={tmps:=#[pX g 0,U,pX g 0,pX qx1 0,pX g 0,pX g 0,pX g 0,pX g 0,pX g 0,pX g 37,.agg (sgCells s),pX g 0,pX g 0,pX g 6,uJ d.wsq,pX qx1 2,uJ s.sq,bF,bT,bT,pX g 0,pX g 0,pX g 6,uJ d.wsq,pX qx1 2,uJ s.sq,bT,bT,U,U,U,U,U,U,U,bT,bT,U,U,U,U,U,U,U,U,U],defers:=[]}) (by kernel_rfl) ?_
    refine q_nil ?_
    intro qw8 qh9
    replace A:=A.since qh9
    replace qB7:=qB7.since qh9
    replace G:=touch_since G qh9
    have qh9_s:=qh9.size
    have hfin:Hid (cX=d):=hX.out
    go_wp2_with (fail)
    refine bodyPost_ret (v:=.tuple #[]) (results_none rfl _ _ _) rfl ⟨rfl,G,?_⟩
    rw [hfin.out]
    exact A
   case true=>
    have hn2:Hid (false=(d.wsq != s.sq)):=by show _=_;rw [bne,← hb2.out];rfl
    cases b3
    case true=>
     refine wp_region_qs (wb:=qw5) (by kernel_rfl) (by kernel_rfl) (Since.refl _) ?_
     refine qV (pX g 0) ?_
     refine qV (pX g 0) ?_
     refine qV (pX g 6) ?_
     refine qC ⟨g,6,none⟩ (uJ d.wsq) (fun y hy=>(A.since hy).cell 6) ?_
     refine qV (pX qx1 2) ?_
     refine qC ⟨qx1,2,none⟩ (uJ s.sq) (fun y hy=>(qB7.since hy).cell 2) ?_
     refine q_same (by kernel_rfl) 107 #[.int .u32 d.wsq,.int .u32 s.sq] (.bool false) (fun x=>by kernel_rfl) (fun x=>hl1 x) ?_
     refine qV (bT) ?_
     refine qV (bT) ?_
     refine qV (pX g 0) ?_
     refine qV (pX g 0) ?_
     refine qV (pX g 6) ?_
     refine qC ⟨g,6,none⟩ (uJ d.wsq) (fun y hy=>(A.since hy).cell 6) ?_
     refine qV (pX qx1 2) ?_
     refine qC ⟨qx1,2,none⟩ (uJ s.sq) (fun y hy=>(qB7.since hy).cell 2) ?_
     refine q_val (by kernel_rfl) (.bool false) (fun x hx=>by rw [show false=(d.wsq != s.sq) from hn2.out];kernel_rfl) ?_
     refine qV (bF) ?_
     refine qV (pX qx1 3) ?_
     refine qC ⟨qx1,3,none⟩ (uJ s.ak) (fun y hy=>(qB7.since hy).cell 3) ?_
     refine qV (pX g 0) ?_
     refine qV (pX g 0) ?_
     refine qV (pX g 7) ?_
     refine qC ⟨g,7,none⟩ (uJ d.wak) (fun y hy=>(A.since hy).cell 7) ?_
     refine q_same (by kernel_rfl) 107 #[.int .u32 s.ak,.int .u32 d.wak] (.bool true) (fun x=>by kernel_rfl) (fun x=>hl2 x) ?_
     refine qV (bT) ?_
     refine qV (bT) ?_
     refine q_frame (a':={tmps:=#[pX g 0,U,pX g 0,pX qx1 0,pX g 0,pX g 0,pX g 0,pX g 0,pX g 0,pX g 37,.agg (sgCells s),pX g 0,pX g 0,pX g 6,uJ d.wsq,pX qx1 2,uJ s.sq,bF,bT,bT,pX g 0,pX g 0,pX g 6,uJ d.wsq,pX qx1 2,uJ s.sq,bF,bF,pX qx1 3,uJ s.ak,pX g 0,pX g 0,pX g 7,uJ d.wak,bT,bT,bT,U,U,U,U,U,U,U,U,U],defers:=[]}) (by kernel_rfl) ?_
     refine q_nil ?_
     intro qw8 qh9
     replace A:=A.since qh9
     replace qB7:=qB7.since qh9
     replace G:=touch_since G qh9
     have qh9_s:=qh9.size
     have hfin:Hid (cX=d):=hX.out
     go_wp2_with (fail)
     refine bodyPost_ret (v:=.tuple #[]) (results_none rfl _ _ _) rfl ⟨rfl,G,?_⟩
     rw [hfin.out]
     exact A
    case false=>
     cases b4
     case false=>
      refine wp_region_qs (wb:=qw5) (by kernel_rfl) (by kernel_rfl) (Since.refl _) ?_
      refine qV (pX g 0) ?_
      refine qV (pX g 0) ?_
      refine qV (pX g 6) ?_
      refine qC ⟨g,6,none⟩ (uJ d.wsq) (fun y hy=>(A.since hy).cell 6) ?_
      refine qV (pX qx1 2) ?_
      refine qC ⟨qx1,2,none⟩ (uJ s.sq) (fun y hy=>(qB7.since hy).cell 2) ?_
      refine q_same (by kernel_rfl) 107 #[.int .u32 d.wsq,.int .u32 s.sq] (.bool false) (fun x=>by kernel_rfl) (fun x=>hl1 x) ?_
      refine qV (bT) ?_
      refine qV (bT) ?_
      refine qV (pX g 0) ?_
      refine qV (pX g 0) ?_
      refine qV (pX g 6) ?_
      refine qC ⟨g,6,none⟩ (uJ d.wsq) (fun y hy=>(A.since hy).cell 6) ?_
      refine qV (pX qx1 2) ?_
      refine qC ⟨qx1,2,none⟩ (uJ s.sq) (fun y hy=>(qB7.since hy).cell 2) ?_
      refine q_val (by kernel_rfl) (.bool false) (fun x hx=>by rw [show false=(d.wsq != s.sq) from hn2.out];kernel_rfl) ?_
      refine qV (bF) ?_
      refine qV (pX qx1 3) ?_
      refine qC ⟨qx1,3,none⟩ (uJ s.ak) (fun y hy=>(qB7.since hy).cell 3) ?_
      refine qV (pX g 0) ?_
      refine qV (pX g 0) ?_
      refine qV (pX g 7) ?_
      refine qC ⟨g,7,none⟩ (uJ d.wak) (fun y hy=>(A.since hy).cell 7) ?_
      refine q_same (by kernel_rfl) 107 #[.int .u32 s.ak,.int .u32 d.wak] (.bool false) (fun x=>by kernel_rfl) (fun x=>hl2 x) ?_
      refine qV (bF) ?_
      refine qV (bF) ?_
      refine q_frame (a':={tmps:=#[pX g 0,U,pX g 0,pX qx1 0,pX g 0,pX g 0,pX g 0,pX g 0,pX g 0,pX g 37,.agg (sgCells s),pX g 0,pX g 0,pX g 6,uJ d.wsq,pX qx1 2,uJ s.sq,bF,bT,bT,pX g 0,pX g 0,pX g 6,uJ d.wsq,pX qx1 2,uJ s.sq,bF,bF,pX qx1 3,uJ s.ak,pX g 0,pX g 0,pX g 7,uJ d.wak,bF,bF,bF,U,U,U,U,U,U,U,U,U],defers:=[]}) (by kernel_rfl) ?_
      refine q_nil ?_
      intro qw8 qh9
      replace A:=A.since qh9
      replace qB7:=qB7.since qh9
      replace G:=touch_since G qh9
      have qh9_s:=qh9.size
      go_upto_region 2 with (fail)
      refine vR ?_
      refine vV (pX g 0) ?_
      refine vB seg_big qB7 rfl ?_
      refine vC (implTellA g _ s now sv s _ A) ?_
      rintro _ qw10 ⟨rfl,qt11,qB12⟩
      refine ⟨_,rfl,?_⟩
      clear A
      replace qB7:=qB7.touch qt11 (by omega)
      replace G:=touch_new G qt11 (by omega)
      have qt11_s:=qt11.size
      refine vE #[pX g 0,U,pX g 0,pX qx1 0,pX g 0,pX g 0,pX g 0,pX g 0,pX g 0,pX g 37,.agg (sgCells s),pX g 0,pX g 0,pX g 6,uJ d.wsq,pX qx1 2,uJ s.sq,bF,bT,bT,pX g 0,pX g 0,pX g 6,uJ d.wsq,pX qx1 2,uJ s.sq,bF,bF,pX qx1 3,uJ s.ak,pX g 0,pX g 0,pX g 7,uJ d.wak,bF,bF,bF,pX g 0,.agg (sgCells s),.tuple #[],U,U,U,U,U,U] ?_
      go_upto_region 3 with (fail)
      refine vR ?_
      refine vV (pX qx1 5) ?_
      refine vD (iJ s.wn) (qB7.cell 5) ?_
      refine vV (.bool false) ?_ (hrun:=by rw [show false=(s.wn != 0) from hb4.out];kernel_rfl)
      refine vE #[pX g 0,U,pX g 0,pX qx1 0,pX g 0,pX g 0,pX g 0,pX g 0,pX g 0,pX g 37,.agg (sgCells s),pX g 0,pX g 0,pX g 6,uJ d.wsq,pX qx1 2,uJ s.sq,bF,bT,bT,pX g 0,pX g 0,pX g 6,uJ d.wsq,pX qx1 2,uJ s.sq,bF,bF,pX qx1 3,uJ s.ak,pX g 0,pX g 0,pX g 7,uJ d.wak,bF,bF,bF,pX g 0,.agg (sgCells s),.tuple #[],pX qx1 5,iJ s.wn,bF,U,U,U] ?_
      have hfin:Hid (cX=toldC d s):=hX.out
      go_wp2_with (fail)
      refine bodyPost_end (v:=.tuple #[]) (results_none rfl _ _ _) rfl ⟨rfl,G,?_⟩
      rw [hfin.out]
      exact qB12
     case true=>
      refine wp_region_qs (wb:=qw5) (by kernel_rfl) (by kernel_rfl) (Since.refl _) ?_
      refine qV (pX g 0) ?_
      refine qV (pX g 0) ?_
      refine qV (pX g 6) ?_
      refine qC ⟨g,6,none⟩ (uJ d.wsq) (fun y hy=>(A.since hy).cell 6) ?_
      refine qV (pX qx1 2) ?_
      refine qC ⟨qx1,2,none⟩ (uJ s.sq) (fun y hy=>(qB7.since hy).cell 2) ?_
      refine q_same (by kernel_rfl) 107 #[.int .u32 d.wsq,.int .u32 s.sq] (.bool false) (fun x=>by kernel_rfl) (fun x=>hl1 x) ?_
      refine qV (bT) ?_
      refine qV (bT) ?_
      refine qV (pX g 0) ?_
      refine qV (pX g 0) ?_
      refine qV (pX g 6) ?_
      refine qC ⟨g,6,none⟩ (uJ d.wsq) (fun y hy=>(A.since hy).cell 6) ?_
      refine qV (pX qx1 2) ?_
      refine qC ⟨qx1,2,none⟩ (uJ s.sq) (fun y hy=>(qB7.since hy).cell 2) ?_
      refine q_val (by kernel_rfl) (.bool false) (fun x hx=>by rw [show false=(d.wsq != s.sq) from hn2.out];kernel_rfl) ?_
      refine qV (bF) ?_
      refine qV (pX qx1 3) ?_
      refine qC ⟨qx1,3,none⟩ (uJ s.ak) (fun y hy=>(qB7.since hy).cell 3) ?_
      refine qV (pX g 0) ?_
      refine qV (pX g 0) ?_
      refine qV (pX g 7) ?_
      refine qC ⟨g,7,none⟩ (uJ d.wak) (fun y hy=>(A.since hy).cell 7) ?_
      refine q_same (by kernel_rfl) 107 #[.int .u32 s.ak,.int .u32 d.wak] (.bool false) (fun x=>by kernel_rfl) (fun x=>hl2 x) ?_
      refine qV (bF) ?_
      refine qV (bF) ?_
      refine q_frame (a':={tmps:=#[pX g 0,U,pX g 0,pX qx1 0,pX g 0,pX g 0,pX g 0,pX g 0,pX g 0,pX g 37,.agg (sgCells s),pX g 0,pX g 0,pX g 6,uJ d.wsq,pX qx1 2,uJ s.sq,bF,bT,bT,pX g 0,pX g 0,pX g 6,uJ d.wsq,pX qx1 2,uJ s.sq,bF,bF,pX qx1 3,uJ s.ak,pX g 0,pX g 0,pX g 7,uJ d.wak,bF,bF,bF,U,U,U,U,U,U,U,U,U],defers:=[]}) (by kernel_rfl) ?_
      refine q_nil ?_
      intro qw8 qh9
      replace A:=A.since qh9
      replace qB7:=qB7.since qh9
      replace G:=touch_since G qh9
      have qh9_s:=qh9.size
      go_upto_region 2 with (fail)
      refine vR ?_
      refine vV (pX g 0) ?_
      refine vB seg_big qB7 rfl ?_
      refine vC (implTellA g _ s now sv s _ A) ?_
      rintro _ qw10 ⟨rfl,qt11,qB12⟩
      refine ⟨_,rfl,?_⟩
      clear A
      replace qB7:=qB7.touch qt11 (by omega)
      replace G:=touch_new G qt11 (by omega)
      have qt11_s:=qt11.size
      refine vE #[pX g 0,U,pX g 0,pX qx1 0,pX g 0,pX g 0,pX g 0,pX g 0,pX g 0,pX g 37,.agg (sgCells s),pX g 0,pX g 0,pX g 6,uJ d.wsq,pX qx1 2,uJ s.sq,bF,bT,bT,pX g 0,pX g 0,pX g 6,uJ d.wsq,pX qx1 2,uJ s.sq,bF,bF,pX qx1 3,uJ s.ak,pX g 0,pX g 0,pX g 7,uJ d.wak,bF,bF,bF,pX g 0,.agg (sgCells s),.tuple #[],U,U,U,U,U,U] ?_
      go_upto_region 3 with (fail)
      refine vR ?_
      refine vV (pX qx1 5) ?_
      refine vD (iJ s.wn) (qB7.cell 5) ?_
      refine vV (.bool true) ?_ (hrun:=by rw [show true=(s.wn != 0) from hb4.out];kernel_rfl)
      refine vE #[pX g 0,U,pX g 0,pX qx1 0,pX g 0,pX g 0,pX g 0,pX g 0,pX g 0,pX g 37,.agg (sgCells s),pX g 0,pX g 0,pX g 6,uJ d.wsq,pX qx1 2,uJ s.sq,bF,bT,bT,pX g 0,pX g 0,pX g 6,uJ d.wsq,pX qx1 2,uJ s.sq,bF,bF,pX qx1 3,uJ s.ak,pX g 0,pX g 0,pX g 7,uJ d.wak,bF,bF,bF,pX g 0,.agg (sgCells s),.tuple #[],pX qx1 5,iJ s.wn,bT,U,U,U] ?_
      go_upto_region 4 with (fail)
      refine vR ?_
      refine vV (pX g 0) ?_
      refine vV (pX g 0) ?_
      refine vV (pX g 32) ?_
      refine sC (arrCells {d with wnd:=s.wn,wsq:=s.sq,wak:=s.ak,prb:=0} s now (sv)) qB12 32 (.int .i64 0) (arr_size _ _ _ _) ?_
      intro qw13 qt14 qB15
      clear qB12
      replace qB7:=qB7.touch qt14 (by omega)
      replace G:=touch_new G qt14 (by omega)
      have qt14_s:=qt14.size
      refine vE #[pX g 0,U,pX g 0,pX qx1 0,pX g 0,pX g 0,pX g 0,pX g 0,pX g 0,pX g 37,.agg (sgCells s),pX g 0,pX g 0,pX g 6,uJ d.wsq,pX qx1 2,uJ s.sq,bF,bT,bT,pX g 0,pX g 0,pX g 6,uJ d.wsq,pX qx1 2,uJ s.sq,bF,bF,pX qx1 3,uJ s.ak,pX g 0,pX g 0,pX g 7,uJ d.wak,bF,bF,bF,pX g 0,.agg (sgCells s),.tuple #[],pX qx1 5,iJ s.wn,bT,pX g 0,pX g 0,pX g 32] ?_
      have hfin:Hid (cX={toldC d s with prb:=0}):=hX.out
      go_wp2_with (fail)
      refine bodyPost_end (v:=.tuple #[]) (results_none rfl _ _ _) rfl ⟨rfl,G,?_⟩
      rw [hfin.out]
      exact qB15
def finDoneX (d:Cn) (now:Int):Cn:=if d.fsn && decide (0<distI d.fsq d.una) then (if d.st == 4 then {d with st:=5} else if d.st == 7 then restC d now else if d.st == 8 then endC d 0 else d) else d
theorem implFinConfirmed (g:Nat) (d:Cn) (s:Sg) (now:Int) (sv:Value) (h0:0≤now) (h1:now≤1000000000) (w1:IsWord d.fsq) (w2:IsWord d.una) (w:World) (A:Blk g w (arrCells d s now sv)) :
  Calls Tryz.prog 74 #[.pointer (some ⟨g,0,none⟩)] w fun e w'=>e=.returned (.tuple #[])∧Touch g w w'∧Blk g w' (arrCells (finDoneX d now) s now sv):=by
 have hl:=fun wx=>implLess d.fsq d.una _ w1 w2 (distI_is _ _) wx
 obtain ⟨b,hb⟩:∃ q,Hid (q=decide (0<distI d.fsq d.una)):=⟨_,rfl⟩
 rw [← hb.out] at hl
 obtain ⟨f,hf⟩:∃ q,Hid (d.fsn=q):=⟨_,rfl⟩
 obtain ⟨s4,hs4⟩:∃ q,Hid (q=(d.st == 4)):=⟨_,rfl⟩
 obtain ⟨s7,hs7⟩:∃ q,Hid (q=(d.st == 7)):=⟨_,rfl⟩
 obtain ⟨s8,hs8⟩:∃ q,Hid (q=(d.st == 8)):=⟨_,rfl⟩
 have hX:Hid (finDoneX d now=if f && b then (if s4 then {d with st:=5} else if s7 then restC d now else if s8 then endC d 0 else d) else d):=by
  show _=_
  rw [← hf.out,hb.out,hs4.out,hs7.out,hs8.out]
  rfl
 generalize finDoneX d now=cX at hX ⊢
 have hA:=A.lt
 have G:=Touch.refl g w
 go_enter Tryz.func74,Tryz.ntmps74
 go_upto_region 0 with (fail)
 refine vR ?_
 refine vV (pX g 0) ?_
 refine vV (pX g 0) ?_
 refine vV (pX g 0) ?_
 refine vV (pX g 0) ?_
 refine vE #[pX g 0,U,pX g 0,pX g 0,pX g 0,pX g 0,U,U,U,U,U,U,U,U,U,U,U,U,U,U,U,U,U,U,U,U,U,U,U,U,U,U,U,U,U,U,U,U,U,U,U,U,U,U] ?_
 go_upto_region 1 with (fail)
 cases f
 case false=>
  refine wp_region_qs (wb:=w) (by kernel_rfl) (by kernel_rfl) (Since.refl _) ?_
  refine qV (pX g 0) ?_
  refine qV (pX g 0) ?_
  refine qV (pX g 16) ?_
  refine qC ⟨g,16,none⟩ (bF) (fun y hy=>((A.since hy).cell 16).trans (by show some (.bool d.fsn:Value)=some (bF:Value);rw [hf.out])) ?_
  refine qV (bT) ?_
  refine qV (bT) ?_
  refine qS ?_
  refine qS ?_
  refine qS ?_
  refine qS ?_
  refine qS ?_
  refine qS ?_
  refine qS ?_
  refine qS ?_
  refine qS ?_
  refine qS ?_
  refine qV (bT) ?_
  refine q_frame (a':={tmps:=#[pX g 0,U,pX g 0,pX g 0,pX g 0,pX g 0,pX g 0,pX g 0,pX g 16,bF,bT,bT,U,U,U,U,U,U,U,U,U,U,bT,U,U,U,U,U,U,U,U,U,U,U,U,U,U,U,U,U,U,U,U,U],defers:=[]}) (by kernel_rfl) ?_
  refine q_nil ?_
  intro qw1 qh2
  replace A:=A.since qh2
  replace G:=touch_since G qh2
  have qh2_s:=qh2.size
  have hfin:Hid (cX=d):=hX.out
  go_wp2_with (fail)
  refine bodyPost_ret (v:=.tuple #[]) (results_none rfl _ _ _) rfl ⟨rfl,G,?_⟩
  rw [hfin.out]
  exact A
 case true=>
  cases b
  case false=>
   refine wp_region_qs (wb:=w) (by kernel_rfl) (by kernel_rfl) (Since.refl _) ?_
   refine qV (pX g 0) ?_
   refine qV (pX g 0) ?_
   refine qV (pX g 16) ?_
   refine qC ⟨g,16,none⟩ (bT) (fun y hy=>((A.since hy).cell 16).trans (by show some (.bool d.fsn:Value)=some (bT:Value);rw [hf.out])) ?_
   refine qV (bF) ?_
   refine qV (bF) ?_
   refine qV (pX g 0) ?_
   refine qV (pX g 0) ?_
   refine qV (pX g 17) ?_
   refine qC ⟨g,17,none⟩ (uJ d.fsq) (fun y hy=>(A.since hy).cell 17) ?_
   refine qV (pX g 0) ?_
   refine qV (pX g 0) ?_
   refine qV (pX g 2) ?_
   refine qC ⟨g,2,none⟩ (uJ d.una) (fun y hy=>(A.since hy).cell 2) ?_
   refine q_same (by kernel_rfl) 107 #[.int .u32 d.fsq,.int .u32 d.una] (.bool false) (fun x=>by kernel_rfl) (fun x=>hl x) ?_
   refine qV (bT) ?_
   refine qV (bT) ?_
   refine q_frame (a':={tmps:=#[pX g 0,U,pX g 0,pX g 0,pX g 0,pX g 0,pX g 0,pX g 0,pX g 16,bT,bF,bF,pX g 0,pX g 0,pX g 17,uJ d.fsq,pX g 0,pX g 0,pX g 2,uJ d.una,bF,bT,bT,U,U,U,U,U,U,U,U,U,U,U,U,U,U,U,U,U,U,U,U,U],defers:=[]}) (by kernel_rfl) ?_
   refine q_nil ?_
   intro qw1 qh2
   replace A:=A.since qh2
   replace G:=touch_since G qh2
   have qh2_s:=qh2.size
   have hfin:Hid (cX=d):=hX.out
   go_wp2_with (fail)
   refine bodyPost_ret (v:=.tuple #[]) (results_none rfl _ _ _) rfl ⟨rfl,G,?_⟩
   rw [hfin.out]
   exact A
  case true=>
   cases s4
   case true=>
    refine wp_region_qs (wb:=w) (by kernel_rfl) (by kernel_rfl) (Since.refl _) ?_
    refine qV (pX g 0) ?_
    refine qV (pX g 0) ?_
    refine qV (pX g 16) ?_
    refine qC ⟨g,16,none⟩ (bT) (fun y hy=>((A.since hy).cell 16).trans (by show some (.bool d.fsn:Value)=some (bT:Value);rw [hf.out])) ?_
    refine qV (bF) ?_
    refine qV (bF) ?_
    refine qV (pX g 0) ?_
    refine qV (pX g 0) ?_
    refine qV (pX g 17) ?_
    refine qC ⟨g,17,none⟩ (uJ d.fsq) (fun y hy=>(A.since hy).cell 17) ?_
    refine qV (pX g 0) ?_
    refine qV (pX g 0) ?_
    refine qV (pX g 2) ?_
    refine qC ⟨g,2,none⟩ (uJ d.una) (fun y hy=>(A.since hy).cell 2) ?_
    refine q_same (by kernel_rfl) 107 #[.int .u32 d.fsq,.int .u32 d.una] (.bool true) (fun x=>by kernel_rfl) (fun x=>hl x) ?_
    refine qV (bF) ?_
    refine qV (bF) ?_
    refine q_frame (a':={tmps:=#[pX g 0,U,pX g 0,pX g 0,pX g 0,pX g 0,pX g 0,pX g 0,pX g 16,bT,bF,bF,pX g 0,pX g 0,pX g 17,uJ d.fsq,pX g 0,pX g 0,pX g 2,uJ d.una,bT,bF,bF,U,U,U,U,U,U,U,U,U,U,U,U,U,U,U,U,U,U,U,U,U],defers:=[]}) (by kernel_rfl) ?_
    refine q_nil ?_
    intro qw1 qh2
    replace A:=A.since qh2
    replace G:=touch_since G qh2
    have qh2_s:=qh2.size
    go_upto_region 2 with (fail)
    refine vR ?_
    refine vV (pX g 0) ?_
    refine vV (pX g 0) ?_
    refine vV (pX g 0) ?_
    refine vD (iJ d.st) (A.cell 0) ?_
    refine vE #[pX g 0,U,pX g 0,pX g 0,pX g 0,pX g 0,pX g 0,pX g 0,pX g 16,bT,bF,bF,pX g 0,pX g 0,pX g 17,uJ d.fsq,pX g 0,pX g 0,pX g 2,uJ d.una,bT,bF,bF,pX g 0,pX g 0,pX g 0,iJ d.st,U,U,U,U,U,U,U,U,U,U,U,U,U,U,U,U,U] ?_
    go_upto_region 3 with (fail)
    refine vR ?_
    refine vV (.bool true) ?_ (hrun:=by rw [show true=(d.st == 4) from hs4.out];kernel_rfl)
    refine vV (bT) ?_
    refine vE #[pX g 0,U,pX g 0,pX g 0,pX g 0,pX g 0,pX g 0,pX g 0,pX g 16,bT,bF,bF,pX g 0,pX g 0,pX g 17,uJ d.fsq,pX g 0,pX g 0,pX g 2,uJ d.una,bT,bF,bF,pX g 0,pX g 0,pX g 0,iJ d.st,bT,bT,U,U,U,U,U,U,U,U,U,U,U,U,U,U,U] ?_
    go_upto_region 4 with (fail)
    refine vR ?_
    refine vV (pX g 0) ?_
    refine vV (pX g 0) ?_
    refine vV (pX g 0) ?_
    refine sC (arrCells {d with st:=5} s now (sv)) A 0 (.int .i64 5) (arr_size _ _ _ _) ?_
    intro qw3 qt4 qB5
    clear A
    replace G:=touch_new G qt4 (by omega)
    have qt4_s:=qt4.size
    refine vE #[pX g 0,U,pX g 0,pX g 0,pX g 0,pX g 0,pX g 0,pX g 0,pX g 16,bT,bF,bF,pX g 0,pX g 0,pX g 17,uJ d.fsq,pX g 0,pX g 0,pX g 2,uJ d.una,bT,bF,bF,pX g 0,pX g 0,pX g 0,iJ d.st,bT,bT,pX g 0,pX g 0,pX g 0,U,U,U,U,U,U,U,U,U,U,U,U] ?_
    have hfin:Hid (cX={d with st:=5}):=hX.out
    go_wp2_with (fail)
    refine bodyPost_end (v:=.tuple #[]) (results_none rfl _ _ _) rfl ⟨rfl,G,?_⟩
    rw [hfin.out]
    exact qB5
   case false=>
    cases s7
    case true=>
     refine wp_region_qs (wb:=w) (by kernel_rfl) (by kernel_rfl) (Since.refl _) ?_
     refine qV (pX g 0) ?_
     refine qV (pX g 0) ?_
     refine qV (pX g 16) ?_
     refine qC ⟨g,16,none⟩ (bT) (fun y hy=>((A.since hy).cell 16).trans (by show some (.bool d.fsn:Value)=some (bT:Value);rw [hf.out])) ?_
     refine qV (bF) ?_
     refine qV (bF) ?_
     refine qV (pX g 0) ?_
     refine qV (pX g 0) ?_
     refine qV (pX g 17) ?_
     refine qC ⟨g,17,none⟩ (uJ d.fsq) (fun y hy=>(A.since hy).cell 17) ?_
     refine qV (pX g 0) ?_
     refine qV (pX g 0) ?_
     refine qV (pX g 2) ?_
     refine qC ⟨g,2,none⟩ (uJ d.una) (fun y hy=>(A.since hy).cell 2) ?_
     refine q_same (by kernel_rfl) 107 #[.int .u32 d.fsq,.int .u32 d.una] (.bool true) (fun x=>by kernel_rfl) (fun x=>hl x) ?_
     refine qV (bF) ?_
     refine qV (bF) ?_
     refine q_frame (a':={tmps:=#[pX g 0,U,pX g 0,pX g 0,pX g 0,pX g 0,pX g 0,pX g 0,pX g 16,bT,bF,bF,pX g 0,pX g 0,pX g 17,uJ d.fsq,pX g 0,pX g 0,pX g 2,uJ d.una,bT,bF,bF,U,U,U,U,U,U,U,U,U,U,U,U,U,U,U,U,U,U,U,U,U],defers:=[]}) (by kernel_rfl) ?_
     refine q_nil ?_
     intro qw1 qh2
     replace A:=A.since qh2
     replace G:=touch_since G qh2
     have qh2_s:=qh2.size
     go_upto_region 2 with (fail)
     refine vR ?_
     refine vV (pX g 0) ?_
     refine vV (pX g 0) ?_
     refine vV (pX g 0) ?_
     refine vD (iJ d.st) (A.cell 0) ?_
     refine vE #[pX g 0,U,pX g 0,pX g 0,pX g 0,pX g 0,pX g 0,pX g 0,pX g 16,bT,bF,bF,pX g 0,pX g 0,pX g 17,uJ d.fsq,pX g 0,pX g 0,pX g 2,uJ d.una,bT,bF,bF,pX g 0,pX g 0,pX g 0,iJ d.st,U,U,U,U,U,U,U,U,U,U,U,U,U,U,U,U,U] ?_
     go_upto_region 3 with (fail)
     refine vR ?_
     refine vV (.bool false) ?_ (hrun:=by rw [show false=(d.st == 4) from hs4.out];kernel_rfl)
     refine vV (bF) ?_
     refine vE #[pX g 0,U,pX g 0,pX g 0,pX g 0,pX g 0,pX g 0,pX g 0,pX g 16,bT,bF,bF,pX g 0,pX g 0,pX g 17,uJ d.fsq,pX g 0,pX g 0,pX g 2,uJ d.una,bT,bF,bF,pX g 0,pX g 0,pX g 0,iJ d.st,bF,bF,U,U,U,U,U,U,U,U,U,U,U,U,U,U,U] ?_
     go_upto_region 5 with (fail)
     refine vR ?_
     refine vV (.bool true) ?_ (hrun:=by rw [show true=(d.st == 7) from hs7.out];kernel_rfl)
     refine vV (bT) ?_
     refine vE #[pX g 0,U,pX g 0,pX g 0,pX g 0,pX g 0,pX g 0,pX g 0,pX g 16,bT,bF,bF,pX g 0,pX g 0,pX g 17,uJ d.fsq,pX g 0,pX g 0,pX g 2,uJ d.una,bT,bF,bF,pX g 0,pX g 0,pX g 0,iJ d.st,bF,bF,U,U,U,bT,bT,U,U,U,U,U,U,U,U,U,U] ?_
     go_upto_region 6 with (fail)
     refine vR ?_
     refine vV (pX g 0) ?_
     refine vV (pX g 0) ?_
     refine vV (pX g 0) ?_
     refine vV (pX g 45) ?_
     refine vD (iJ now) (A.cell 45) ?_
     refine vC (implRestA g d s now sv now h0 h1 _ A) ?_
     rintro _ qw3 ⟨rfl,qt4,qB5⟩
     refine ⟨_,rfl,?_⟩
     clear A
     replace G:=touch_new G qt4 (by omega)
     have qt4_s:=qt4.size
     refine vE #[pX g 0,U,pX g 0,pX g 0,pX g 0,pX g 0,pX g 0,pX g 0,pX g 16,bT,bF,bF,pX g 0,pX g 0,pX g 17,uJ d.fsq,pX g 0,pX g 0,pX g 2,uJ d.una,bT,bF,bF,pX g 0,pX g 0,pX g 0,iJ d.st,bF,bF,U,U,U,bT,bT,pX g 0,pX g 0,pX g 0,pX g 45,iJ now,.tuple #[],U,U,U,U] ?_
     have hfin:Hid (cX=restC d now):=hX.out
     go_wp2_with (fail)
     refine bodyPost_end (v:=.tuple #[]) (results_none rfl _ _ _) rfl ⟨rfl,G,?_⟩
     rw [hfin.out]
     exact qB5
    case false=>
     cases s8
     case true=>
      refine wp_region_qs (wb:=w) (by kernel_rfl) (by kernel_rfl) (Since.refl _) ?_
      refine qV (pX g 0) ?_
      refine qV (pX g 0) ?_
      refine qV (pX g 16) ?_
      refine qC ⟨g,16,none⟩ (bT) (fun y hy=>((A.since hy).cell 16).trans (by show some (.bool d.fsn:Value)=some (bT:Value);rw [hf.out])) ?_
      refine qV (bF) ?_
      refine qV (bF) ?_
      refine qV (pX g 0) ?_
      refine qV (pX g 0) ?_
      refine qV (pX g 17) ?_
      refine qC ⟨g,17,none⟩ (uJ d.fsq) (fun y hy=>(A.since hy).cell 17) ?_
      refine qV (pX g 0) ?_
      refine qV (pX g 0) ?_
      refine qV (pX g 2) ?_
      refine qC ⟨g,2,none⟩ (uJ d.una) (fun y hy=>(A.since hy).cell 2) ?_
      refine q_same (by kernel_rfl) 107 #[.int .u32 d.fsq,.int .u32 d.una] (.bool true) (fun x=>by kernel_rfl) (fun x=>hl x) ?_
      refine qV (bF) ?_
      refine qV (bF) ?_
      refine q_frame (a':={tmps:=#[pX g 0,U,pX g 0,pX g 0,pX g 0,pX g 0,pX g 0,pX g 0,pX g 16,bT,bF,bF,pX g 0,pX g 0,pX g 17,uJ d.fsq,pX g 0,pX g 0,pX g 2,uJ d.una,bT,bF,bF,U,U,U,U,U,U,U,U,U,U,U,U,U,U,U,U,U,U,U,U,U],defers:=[]}) (by kernel_rfl) ?_
      refine q_nil ?_
      intro qw1 qh2
      replace A:=A.since qh2
      replace G:=touch_since G qh2
      have qh2_s:=qh2.size
      go_upto_region 2 with (fail)
      refine vR ?_
      refine vV (pX g 0) ?_
      refine vV (pX g 0) ?_
      refine vV (pX g 0) ?_
      refine vD (iJ d.st) (A.cell 0) ?_
      refine vE #[pX g 0,U,pX g 0,pX g 0,pX g 0,pX g 0,pX g 0,pX g 0,pX g 16,bT,bF,bF,pX g 0,pX g 0,pX g 17,uJ d.fsq,pX g 0,pX g 0,pX g 2,uJ d.una,bT,bF,bF,pX g 0,pX g 0,pX g 0,iJ d.st,U,U,U,U,U,U,U,U,U,U,U,U,U,U,U,U,U] ?_
      go_upto_region 3 with (fail)
      refine vR ?_
      refine vV (.bool false) ?_ (hrun:=by rw [show false=(d.st == 4) from hs4.out];kernel_rfl)
      refine vV (bF) ?_
      refine vE #[pX g 0,U,pX g 0,pX g 0,pX g 0,pX g 0,pX g 0,pX g 0,pX g 16,bT,bF,bF,pX g 0,pX g 0,pX g 17,uJ d.fsq,pX g 0,pX g 0,pX g 2,uJ d.una,bT,bF,bF,pX g 0,pX g 0,pX g 0,iJ d.st,bF,bF,U,U,U,U,U,U,U,U,U,U,U,U,U,U,U] ?_
      go_upto_region 5 with (fail)
      refine vR ?_
      refine vV (.bool false) ?_ (hrun:=by rw [show false=(d.st == 7) from hs7.out];kernel_rfl)
      refine vV (bF) ?_
      refine vE #[pX g 0,U,pX g 0,pX g 0,pX g 0,pX g 0,pX g 0,pX g 0,pX g 16,bT,bF,bF,pX g 0,pX g 0,pX g 17,uJ d.fsq,pX g 0,pX g 0,pX g 2,uJ d.una,bT,bF,bF,pX g 0,pX g 0,pX g 0,iJ d.st,bF,bF,U,U,U,bF,bF,U,U,U,U,U,U,U,U,U,U] ?_
      go_upto_region 7 with (fail)
      refine vR ?_
      refine vV (.bool true) ?_ (hrun:=by rw [show true=(d.st == 8) from hs8.out];kernel_rfl)
      refine vV (bT) ?_
      refine vE #[pX g 0,U,pX g 0,pX g 0,pX g 0,pX g 0,pX g 0,pX g 0,pX g 16,bT,bF,bF,pX g 0,pX g 0,pX g 17,uJ d.fsq,pX g 0,pX g 0,pX g 2,uJ d.una,bT,bF,bF,pX g 0,pX g 0,pX g 0,iJ d.st,bF,bF,U,U,U,bF,bF,U,U,U,U,U,U,bT,bT,U,U] ?_
      go_upto_region 8 with (fail)
      refine vR ?_
      refine vV (pX g 0) ?_
      refine vC (implFinishA g d s now sv 0 _ A) ?_
      rintro _ qw3 ⟨rfl,qt4,qB5⟩
      refine ⟨_,rfl,?_⟩
      clear A
      replace G:=touch_new G qt4 (by omega)
      have qt4_s:=qt4.size
      refine vE #[pX g 0,U,pX g 0,pX g 0,pX g 0,pX g 0,pX g 0,pX g 0,pX g 16,bT,bF,bF,pX g 0,pX g 0,pX g 17,uJ d.fsq,pX g 0,pX g 0,pX g 2,uJ d.una,bT,bF,bF,pX g 0,pX g 0,pX g 0,iJ d.st,bF,bF,U,U,U,bF,bF,U,U,U,U,U,U,bT,bT,pX g 0,.tuple #[]] ?_
      have hfin:Hid (cX=endC d 0):=hX.out
      go_wp2_with (fail)
      refine bodyPost_end (v:=.tuple #[]) (results_none rfl _ _ _) rfl ⟨rfl,G,?_⟩
      rw [hfin.out]
      exact qB5
     case false=>
      refine wp_region_qs (wb:=w) (by kernel_rfl) (by kernel_rfl) (Since.refl _) ?_
      refine qV (pX g 0) ?_
      refine qV (pX g 0) ?_
      refine qV (pX g 16) ?_
      refine qC ⟨g,16,none⟩ (bT) (fun y hy=>((A.since hy).cell 16).trans (by show some (.bool d.fsn:Value)=some (bT:Value);rw [hf.out])) ?_
      refine qV (bF) ?_
      refine qV (bF) ?_
      refine qV (pX g 0) ?_
      refine qV (pX g 0) ?_
      refine qV (pX g 17) ?_
      refine qC ⟨g,17,none⟩ (uJ d.fsq) (fun y hy=>(A.since hy).cell 17) ?_
      refine qV (pX g 0) ?_
      refine qV (pX g 0) ?_
      refine qV (pX g 2) ?_
      refine qC ⟨g,2,none⟩ (uJ d.una) (fun y hy=>(A.since hy).cell 2) ?_
      refine q_same (by kernel_rfl) 107 #[.int .u32 d.fsq,.int .u32 d.una] (.bool true) (fun x=>by kernel_rfl) (fun x=>hl x) ?_
      refine qV (bF) ?_
      refine qV (bF) ?_
      refine q_frame (a':={tmps:=#[pX g 0,U,pX g 0,pX g 0,pX g 0,pX g 0,pX g 0,pX g 0,pX g 16,bT,bF,bF,pX g 0,pX g 0,pX g 17,uJ d.fsq,pX g 0,pX g 0,pX g 2,uJ d.una,bT,bF,bF,U,U,U,U,U,U,U,U,U,U,U,U,U,U,U,U,U,U,U,U,U],defers:=[]}) (by kernel_rfl) ?_
      refine q_nil ?_
      intro qw1 qh2
      replace A:=A.since qh2
      replace G:=touch_since G qh2
      have qh2_s:=qh2.size
      go_upto_region 2 with (fail)
      refine vR ?_
      refine vV (pX g 0) ?_
      refine vV (pX g 0) ?_
      refine vV (pX g 0) ?_
      refine vD (iJ d.st) (A.cell 0) ?_
      refine vE #[pX g 0,U,pX g 0,pX g 0,pX g 0,pX g 0,pX g 0,pX g 0,pX g 16,bT,bF,bF,pX g 0,pX g 0,pX g 17,uJ d.fsq,pX g 0,pX g 0,pX g 2,uJ d.una,bT,bF,bF,pX g 0,pX g 0,pX g 0,iJ d.st,U,U,U,U,U,U,U,U,U,U,U,U,U,U,U,U,U] ?_
      go_upto_region 3 with (fail)
      refine vR ?_
      refine vV (.bool false) ?_ (hrun:=by rw [show false=(d.st == 4) from hs4.out];kernel_rfl)
      refine vV (bF) ?_
      refine vE #[pX g 0,U,pX g 0,pX g 0,pX g 0,pX g 0,pX g 0,pX g 0,pX g 16,bT,bF,bF,pX g 0,pX g 0,pX g 17,uJ d.fsq,pX g 0,pX g 0,pX g 2,uJ d.una,bT,bF,bF,pX g 0,pX g 0,pX g 0,iJ d.st,bF,bF,U,U,U,U,U,U,U,U,U,U,U,U,U,U,U] ?_
      go_upto_region 5 with (fail)
      refine vR ?_
      refine vV (.bool false) ?_ (hrun:=by rw [show false=(d.st == 7) from hs7.out];kernel_rfl)
      refine vV (bF) ?_
      refine vE #[pX g 0,U,pX g 0,pX g 0,pX g 0,pX g 0,pX g 0,pX g 0,pX g 16,bT,bF,bF,pX g 0,pX g 0,pX g 17,uJ d.fsq,pX g 0,pX g 0,pX g 2,uJ d.una,bT,bF,bF,pX g 0,pX g 0,pX g 0,iJ d.st,bF,bF,U,U,U,bF,bF,U,U,U,U,U,U,U,U,U,U] ?_
      go_upto_region 7 with (fail)
      refine vR ?_
      refine vV (.bool false) ?_ (hrun:=by rw [show false=(d.st == 8) from hs8.out];kernel_rfl)
      refine vV (bF) ?_
      refine vE #[pX g 0,U,pX g 0,pX g 0,pX g 0,pX g 0,pX g 0,pX g 0,pX g 16,bT,bF,bF,pX g 0,pX g 0,pX g 17,uJ d.fsq,pX g 0,pX g 0,pX g 2,uJ d.una,bT,bF,bF,pX g 0,pX g 0,pX g 0,iJ d.st,bF,bF,U,U,U,bF,bF,U,U,U,U,U,U,bF,bF,U,U] ?_
      have hfin:Hid (cX=d):=hX.out
      go_wp2_with (fail)
      refine bodyPost_end (v:=.tuple #[]) (results_none rfl _ _ _) rfl ⟨rfl,G,?_⟩
      rw [hfin.out]
      exact A
end Go.Proofs.YtmigalhmlofbkaaGreatDoor
