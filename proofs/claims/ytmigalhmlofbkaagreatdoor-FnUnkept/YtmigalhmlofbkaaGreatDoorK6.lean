/- A part of the proof. -/
import Derived.Test.YtmigalhmlofbkaaGreatDoorK4
set_option linter.unusedVariables false
set_option maxRecDepth 20000
set_option maxHeartbeats 8000000
namespace Go.Proofs.YtmigalhmlofbkaaGreatDoor
open Go.ChangeShapes Go.WideShapes Go.ChangeAt Go.RowKit Go.Deep
theorem implHearCk (k0 h p j q e:Int) (s:Sg) (hd:s.d.size≤1048576) (w:World) (E:LaidM w) :
  Calls Tryz.prog 8 #[.int .u32 k0,addrVal h p,addrVal j q,.int .i64 e,.agg (sgCells s)] w fun f w'=>f=.returned (hearCk k0 h p j q e s)∧Since w w':=by
 have h1:=fun wx=>hasCookies h p j q e wx
 have ha:=fun wx=>asking s hd wx
 have hm:=fun wx L=>implMssStep s.ms wx L
 have hk:=fun wx=>implCookie k0 h p j q e (stepTo s.ms 8) wx
 have hE:=E.lt
 obtain ⟨V,hV⟩:∃ V,Hid (V=hearCk k0 h p j q e s):=⟨_,rfl⟩
 rw [← hV.out]
 have G:=Since.refl w
 unfold addrVal at *
 go_enter Tryz.func8,Tryz.ntmps8
 go_upto_region 0 with (fail)
 refine vR ?_
 refine vW (w.alloc (.cells #[uJ h,iJ p] 26)) (pX w.heap.size 0) ?_
 have qB2:=Blk.new w #[.int .u32 h,.int .i64 p] 26
 have qg3:=(Since.refl w).alloc (.cells #[.int .u32 h,.int .i64 p] 26)
 replace E:=E.since qg3
 replace G:=G.trans qg3
 generalize w.alloc (.cells #[.int .u32 h,.int .i64 p] 26)=qw1 at E G qB2 qg3 ⊢
 have qB2_l:=qB2.lt
 have qg3_s:=qg3.size
 refine vW (qw1.alloc (.cells #[uJ j,iJ q] 26)) (pX qw1.heap.size 0) ?_
 have qB5:=Blk.new qw1 #[.int .u32 j,.int .i64 q] 26
 have qg6:=(Since.refl qw1).alloc (.cells #[.int .u32 j,.int .i64 q] 26)
 replace qB2:=qB2.since qg6
 replace E:=E.since qg6
 replace G:=G.trans qg6
 generalize qw1.alloc (.cells #[.int .u32 j,.int .i64 q] 26)=qw4 at qB2 E G qB5 qg6 ⊢
 have qB5_l:=qB5.lt
 have qg6_s:=qg6.size
 refine vW (qw4.alloc (.cells (sgCells s) 41)) (pX qw4.heap.size 0) ?_
 have qB8:=Blk.new qw4 (sgCells s) 41
 have qg9:=(Since.refl qw4).alloc (.cells (sgCells s) 41)
 replace qB2:=qB2.since qg9
 replace qB5:=qB5.since qg9
 replace E:=E.since qg9
 replace G:=G.trans qg9
 generalize qw4.alloc (.cells (sgCells s) 41)=qw7 at qB2 qB5 E G qB8 qg9 ⊢
 have qB8_l:=qB8.lt
 have qg9_s:=qg9.size
 refine vW (qw7.alloc (.cells (sgCells sgZero) 41)) (pX qw7.heap.size 0) ?_
 have qB11:=Blk.new qw7 (sgCells sgZero) 41
 have qg12:=(Since.refl qw7).alloc (.cells (sgCells sgZero) 41)
 replace qB2:=qB2.since qg12
 replace qB5:=qB5.since qg12
 replace qB8:=qB8.since qg12
 replace E:=E.since qg12
 replace G:=G.trans qg12
 generalize qw7.alloc (.cells (sgCells sgZero) 41)=qw10 at qB2 qB5 qB8 E G qB11 qg12 ⊢
 have qB11_l:=qB11.lt
 have qg12_s:=qg12.size
 refine vV (bF) ?_
 refine vE #[uJ k0,.agg #[uJ h,iJ p],.agg #[uJ j,iJ q],iJ e,.agg (sgCells s),U,pX w.heap.size 0,pX qw1.heap.size 0,U,pX qw4.heap.size 0,pX qw7.heap.size 0,bF,U,U,U,U,U,U,U,U,U,U,U,U,U,U,U,U,U,U,U,U,U,U,U] ?_
 go_upto_region 1 with (fail)
 cases c1:ckOk p q e
 ·rw [c1] at h1
  replace c1:Hid _:=c1
  refine vR ?_
  refine vB ad_big qB2 rfl ?_
  refine vB ad_big qB5 rfl ?_
  refine vV (iJ e) ?_
  refine vK (h1 _) ?_
  intro qw13 qg14
  replace qB2:=qB2.since qg14
  replace qB5:=qB5.since qg14
  replace qB8:=qB8.since qg14
  replace qB11:=qB11.since qg14
  replace E:=E.since qg14
  replace G:=G.trans qg14
  have qg14_s:=qg14.size
  refine vV (bT) ?_
  refine vV (bT) ?_
  refine vS ?_
  refine vS ?_
  refine vS ?_
  refine vV (bT) ?_
  refine vE #[uJ k0,.agg #[uJ h,iJ p],.agg #[uJ j,iJ q],iJ e,.agg (sgCells s),U,pX w.heap.size 0,pX qw1.heap.size 0,U,pX qw4.heap.size 0,pX qw7.heap.size 0,bF,.agg #[uJ h,iJ p],.agg #[uJ j,iJ q],iJ e,bF,bT,bT,U,U,U,bT,U,U,U,U,U,U,U,U,U,U,U,U,U] ?_
  go_upto_region 2 with (fail)
  refine vR ?_
  refine vV (.agg (sgCells sgZero)) ?_
  refine sB (sgCells sgZero) seg_big qB11 rfl rfl (seg_one _ _ _ _ _ _ _ _) ?_
  intro qw15 qt16 qB17
  clear qB11
  replace qB2:=qB2.touch qt16 (by omega)
  replace qB5:=qB5.touch qt16 (by omega)
  replace qB8:=qB8.touch qt16 (by omega)
  replace E:=E.touch qt16 (by omega)
  replace G:=since_touch G qt16 (by omega)
  have qt16_s:=qt16.size
  refine vV (bF) ?_
  refine vE #[uJ k0,.agg #[uJ h,iJ p],.agg #[uJ j,iJ q],iJ e,.agg (sgCells s),U,pX w.heap.size 0,pX qw1.heap.size 0,U,pX qw4.heap.size 0,pX qw7.heap.size 0,bF,.agg #[uJ h,iJ p],.agg #[uJ j,iJ q],iJ e,bF,bT,bT,U,U,U,bT,.agg (sgCells sgZero),U,U,U,U,U,U,U,U,U,U,U,U] ?_
  go_wp2_with (fail)
  exact bodyPost_ret (v:=.tuple #[.agg (sgCells sgZero),.bool false]) (results_sg2 (t:=10) (u:=11) rfl _ rfl qB17) rfl ⟨by rw [hV.out,hearCk_no (by rw [c1.out];rfl)],G⟩
 ·rw [c1] at h1
  replace c1:Hid _:=c1
  cases c2:askOk s
  ·rw [c2] at ha
   replace c2:Hid _:=c2
   refine vR ?_
   refine vB ad_big qB2 rfl ?_
   refine vB ad_big qB5 rfl ?_
   refine vV (iJ e) ?_
   refine vK (h1 _) ?_
   intro qw13 qg14
   replace qB2:=qB2.since qg14
   replace qB5:=qB5.since qg14
   replace qB8:=qB8.since qg14
   replace qB11:=qB11.since qg14
   replace E:=E.since qg14
   replace G:=G.trans qg14
   have qg14_s:=qg14.size
   refine vV (bF) ?_
   refine vV (bF) ?_
   refine vB seg_big qB8 rfl ?_
   refine vC (ha _) ?_
   rintro _ qw15 ⟨⟨v,rfl,hfv⟩,qg16⟩
   refine ⟨_,rfl,?_⟩
   replace qB2:=qB2.since qg16
   replace qB5:=qB5.since qg16
   replace qB8:=qB8.since qg16
   replace qB11:=qB11.since qg16
   replace E:=E.since qg16
   replace G:=G.trans qg16
   have qg16_s:=qg16.size
   obtain ⟨t,rfl⟩:=hfv.2 rfl
   refine vV (bT) ?_
   refine vV (bT) ?_
   refine vE #[uJ k0,.agg #[uJ h,iJ p],.agg #[uJ j,iJ q],iJ e,.agg (sgCells s),U,pX w.heap.size 0,pX qw1.heap.size 0,U,pX qw4.heap.size 0,pX qw7.heap.size 0,bF,.agg #[uJ h,iJ p],.agg #[uJ j,iJ q],iJ e,bT,bF,bF,.agg (sgCells s),.iface 75 (.agg (mfCells t false false false)),bT,bT,U,U,U,U,U,U,U,U,U,U,U,U,U] ?_
   go_upto_region 2 with (fail)
   refine vR ?_
   refine vV (.agg (sgCells sgZero)) ?_
   refine sB (sgCells sgZero) seg_big qB11 rfl rfl (seg_one _ _ _ _ _ _ _ _) ?_
   intro qw17 qt18 qB19
   clear qB11
   replace qB2:=qB2.touch qt18 (by omega)
   replace qB5:=qB5.touch qt18 (by omega)
   replace qB8:=qB8.touch qt18 (by omega)
   replace E:=E.touch qt18 (by omega)
   replace G:=since_touch G qt18 (by omega)
   have qt18_s:=qt18.size
   refine vV (bF) ?_
   refine vE #[uJ k0,.agg #[uJ h,iJ p],.agg #[uJ j,iJ q],iJ e,.agg (sgCells s),U,pX w.heap.size 0,pX qw1.heap.size 0,U,pX qw4.heap.size 0,pX qw7.heap.size 0,bF,.agg #[uJ h,iJ p],.agg #[uJ j,iJ q],iJ e,bT,bF,bF,.agg (sgCells s),.iface 75 (.agg (mfCells t false false false)),bT,bT,.agg (sgCells sgZero),U,U,U,U,U,U,U,U,U,U,U,U] ?_
   go_wp2_with (fail)
   exact bodyPost_ret (v:=.tuple #[.agg (sgCells sgZero),.bool false]) (results_sg2 (t:=10) (u:=11) rfl _ rfl qB19) rfl ⟨by rw [hV.out,hearCk_no (by rw [c1.out,c2.out];rfl)],G⟩
  ·rw [c2] at ha
   replace c2:Hid _:=c2
   refine vR ?_
   refine vB ad_big qB2 rfl ?_
   refine vB ad_big qB5 rfl ?_
   refine vV (iJ e) ?_
   refine vK (h1 _) ?_
   intro qw13 qg14
   replace qB2:=qB2.since qg14
   replace qB5:=qB5.since qg14
   replace qB8:=qB8.since qg14
   replace qB11:=qB11.since qg14
   replace E:=E.since qg14
   replace G:=G.trans qg14
   have qg14_s:=qg14.size
   refine vV (bF) ?_
   refine vV (bF) ?_
   refine vB seg_big qB8 rfl ?_
   refine vC (ha _) ?_
   rintro _ qw15 ⟨⟨v,rfl,hfv⟩,qg16⟩
   refine ⟨_,rfl,?_⟩
   replace qB2:=qB2.since qg16
   replace qB5:=qB5.since qg16
   replace qB8:=qB8.since qg16
   replace qB11:=qB11.since qg16
   replace E:=E.since qg16
   replace G:=G.trans qg16
   have qg16_s:=qg16.size
   obtain rfl:=hfv.1 rfl
   refine vV (bF) ?_
   refine vV (bF) ?_
   refine vE #[uJ k0,.agg #[uJ h,iJ p],.agg #[uJ j,iJ q],iJ e,.agg (sgCells s),U,pX w.heap.size 0,pX qw1.heap.size 0,U,pX qw4.heap.size 0,pX qw7.heap.size 0,bF,.agg #[uJ h,iJ p],.agg #[uJ j,iJ q],iJ e,bT,bF,bF,.agg (sgCells s),.nilIface,bF,bF,U,U,U,U,U,U,U,U,U,U,U,U,U] ?_
   go_upto_region 3 with (fail)
   refine wp_region_tail (wb:=qw15) 12 (fun i x v=>match i with
     | 0=>v=.int .u32 k0
     | 1=>v=.agg #[.int .u32 h,.int .i64 p]
     | 2=>v=.agg #[.int .u32 j,.int .i64 q]
     | 3=>v=.int .i64 e
     | 4=>v=.pointer (some ⟨qw4.heap.size,6,none⟩)
     | 5=>v=.int .i64 s.ms
     | 6=>v=.int .i64 (stepTo s.ms 8)
     | 7=>v=.int .u32 (ckOf k0 h p j q e (stepTo s.ms 8))
     | 8=>v=.pointer (some ⟨qw4.heap.size,2,none⟩)
     | 9=>v=.int .u32 s.sq
     | 10=>v=.int .u32 ((s.sq+1) % 4294967296)
     | 11=>v=.agg (sgCells (ansCk k0 h p j q e s))
     | _=>True) (fun v=>{tmps:=#[uJ k0,.agg #[uJ h,iJ p],.agg #[uJ j,iJ q],iJ e,.agg (sgCells s),U,pX w.heap.size 0,pX qw1.heap.size 0,U,pX qw4.heap.size 0,pX qw7.heap.size 0,bF,.agg #[uJ h,iJ p],.agg #[uJ j,iJ q],iJ e,bT,bF,bF,.agg (sgCells s),.nilIface,bF,bF,U,v 0,v 1,v 2,v 3,v 4,v 5,v 6,v 7,v 8,v 9,v 10,v 11],defers:=[]}) (by kernel_rfl) (by kernel_rfl) (by kernel_rfl) (Since.refl _) ?_ (fun vals=>by kernel_rfl) ?_ ?_
   case refine_1=>
    intro j x x' v h1 h2
    match j,h2 with
    | 0,h2|1,h2|2,h2|3,h2|4,h2|5,h2|6,h2|7,h2|8,h2|9,h2|10,h2|11,h2=>exact h2
    | n+12,_=>trivial
   case refine_2=>
    repeat (first|exact eachDoes_nil|refine eachDoes_cons ?_ ?_)
    all_goals intro vals x hx hv
    all_goals simp [Region.binds] at hv
    ·obtain ⟨h7,h10⟩:=hv
     exact does_valT (.agg (sgCells (ansCk k0 h p j q e s))) x (by simp only [h7,h10];kernel_rfl) ⟨Since.refl _,rfl⟩
    ·simp [does,doesUpon,go_sem,hv,IntKind.wrap_u32,Since.refl]
    ·have fl0:x.cell? ⟨qw4.heap.size,2,none⟩=some (.int .u32 s.sq):=(qB8.since hx).cell 2
     simp [does,doesUpon,go_sem,hv,fl0,Since.refl]
    ·simp [does,doesUpon,go_sem,Since.refl]
    ·simp [does,doesUpon,go_sem,hv]
     refine (hk _).mono ?_
     rintro _ x' ⟨rfl,h1⟩
     simp [h1]
    ·simp [does,doesUpon,go_sem,hv]
     refine (hm _ (E.since hx)).mono ?_
     rintro _ x' ⟨rfl,rfl⟩
     simp [Since.refl]
    ·have fl0:x.cell? ⟨qw4.heap.size,6,none⟩=some (.int .i64 s.ms):=(qB8.since hx).cell 6
     simp [does,doesUpon,go_sem,hv,fl0,Since.refl]
    ·simp [does,doesUpon,go_sem,Since.refl]
    ·simp [does,doesUpon,go_sem,Since.refl]
    ·exact does_load ad_big rfl (qB5.since hx) _ rfl rfl ⟨Since.refl _,rfl⟩
    ·exact does_load ad_big rfl (qB2.since hx) _ rfl rfl ⟨Since.refl _,rfl⟩
    ·simp [does,doesUpon,go_sem,Since.refl]
   case refine_3=>
    intro qv19 qw17 qh18 hv
    have hv0:qv19 0=_:=hv 0 (by decide)
    have hv1:qv19 1=_:=hv 1 (by decide)
    have hv2:qv19 2=_:=hv 2 (by decide)
    have hv3:qv19 3=_:=hv 3 (by decide)
    have hv4:qv19 4=_:=hv 4 (by decide)
    have hv5:qv19 5=_:=hv 5 (by decide)
    have hv6:qv19 6=_:=hv 6 (by decide)
    have hv7:qv19 7=_:=hv 7 (by decide)
    have hv8:qv19 8=_:=hv 8 (by decide)
    have hv9:qv19 9=_:=hv 9 (by decide)
    have hv10:qv19 10=_:=hv 10 (by decide)
    have hv11:qv19 11=_:=hv 11 (by decide)
    clear hv
    simp only [hv0,hv1,hv2,hv3,hv4,hv5,hv6,hv7,hv8,hv9,hv10,hv11,List.drop]
    clear hv0 hv1 hv2 hv3 hv4 hv5 hv6 hv7 hv8 hv9 hv10 hv11
    replace qB2:=qB2.since qh18
    replace qB5:=qB5.since qh18
    replace qB8:=qB8.since qh18
    replace qB11:=qB11.since qh18
    replace E:=E.since qh18
    replace G:=G.trans qh18
    have qh18_s:=qh18.size
    refine VL.out ?_
    refine sB (sgCells (ansCk k0 h p j q e s)) seg_big qB11 rfl rfl (seg_one _ _ _ _ _ _ _ _) ?_
    intro qw20 qt21 qB22
    clear qB11
    replace qB2:=qB2.touch qt21 (by omega)
    replace qB5:=qB5.touch qt21 (by omega)
    replace qB8:=qB8.touch qt21 (by omega)
    replace E:=E.touch qt21 (by omega)
    replace G:=since_touch G qt21 (by omega)
    have qt21_s:=qt21.size
    refine vV (bT) ?_
    refine vE #[uJ k0,.agg #[uJ h,iJ p],.agg #[uJ j,iJ q],iJ e,.agg (sgCells s),U,pX w.heap.size 0,pX qw1.heap.size 0,U,pX qw4.heap.size 0,pX qw7.heap.size 0,bT,.agg #[uJ h,iJ p],.agg #[uJ j,iJ q],iJ e,bT,bF,bF,.agg (sgCells s),.nilIface,bF,bF,U,uJ k0,.agg #[uJ h,iJ p],.agg #[uJ j,iJ q],iJ e,pX qw4.heap.size 6,iJ s.ms,iJ (stepTo s.ms 8),uJ (ckOf k0 h p j q e (stepTo s.ms 8)),pX qw4.heap.size 2,uJ s.sq,uJ ((s.sq+1) % 4294967296),.agg (sgCells (ansCk k0 h p j q e s))] ?_
    go_wp2_with (fail)
    exact bodyPost_ret (v:=.tuple #[.agg (sgCells (ansCk k0 h p j q e s)),.bool true]) (results_sg2 (t:=10) (u:=11) rfl _ rfl qB22) rfl ⟨by rw [hV.out,hearCk_yes (by rw [c1.out,c2.out];rfl)],G⟩
theorem implTake15 (k0 h p j q e:Int) (s:Sg) (room now:Int) (hf:IsInt s.fl) (w:World) (E:Laid0 w) :
  Calls Tryz.prog 12 #[.int .u32 k0,addrVal h p,addrVal j q,.int .i64 e,.agg (sgCells s),.int .i64 room,.int .i64 now] w fun f w'=>f=.returned (takV k0 h p j q e s room now)∧Since w w':=by
 have hE:=E.lt
 have hgo:=fun wx=>isGoingOn s hf wx
 obtain ⟨V,hV⟩:∃ V,Hid (V=takV k0 h p j q e s room now):=⟨_,rfl⟩
 rw [← hV.out]
 have G:=Since.refl w
 have hck:=fun wx=>implCheck k0 h p j q e (cok s) (cok_word s) wx
 generalize ckStep k0 h p j q e (cok s)=ks at hck
 unfold addrVal at *
 go_enter Tryz.func12,Tryz.ntmps12
 go_upto_region 0 with (fail)
 refine vR ?_
 refine vW (w.alloc (.cells #[uJ h,iJ p] 26)) (pX w.heap.size 0) ?_
 have qB2:=Blk.new w #[.int .u32 h,.int .i64 p] 26
 have qg3:=(Since.refl w).alloc (.cells #[.int .u32 h,.int .i64 p] 26)
 replace E:=E.since qg3
 replace G:=G.trans qg3
 generalize w.alloc (.cells #[.int .u32 h,.int .i64 p] 26)=qw1 at E G qB2 qg3 ⊢
 have qB2_l:=qB2.lt
 have qg3_s:=qg3.size
 refine vW (qw1.alloc (.cells #[uJ j,iJ q] 26)) (pX qw1.heap.size 0) ?_
 have qB5:=Blk.new qw1 #[.int .u32 j,.int .i64 q] 26
 have qg6:=(Since.refl qw1).alloc (.cells #[.int .u32 j,.int .i64 q] 26)
 replace qB2:=qB2.since qg6
 replace E:=E.since qg6
 replace G:=G.trans qg6
 generalize qw1.alloc (.cells #[.int .u32 j,.int .i64 q] 26)=qw4 at qB2 E G qB5 qg6 ⊢
 have qB5_l:=qB5.lt
 have qg6_s:=qg6.size
 refine vW (qw4.alloc (.cells (sgCells s) 41)) (pX qw4.heap.size 0) ?_
 have qB8:=Blk.new qw4 (sgCells s) 41
 have qg9:=(Since.refl qw4).alloc (.cells (sgCells s) 41)
 replace qB2:=qB2.since qg9
 replace qB5:=qB5.since qg9
 replace E:=E.since qg9
 replace G:=G.trans qg9
 generalize qw4.alloc (.cells (sgCells s) 41)=qw7 at qB2 qB5 E G qB8 qg9 ⊢
 have qB8_l:=qB8.lt
 have qg9_s:=qg9.size
 refine vW (qw7.alloc (.cells (cnCells cnZero) 39)) (pX qw7.heap.size 0) ?_
 have qB11:=Blk.new qw7 (cnCells cnZero) 39
 have qg12:=(Since.refl qw7).alloc (.cells (cnCells cnZero) 39)
 replace qB2:=qB2.since qg12
 replace qB5:=qB5.since qg12
 replace qB8:=qB8.since qg12
 replace E:=E.since qg12
 replace G:=G.trans qg12
 generalize qw7.alloc (.cells (cnCells cnZero) 39)=qw10 at qB2 qB5 qB8 E G qB11 qg12 ⊢
 have qB11_l:=qB11.lt
 have qg12_s:=qg12.size
 refine vV (bF) ?_
 refine vE #[uJ k0,.agg #[uJ h,iJ p],.agg #[uJ j,iJ q],iJ e,.agg (sgCells s),iJ room,iJ now,U,pX w.heap.size 0,pX qw1.heap.size 0,U,pX qw4.heap.size 0,U,U,pX qw7.heap.size 0,bF,U,U,U,U,U,U,U,U,U,U,U,U,U,U,U,U,U,U,U,U,U,U,U,U,U,U,U,U,U,U,U,U,U,U,U,U,U,U,U,U,U,U,U,U,U,U,U,U,U,U,U,U,U,U,U,U,U,U,U,U,U,U] ?_
 go_upto_region 1 with (fail)
 refine vR ?_
 refine vV (pX qw4.heap.size 3) ?_
 refine vD (uJ s.ak) (qB8.cell 3) ?_
 refine vV (uJ (cok s)) ?_
 refine vV (uJ (cok s)) ?_
 refine vE #[uJ k0,.agg #[uJ h,iJ p],.agg #[uJ j,iJ q],iJ e,.agg (sgCells s),iJ room,iJ now,U,pX w.heap.size 0,pX qw1.heap.size 0,U,pX qw4.heap.size 0,U,U,pX qw7.heap.size 0,bF,uJ (cok s),U,U,U,U,U,U,pX qw4.heap.size 3,uJ s.ak,uJ (cok s),U,U,U,U,U,U,U,U,U,U,U,U,U,U,U,U,U,U,U,U,U,U,U,U,U,U,U,U,U,U,U,U,U,U,U,U,U,U,U,U,U,U,U,U,U,U,U,U,U,U,U,U] ?_
 go_upto_region 2 with (fail)
 cases c4:ckKnown k0 h p j q e (cok s)
 ·rw [c4] at hck
  replace c4:Hid _:=c4
  refine vR ?_
  refine vV (uJ k0) ?_
  refine vB ad_big qB2 rfl ?_
  refine vB ad_big qB5 rfl ?_
  refine vV (iJ e) ?_
  refine vV (uJ (cok s)) ?_
  refine vK (hck _) ?_
  intro qw13 qg14
  replace qB2:=qB2.since qg14
  replace qB5:=qB5.since qg14
  replace qB8:=qB8.since qg14
  replace qB11:=qB11.since qg14
  replace E:=E.since qg14
  replace G:=G.trans qg14
  have qg14_s:=qg14.size
  refine vV (.tuple #[iJ ks,bF]) ?_
  refine vV (iJ ks) ?_
  refine vV (bF) ?_
  refine vV (iJ ks) ?_
  refine vV (bF) ?_
  refine vZ (fun Y=>#[Y 0,Y 1,Y 2,Y 3,Y 4,iJ room,iJ now,U,Y 8,Y 9,U,pX qw4.heap.size 0,U,U,pX qw7.heap.size 0,bF,uJ (cok s),iJ ks,bF,U,U,U,U,Y 23,Y 24,Y 25,.tuple #[iJ ks,bF],uJ k0,.agg #[uJ h,iJ p],.agg #[uJ j,iJ q],iJ e,uJ (cok s),.tuple #[iJ ks,bF],iJ ks,bF,U,U,U,U,U,U,U,U,U,U,U,U,U,U,U,U,U,U,U,U,U,U,U,U,U,U,U,U,U,U,U,U,U,U,U,U,U,U,U,U,U,U,U]) (fun Y=>?_)
  generalize (.tuple #[.int .i64 ks,.bool false]:Value)=qz15
  generalize (.agg #[.int .u32 h,.int .i64 p]:Value)=qz16
  generalize (.agg #[.int .u32 j,.int .i64 q]:Value)=qz17
  go_upto_region 3 with (fail)
  refine vR ?_
  refine vV (bF) ?_
  refine vV (bT) ?_
  refine vV (bT) ?_
  refine vS ?_
  refine vS ?_
  refine vS ?_
  refine vV (bT) ?_
  refine vZ (fun Y=>#[Y 0,Y 1,Y 2,Y 3,Y 4,iJ room,iJ now,U,Y 8,Y 9,U,pX qw4.heap.size 0,U,U,pX qw7.heap.size 0,bF,uJ (cok s),Y 17,Y 18,U,U,U,U,Y 23,Y 24,Y 25,Y 26,Y 27,Y 28,Y 29,Y 30,Y 31,Y 32,Y 33,Y 34,bF,bT,bT,U,U,U,bT,U,U,U,U,U,U,U,U,U,U,U,U,U,U,U,U,U,U,U,U,U,U,U,U,U,U,U,U,U,U,U,U,U,U,U,U]) (fun Y=>?_)
  go_upto_region 4 with (fail)
  refine vR ?_
  refine vV (.agg (cnCells cnZero)) ?_
  refine sB (cnCells cnZero) cn_big qB11 (cn_size _) (cn_size _) (cn_one _) ?_
  intro qw18 qt19 qB20
  clear qB11
  replace qB2:=qB2.touch qt19 (by omega)
  replace qB5:=qB5.touch qt19 (by omega)
  replace qB8:=qB8.touch qt19 (by omega)
  replace E:=E.touch qt19 (by omega)
  replace G:=since_touch G qt19 (by omega)
  have qt19_s:=qt19.size
  refine vV (bF) ?_
  refine vZ (fun Y=>#[Y 0,Y 1,Y 2,Y 3,Y 4,iJ room,iJ now,U,Y 8,Y 9,U,pX qw4.heap.size 0,U,U,pX qw7.heap.size 0,bF,uJ (cok s),Y 17,Y 18,U,U,U,U,Y 23,Y 24,Y 25,Y 26,Y 27,Y 28,Y 29,Y 30,Y 31,Y 32,Y 33,Y 34,Y 35,Y 36,Y 37,U,U,U,Y 41,.agg (cnCells cnZero),U,U,U,U,U,U,U,U,U,U,U,U,U,U,U,U,U,U,U,U,U,U,U,U,U,U,U,U,U,U,U,U,U,U,U]) (fun Y=>?_)
  go_wp2_with (fail)
  exact bodyPost_ret (v:=.tuple #[.agg (cnCells cnZero),.bool false]) (results_cn2 (t:=14) (u:=15) rfl _ rfl qB20) rfl ⟨by rw [hV.out,tak_no (by unfold takOk;rw [c4.out];simp)],G⟩
 ·rw [c4] at hck
  replace c4:Hid _:=c4
  cases c1:goesOn s
  ·rw [c1] at hgo
   replace c1:Hid _:=c1
   refine vR ?_
   refine vV (uJ k0) ?_
   refine vB ad_big qB2 rfl ?_
   refine vB ad_big qB5 rfl ?_
   refine vV (iJ e) ?_
   refine vV (uJ (cok s)) ?_
   refine vK (hck _) ?_
   intro qw13 qg14
   replace qB2:=qB2.since qg14
   replace qB5:=qB5.since qg14
   replace qB8:=qB8.since qg14
   replace qB11:=qB11.since qg14
   replace E:=E.since qg14
   replace G:=G.trans qg14
   have qg14_s:=qg14.size
   refine vV (.tuple #[iJ ks,bT]) ?_
   refine vV (iJ ks) ?_
   refine vV (bT) ?_
   refine vV (iJ ks) ?_
   refine vV (bT) ?_
   refine vZ (fun Y=>#[Y 0,Y 1,Y 2,Y 3,Y 4,iJ room,iJ now,U,Y 8,Y 9,U,pX qw4.heap.size 0,U,U,pX qw7.heap.size 0,bF,uJ (cok s),iJ ks,bT,U,U,U,U,Y 23,Y 24,Y 25,.tuple #[iJ ks,bT],uJ k0,.agg #[uJ h,iJ p],.agg #[uJ j,iJ q],iJ e,uJ (cok s),.tuple #[iJ ks,bT],iJ ks,bT,U,U,U,U,U,U,U,U,U,U,U,U,U,U,U,U,U,U,U,U,U,U,U,U,U,U,U,U,U,U,U,U,U,U,U,U,U,U,U,U,U,U,U]) (fun Y=>?_)
   generalize (.tuple #[.int .i64 ks,.bool true]:Value)=qz15
   generalize (.agg #[.int .u32 h,.int .i64 p]:Value)=qz16
   generalize (.agg #[.int .u32 j,.int .i64 q]:Value)=qz17
   go_upto_region 3 with (fail)
   refine vR ?_
   refine vV (bT) ?_
   refine vV (bF) ?_
   refine vV (bF) ?_
   refine vB seg_big qB8 rfl ?_
   refine vK (hgo _) ?_
   intro qw18 qg19
   replace qB2:=qB2.since qg19
   replace qB5:=qB5.since qg19
   replace qB8:=qB8.since qg19
   replace qB11:=qB11.since qg19
   replace E:=E.since qg19
   replace G:=G.trans qg19
   have qg19_s:=qg19.size
   refine vV (bT) ?_
   refine vV (bT) ?_
   refine vZ (fun Y=>#[Y 0,Y 1,Y 2,Y 3,Y 4,iJ room,iJ now,U,Y 8,Y 9,U,pX qw4.heap.size 0,U,U,pX qw7.heap.size 0,bF,uJ (cok s),Y 17,Y 18,U,U,U,U,Y 23,Y 24,Y 25,Y 26,Y 27,Y 28,Y 29,Y 30,Y 31,Y 32,Y 33,Y 34,bT,bF,bF,.agg (sgCells s),bF,bT,bT,U,U,U,U,U,U,U,U,U,U,U,U,U,U,U,U,U,U,U,U,U,U,U,U,U,U,U,U,U,U,U,U,U,U,U,U]) (fun Y=>?_)
   go_upto_region 4 with (fail)
   refine vR ?_
   refine vV (.agg (cnCells cnZero)) ?_
   refine sB (cnCells cnZero) cn_big qB11 (cn_size _) (cn_size _) (cn_one _) ?_
   intro qw20 qt21 qB22
   clear qB11
   replace qB2:=qB2.touch qt21 (by omega)
   replace qB5:=qB5.touch qt21 (by omega)
   replace qB8:=qB8.touch qt21 (by omega)
   replace E:=E.touch qt21 (by omega)
   replace G:=since_touch G qt21 (by omega)
   have qt21_s:=qt21.size
   refine vV (bF) ?_
   refine vZ (fun Y=>#[Y 0,Y 1,Y 2,Y 3,Y 4,iJ room,iJ now,U,Y 8,Y 9,U,pX qw4.heap.size 0,U,U,pX qw7.heap.size 0,bF,uJ (cok s),Y 17,Y 18,U,U,U,U,Y 23,Y 24,Y 25,Y 26,Y 27,Y 28,Y 29,Y 30,Y 31,Y 32,Y 33,Y 34,Y 35,Y 36,Y 37,Y 38,Y 39,Y 40,Y 41,.agg (cnCells cnZero),U,U,U,U,U,U,U,U,U,U,U,U,U,U,U,U,U,U,U,U,U,U,U,U,U,U,U,U,U,U,U,U,U,U,U]) (fun Y=>?_)
   go_wp2_with (fail)
   exact bodyPost_ret (v:=.tuple #[.agg (cnCells cnZero),.bool false]) (results_cn2 (t:=14) (u:=15) rfl _ rfl qB22) rfl ⟨by rw [hV.out,tak_no (by unfold takOk;rw [c1.out];rfl)],G⟩
  ·rw [c1] at hgo
   replace c1:Hid _:=c1
   have hh:=fun wx L=>implHear (askS s) (cok s) room now (cok_word s) (askS_word s) (by show (⟨#[]⟩:ByteArray).size≤1048576;decide) wx L
   unfold hearV cnVal sgVal at hh
   obtain ⟨C0,hC0⟩:∃ C,Hid (C=hearC (askS s) (cok s) room now):=⟨_,rfl⟩
   rw [← hC0.out] at hh
   generalize synSg C0 []=S0 at hh
   by_cases c5:hearOk (askS s) room now
   ·simp only [if_pos c5] at hh
    refine vR ?_
    refine vV (uJ k0) ?_
    refine vB ad_big qB2 rfl ?_
    refine vB ad_big qB5 rfl ?_
    refine vV (iJ e) ?_
    refine vV (uJ (cok s)) ?_
    refine vK (hck _) ?_
    intro qw13 qg14
    replace qB2:=qB2.since qg14
    replace qB5:=qB5.since qg14
    replace qB8:=qB8.since qg14
    replace qB11:=qB11.since qg14
    replace E:=E.since qg14
    replace G:=G.trans qg14
    have qg14_s:=qg14.size
    refine vV (.tuple #[iJ ks,bT]) ?_
    refine vV (iJ ks) ?_
    refine vV (bT) ?_
    refine vV (iJ ks) ?_
    refine vV (bT) ?_
    refine vZ (fun Y=>#[Y 0,Y 1,Y 2,Y 3,Y 4,iJ room,iJ now,U,Y 8,Y 9,U,pX qw4.heap.size 0,U,U,pX qw7.heap.size 0,bF,uJ (cok s),iJ ks,bT,U,U,U,U,Y 23,Y 24,Y 25,.tuple #[iJ ks,bT],uJ k0,.agg #[uJ h,iJ p],.agg #[uJ j,iJ q],iJ e,uJ (cok s),.tuple #[iJ ks,bT],iJ ks,bT,U,U,U,U,U,U,U,U,U,U,U,U,U,U,U,U,U,U,U,U,U,U,U,U,U,U,U,U,U,U,U,U,U,U,U,U,U,U,U,U,U,U,U]) (fun Y=>?_)
    generalize (.tuple #[.int .i64 ks,.bool true]:Value)=qz15
    generalize (.agg #[.int .u32 h,.int .i64 p]:Value)=qz16
    generalize (.agg #[.int .u32 j,.int .i64 q]:Value)=qz17
    go_upto_region 3 with (fail)
    refine vR ?_
    refine vV (bT) ?_
    refine vV (bF) ?_
    refine vV (bF) ?_
    refine vB seg_big qB8 rfl ?_
    refine vK (hgo _) ?_
    intro qw18 qg19
    replace qB2:=qB2.since qg19
    replace qB5:=qB5.since qg19
    replace qB8:=qB8.since qg19
    replace qB11:=qB11.since qg19
    replace E:=E.since qg19
    replace G:=G.trans qg19
    have qg19_s:=qg19.size
    refine vV (bF) ?_
    refine vV (bF) ?_
    refine vZ (fun Y=>#[Y 0,Y 1,Y 2,Y 3,Y 4,iJ room,iJ now,U,Y 8,Y 9,U,pX qw4.heap.size 0,U,U,pX qw7.heap.size 0,bF,uJ (cok s),Y 17,Y 18,U,U,U,U,Y 23,Y 24,Y 25,Y 26,Y 27,Y 28,Y 29,Y 30,Y 31,Y 32,Y 33,Y 34,bT,bF,bF,.agg (sgCells s),bT,bF,bF,U,U,U,U,U,U,U,U,U,U,U,U,U,U,U,U,U,U,U,U,U,U,U,U,U,U,U,U,U,U,U,U,U,U,U,U]) (fun Y=>?_)
    go_upto_region 5 with (fail)
    refine vR ?_
    refine vV (pX qw4.heap.size 2) ?_
    refine vD (uJ s.sq) (qB8.cell 2) ?_
    refine vV (uJ ((s.sq - 1) % 4294967296)) ?_
    refine vV (pX qw4.heap.size 5) ?_
    refine vD (iJ s.wn) (qB8.cell 5) ?_
    refine vV (.agg (sgCells (askS s))) ?_
    refine vW (qw18.alloc (.cells (sgCells sgZero) 41)) (pX qw18.heap.size 0) ?_
    have qB21:=Blk.new qw18 (sgCells sgZero) 41
    have qg22:=(Since.refl qw18).alloc (.cells (sgCells sgZero) 41)
    replace qB2:=qB2.since qg22
    replace qB5:=qB5.since qg22
    replace qB8:=qB8.since qg22
    replace qB11:=qB11.since qg22
    replace E:=E.since qg22
    replace G:=G.trans qg22
    generalize qw18.alloc (.cells (sgCells sgZero) 41)=qw20 at qB2 qB5 qB8 qB11 E G qB21 qg22 ⊢
    have qB21_l:=qB21.lt
    have qg22_s:=qg22.size
    refine sB (sgCells (askS s)) seg_big qB21 rfl rfl (seg_one _ _ _ _ _ _ _ _) ?_
    intro qw23 qt24 qB25
    clear qB21
    replace qB2:=qB2.touch qt24 (by omega)
    replace qB5:=qB5.touch qt24 (by omega)
    replace qB8:=qB8.touch qt24 (by omega)
    replace qB11:=qB11.touch qt24 (by omega)
    replace E:=E.touch qt24 (by omega)
    replace G:=since_touch G qt24 (by omega)
    have qt24_s:=qt24.size
    refine vZ (fun Y=>#[Y 0,Y 1,Y 2,Y 3,Y 4,iJ room,iJ now,U,Y 8,Y 9,U,pX qw4.heap.size 0,U,U,pX qw7.heap.size 0,bF,uJ (cok s),Y 17,Y 18,pX qw18.heap.size 0,U,U,U,Y 23,Y 24,Y 25,Y 26,Y 27,Y 28,Y 29,Y 30,Y 31,Y 32,Y 33,Y 34,Y 35,Y 36,Y 37,Y 38,Y 39,Y 40,Y 41,U,pX qw4.heap.size 2,uJ s.sq,uJ ((s.sq - 1) % 4294967296),pX qw4.heap.size 5,iJ s.wn,.agg (sgCells (askS s)),U,U,U,U,U,U,U,U,U,U,U,U,U,U,U,U,U,U,U,U,U,U,U,U,U,U,U,U,U]) (fun Y=>?_)
    go_upto_region 6 with (fail)
    refine vR ?_
    refine vB seg_big qB25 rfl ?_
    refine vV (uJ (cok s)) ?_
    refine vV (iJ room) ?_
    refine vV (iJ now) ?_
    refine vK (hh _ E) ?_
    intro qw26 qg27
    replace qB2:=qB2.since qg27
    replace qB5:=qB5.since qg27
    replace qB8:=qB8.since qg27
    replace qB11:=qB11.since qg27
    replace qB25:=qB25.since qg27
    replace E:=E.since qg27
    replace G:=G.trans qg27
    have qg27_s:=qg27.size
    refine vV (.tuple #[.agg (cnCells C0),.agg (sgCells S0),bT]) ?_
    refine vV (.agg (cnCells C0)) ?_
    refine vV (.agg (sgCells S0)) ?_
    refine vV (bT) ?_
    refine vW (qw26.alloc (.cells (cnCells cnZero) 39)) (pX qw26.heap.size 0) ?_
    have qB29:=Blk.new qw26 (cnCells cnZero) 39
    have qg30:=(Since.refl qw26).alloc (.cells (cnCells cnZero) 39)
    replace qB2:=qB2.since qg30
    replace qB5:=qB5.since qg30
    replace qB8:=qB8.since qg30
    replace qB11:=qB11.since qg30
    replace qB25:=qB25.since qg30
    replace E:=E.since qg30
    replace G:=G.trans qg30
    generalize qw26.alloc (.cells (cnCells cnZero) 39)=qw28 at qB2 qB5 qB8 qB11 qB25 E G qB29 qg30 ⊢
    have qB29_l:=qB29.lt
    have qg30_s:=qg30.size
    refine vW (qw28.alloc (.cells (sgCells sgZero) 41)) (pX qw28.heap.size 0) ?_
    have qB32:=Blk.new qw28 (sgCells sgZero) 41
    have qg33:=(Since.refl qw28).alloc (.cells (sgCells sgZero) 41)
    replace qB2:=qB2.since qg33
    replace qB5:=qB5.since qg33
    replace qB8:=qB8.since qg33
    replace qB11:=qB11.since qg33
    replace qB25:=qB25.since qg33
    replace qB29:=qB29.since qg33
    replace E:=E.since qg33
    replace G:=G.trans qg33
    generalize qw28.alloc (.cells (sgCells sgZero) 41)=qw31 at qB2 qB5 qB8 qB11 qB25 qB29 E G qB32 qg33 ⊢
    have qB32_l:=qB32.lt
    have qg33_s:=qg33.size
    refine sB (cnCells C0) cn_big qB29 (cn_size _) (cn_size _) (cn_one _) ?_
    intro qw34 qt35 qB36
    clear qB29
    replace qB2:=qB2.touch qt35 (by omega)
    replace qB5:=qB5.touch qt35 (by omega)
    replace qB8:=qB8.touch qt35 (by omega)
    replace qB11:=qB11.touch qt35 (by omega)
    replace qB25:=qB25.touch qt35 (by omega)
    replace qB32:=qB32.touch qt35 (by omega)
    replace E:=E.touch qt35 (by omega)
    replace G:=since_touch G qt35 (by omega)
    have qt35_s:=qt35.size
    refine sB (sgCells S0) seg_big qB32 rfl rfl (seg_one _ _ _ _ _ _ _ _) ?_
    intro qw37 qt38 qB39
    clear qB32
    replace qB2:=qB2.touch qt38 (by omega)
    replace qB5:=qB5.touch qt38 (by omega)
    replace qB8:=qB8.touch qt38 (by omega)
    replace qB11:=qB11.touch qt38 (by omega)
    replace qB25:=qB25.touch qt38 (by omega)
    replace qB36:=qB36.touch qt38 (by omega)
    replace E:=E.touch qt38 (by omega)
    replace G:=since_touch G qt38 (by omega)
    have qt38_s:=qt38.size
    refine vV (bT) ?_
    refine vZ (fun Y=>#[Y 0,Y 1,Y 2,Y 3,Y 4,Y 5,Y 6,U,Y 8,Y 9,U,pX qw4.heap.size 0,U,U,pX qw7.heap.size 0,bF,Y 16,Y 17,Y 18,Y 19,pX qw26.heap.size 0,pX qw28.heap.size 0,bT,Y 23,Y 24,Y 25,Y 26,Y 27,Y 28,Y 29,Y 30,Y 31,Y 32,Y 33,Y 34,Y 35,Y 36,Y 37,Y 38,Y 39,Y 40,Y 41,U,Y 43,Y 44,Y 45,Y 46,Y 47,Y 48,.tuple #[.agg (cnCells C0),.agg (sgCells S0),bT],.agg (sgCells (askS s)),uJ (cok s),iJ room,iJ now,.tuple #[.agg (cnCells C0),.agg (sgCells S0),bT],.agg (cnCells C0),.agg (sgCells S0),bT,U,U,U,U,U,U,U,U,U,U,U,U,U,U,U,U,U,U,U,U]) (fun Y=>?_)
    generalize (.tuple #[.agg (cnCells C0),.agg (sgCells S0),.bool true]:Value)=qz40
    go_upto_region 7 with (fail)
    refine vR ?_
    refine vV (bT) ?_
    refine vV (bF) ?_
    refine vZ (fun Y=>#[Y 0,Y 1,Y 2,Y 3,Y 4,Y 5,Y 6,U,Y 8,Y 9,U,pX qw4.heap.size 0,U,U,pX qw7.heap.size 0,bF,Y 16,Y 17,Y 18,Y 19,pX qw26.heap.size 0,Y 21,Y 22,Y 23,Y 24,Y 25,Y 26,Y 27,Y 28,Y 29,Y 30,Y 31,Y 32,Y 33,Y 34,Y 35,Y 36,Y 37,Y 38,Y 39,Y 40,Y 41,U,Y 43,Y 44,Y 45,Y 46,Y 47,Y 48,Y 49,Y 50,Y 51,Y 52,Y 53,Y 54,Y 55,Y 56,Y 57,bT,bF,U,U,U,U,U,U,U,U,U,U,U,U,U,U,U,U,U,U]) (fun Y=>?_)
    go_upto_region 9 with (fail)
    refine vR ?_
    refine vV (pX qw26.heap.size 0) ?_
    refine sC (cnCells {C0 with st:=3}) qB36 0 (.int .i64 3) (cn_size _) ?_
    intro qw41 qt42 qB43
    clear qB36
    replace qB2:=qB2.touch qt42 (by omega)
    replace qB5:=qB5.touch qt42 (by omega)
    replace qB8:=qB8.touch qt42 (by omega)
    replace qB11:=qB11.touch qt42 (by omega)
    replace qB25:=qB25.touch qt42 (by omega)
    replace qB39:=qB39.touch qt42 (by omega)
    replace E:=E.touch qt42 (by omega)
    replace G:=since_touch G qt42 (by omega)
    have qt42_s:=qt42.size
    refine vV (pX qw26.heap.size 31) ?_
    refine sC (cnCells {C0 with st:=3,agn:=0}) qB43 31 (.int .i64 0) (cn_size _) ?_
    intro qw44 qt45 qB46
    clear qB43
    replace qB2:=qB2.touch qt45 (by omega)
    replace qB5:=qB5.touch qt45 (by omega)
    replace qB8:=qB8.touch qt45 (by omega)
    replace qB11:=qB11.touch qt45 (by omega)
    replace qB25:=qB25.touch qt45 (by omega)
    replace qB39:=qB39.touch qt45 (by omega)
    replace E:=E.touch qt45 (by omega)
    replace G:=since_touch G qt45 (by omega)
    have qt45_s:=qt45.size
    refine vV (pX qw26.heap.size 28) ?_
    refine sC (cnCells {C0 with st:=3,agn:=0,tmg:=false}) qB46 28 (.bool false) (cn_size _) ?_
    intro qw47 qt48 qB49
    clear qB46
    replace qB2:=qB2.touch qt48 (by omega)
    replace qB5:=qB5.touch qt48 (by omega)
    replace qB8:=qB8.touch qt48 (by omega)
    replace qB11:=qB11.touch qt48 (by omega)
    replace qB25:=qB25.touch qt48 (by omega)
    replace qB39:=qB39.touch qt48 (by omega)
    replace E:=E.touch qt48 (by omega)
    replace G:=since_touch G qt48 (by omega)
    have qt48_s:=qt48.size
    refine vZ (fun Y=>#[Y 0,Y 1,Y 2,Y 3,Y 4,Y 5,Y 6,U,Y 8,Y 9,U,pX qw4.heap.size 0,U,U,pX qw7.heap.size 0,bF,Y 16,Y 17,Y 18,Y 19,pX qw26.heap.size 0,Y 21,Y 22,Y 23,Y 24,Y 25,Y 26,Y 27,Y 28,Y 29,Y 30,Y 31,Y 32,Y 33,Y 34,Y 35,Y 36,Y 37,Y 38,Y 39,Y 40,Y 41,U,Y 43,Y 44,Y 45,Y 46,Y 47,Y 48,Y 49,Y 50,Y 51,Y 52,Y 53,Y 54,Y 55,Y 56,Y 57,Y 58,Y 59,U,pX qw26.heap.size 0,pX qw26.heap.size 31,pX qw26.heap.size 28,U,U,U,U,U,U,U,U,U,U,U,U,U,U]) (fun Y=>?_)
    go_upto_region 10 with (fail)
    refine wp_region_low (fun x y=>x.heap.size≤y.heap.size) (fun i x v=>match i with
      | 0=>v=.pointer (some ⟨qw4.heap.size,3,none⟩)
      | 1=>v=.int .u32 s.ak
      | 2=>v=.pointer (some ⟨qw4.heap.size,3,none⟩)
      | 3=>v=.int .u32 s.ak
      | 4=>v=.pointer (some ⟨qw4.heap.size,3,none⟩)
      | 5=>v=.int .u32 s.ak
      | 6=>v=.pointer (some ⟨qw4.heap.size,3,none⟩)
      | 7=>v=.int .u32 s.ak
      | 8=>v=.pointer (some ⟨qw26.heap.size,2,none⟩)
      | 10=>v=.pointer (some ⟨qw26.heap.size,8,none⟩)
      | 11=>v=.pointer (some ⟨qw26.heap.size,8,none⟩)
      | 13=>v=.pointer (some ⟨qw26.heap.size,3,none⟩)
      | 15=>v=.pointer (some ⟨qw26.heap.size,4,none⟩)
      | _=>True) (fun f vals x=>Blk w.heap.size x #[uJ h,iJ p]∧Blk qw1.heap.size x #[uJ j,iJ q]∧Blk qw4.heap.size x (sgCells s)∧Blk qw7.heap.size x (cnCells cnZero)∧Blk qw18.heap.size x (sgCells (askS s))∧Blk qw28.heap.size x (sgCells S0)∧Laid0 x∧qw47.heap.size≤x.heap.size∧Since w x∧Blk qw26.heap.size x (cnCells (bag ({C0 with st:=3,agn:=0,tmg:=false}) s.ak (f 9) (f 12) (f 14) (f 16)))) (fun v=>{tmps:=#[Y 0,Y 1,Y 2,Y 3,Y 4,Y 5,Y 6,U,Y 8,Y 9,U,pX qw4.heap.size 0,U,U,pX qw7.heap.size 0,bF,Y 16,Y 17,Y 18,Y 19,pX qw26.heap.size 0,Y 21,Y 22,Y 23,Y 24,Y 25,Y 26,Y 27,Y 28,Y 29,Y 30,Y 31,Y 32,Y 33,Y 34,Y 35,Y 36,Y 37,Y 38,Y 39,Y 40,Y 41,U,Y 43,Y 44,Y 45,Y 46,Y 47,Y 48,Y 49,Y 50,Y 51,Y 52,Y 53,Y 54,Y 55,Y 56,Y 57,Y 58,Y 59,U,pX qw26.heap.size 0,pX qw26.heap.size 31,pX qw26.heap.size 28,v 0,v 1,v 2,v 3,v 4,v 5,v 6,v 7,v 8,v 10,v 11,v 13,v 15,U],defers:=[]}) (by kernel_rfl) (by kernel_rfl) ?_ ?_ (fun vals=>by kernel_rfl) ?_ ?_
    case refine_1=>
     intro j x y v hl hv
     match j,hv with
     | 0,hv|1,hv|2,hv|3,hv|4,hv|5,hv|6,hv|7,hv|8,hv|10,hv|11,hv|13,hv|15,hv=>exact hv
     | 9,hv|12,hv|14,hv|16,hv=>trivial
     | n+17,_=>trivial
    case refine_2=>
     intro f vals hf
     refine ⟨qB2.since ((Since.refl _).drew),qB5.since ((Since.refl _).drew),qB8.since ((Since.refl _).drew),qB11.since ((Since.refl _).drew),qB25.since ((Since.refl _).drew),qB39.since ((Since.refl _).drew),E.since ((Since.refl _).drew),((Since.refl _).drew).size,G.trans ((Since.refl _).drew),by rw [hf,hf,hf,hf];exact qB49.since ((Since.refl _).drew)⟩
    case refine_3=>
     repeat (first|exact eachLow_nil|refine eachLow_cons ?_ ?_)
     all_goals intro f vals x hf hr hK
     all_goals obtain ⟨k0,k1,k2,k3,k4,k5,k6,k7,k8,k9⟩:=hK
     ·skip
      have e7:vals 7=.int .u32 s.ak:=(hr ⟨7,.data⟩ (by simp) rfl).2
      have e15:vals 15=.pointer (some ⟨qw26.heap.size,4,none⟩):=(hr ⟨15,.data⟩ (by simp) rfl).2
      have B0:Blk qw26.heap.size x (cnCells (bag ({C0 with st:=3,agn:=0,tmg:=false}) s.ak (f 9) (f 12) (f 14) false)):=by have:=k9;rw [hf] at this;exact this
      refine does_cellT (cs':=cnCells (bag ({C0 with st:=3,agn:=0,tmg:=false}) s.ak (f 9) (f 12) (f 14) true)) B0 _ _ _ rfl 4 e15 (.int .u32 s.ak) e7 rfl (by kernel_rfl) (by rw [cn_size];decide) rfl ?_
      intro z t B
      exact ⟨t.size,⟨k0.touch t (by omega),k1.touch t (by omega),k2.touch t (by omega),k3.touch t (by omega),k4.touch t (by omega),k5.touch t (by omega),k6.touch t (by omega),Nat.le_trans k7 t.size,since_touch k8 t (by omega),B⟩,trivial⟩
     ·skip
      exact does_valT (.pointer (some ⟨qw26.heap.size,4,none⟩)) x (by kernel_rfl) ⟨Nat.le_refl _,⟨k0,k1,k2,k3,k4,k5,k6,k7,k8,k9⟩,rfl⟩
     ·skip
      have e5:vals 5=.int .u32 s.ak:=(hr ⟨5,.data⟩ (by simp) rfl).2
      have e13:vals 13=.pointer (some ⟨qw26.heap.size,3,none⟩):=(hr ⟨13,.data⟩ (by simp) rfl).2
      have B0:Blk qw26.heap.size x (cnCells (bag ({C0 with st:=3,agn:=0,tmg:=false}) s.ak (f 9) (f 12) false (f 16))):=by have:=k9;rw [hf] at this;exact this
      refine does_cellT (cs':=cnCells (bag ({C0 with st:=3,agn:=0,tmg:=false}) s.ak (f 9) (f 12) true (f 16))) B0 _ _ _ rfl 3 e13 (.int .u32 s.ak) e5 rfl (by kernel_rfl) (by rw [cn_size];decide) rfl ?_
      intro z t B
      exact ⟨t.size,⟨k0.touch t (by omega),k1.touch t (by omega),k2.touch t (by omega),k3.touch t (by omega),k4.touch t (by omega),k5.touch t (by omega),k6.touch t (by omega),Nat.le_trans k7 t.size,since_touch k8 t (by omega),B⟩,trivial⟩
     ·skip
      exact does_valT (.pointer (some ⟨qw26.heap.size,3,none⟩)) x (by kernel_rfl) ⟨Nat.le_refl _,⟨k0,k1,k2,k3,k4,k5,k6,k7,k8,k9⟩,rfl⟩
     ·skip
      have e3:vals 3=.int .u32 s.ak:=(hr ⟨3,.data⟩ (by simp) rfl).2
      have e11:vals 11=.pointer (some ⟨qw26.heap.size,8,none⟩):=(hr ⟨11,.data⟩ (by simp) rfl).2
      have B0:Blk qw26.heap.size x (cnCells (bag ({C0 with st:=3,agn:=0,tmg:=false}) s.ak (f 9) false (f 14) (f 16))):=by have:=k9;rw [hf] at this;exact this
      refine does_cellT (cs':=cnCells (bag ({C0 with st:=3,agn:=0,tmg:=false}) s.ak (f 9) true (f 14) (f 16))) B0 _ _ _ rfl 8 e11 (.int .u32 s.ak) e3 rfl (by kernel_rfl) (by rw [cn_size];decide) rfl ?_
      intro z t B
      exact ⟨t.size,⟨k0.touch t (by omega),k1.touch t (by omega),k2.touch t (by omega),k3.touch t (by omega),k4.touch t (by omega),k5.touch t (by omega),k6.touch t (by omega),Nat.le_trans k7 t.size,since_touch k8 t (by omega),B⟩,trivial⟩
     ·skip
      have e10:vals 10=.pointer (some ⟨qw26.heap.size,8,none⟩):=(hr ⟨10,.data⟩ (by simp) rfl).2
      exact does_valT (.pointer (some ⟨qw26.heap.size,8,none⟩)) x (by simp only [e10];kernel_rfl) ⟨Nat.le_refl _,⟨k0,k1,k2,k3,k4,k5,k6,k7,k8,k9⟩,rfl⟩
     ·skip
      exact does_valT (.pointer (some ⟨qw26.heap.size,8,none⟩)) x (by kernel_rfl) ⟨Nat.le_refl _,⟨k0,k1,k2,k3,k4,k5,k6,k7,k8,k9⟩,rfl⟩
     ·skip
      have e1:vals 1=.int .u32 s.ak:=(hr ⟨1,.data⟩ (by simp) rfl).2
      have e8:vals 8=.pointer (some ⟨qw26.heap.size,2,none⟩):=(hr ⟨8,.data⟩ (by simp) rfl).2
      have B0:Blk qw26.heap.size x (cnCells (bag ({C0 with st:=3,agn:=0,tmg:=false}) s.ak false (f 12) (f 14) (f 16))):=by have:=k9;rw [hf] at this;exact this
      refine does_cellT (cs':=cnCells (bag ({C0 with st:=3,agn:=0,tmg:=false}) s.ak true (f 12) (f 14) (f 16))) B0 _ _ _ rfl 2 e8 (.int .u32 s.ak) e1 rfl (by kernel_rfl) (by rw [cn_size];decide) rfl ?_
      intro z t B
      exact ⟨t.size,⟨k0.touch t (by omega),k1.touch t (by omega),k2.touch t (by omega),k3.touch t (by omega),k4.touch t (by omega),k5.touch t (by omega),k6.touch t (by omega),Nat.le_trans k7 t.size,since_touch k8 t (by omega),B⟩,trivial⟩
     ·skip
      exact does_valT (.pointer (some ⟨qw26.heap.size,2,none⟩)) x (by kernel_rfl) ⟨Nat.le_refl _,⟨k0,k1,k2,k3,k4,k5,k6,k7,k8,k9⟩,rfl⟩
     ·skip
      have e6:vals 6=.pointer (some ⟨qw4.heap.size,3,none⟩):=(hr ⟨6,.data⟩ (by simp) rfl).2
      have fl:x.cell? ⟨qw4.heap.size,3,none⟩=some (.int .u32 s.ak):=k2.cell 3
      simp [does,doesUpon,go_sem,e6,fl]
      exact ⟨k0,k1,k2,k3,k4,k5,k6,k7,k8,k9⟩
     ·skip
      exact does_valT (.pointer (some ⟨qw4.heap.size,3,none⟩)) x (by kernel_rfl) ⟨Nat.le_refl _,⟨k0,k1,k2,k3,k4,k5,k6,k7,k8,k9⟩,rfl⟩
     ·skip
      have e4:vals 4=.pointer (some ⟨qw4.heap.size,3,none⟩):=(hr ⟨4,.data⟩ (by simp) rfl).2
      have fl:x.cell? ⟨qw4.heap.size,3,none⟩=some (.int .u32 s.ak):=k2.cell 3
      simp [does,doesUpon,go_sem,e4,fl]
      exact ⟨k0,k1,k2,k3,k4,k5,k6,k7,k8,k9⟩
     ·skip
      exact does_valT (.pointer (some ⟨qw4.heap.size,3,none⟩)) x (by kernel_rfl) ⟨Nat.le_refl _,⟨k0,k1,k2,k3,k4,k5,k6,k7,k8,k9⟩,rfl⟩
     ·skip
      have e2:vals 2=.pointer (some ⟨qw4.heap.size,3,none⟩):=(hr ⟨2,.data⟩ (by simp) rfl).2
      have fl:x.cell? ⟨qw4.heap.size,3,none⟩=some (.int .u32 s.ak):=k2.cell 3
      simp [does,doesUpon,go_sem,e2,fl]
      exact ⟨k0,k1,k2,k3,k4,k5,k6,k7,k8,k9⟩
     ·skip
      exact does_valT (.pointer (some ⟨qw4.heap.size,3,none⟩)) x (by kernel_rfl) ⟨Nat.le_refl _,⟨k0,k1,k2,k3,k4,k5,k6,k7,k8,k9⟩,rfl⟩
     ·skip
      have e0:vals 0=.pointer (some ⟨qw4.heap.size,3,none⟩):=(hr ⟨0,.data⟩ (by simp) rfl).2
      have fl:x.cell? ⟨qw4.heap.size,3,none⟩=some (.int .u32 s.ak):=k2.cell 3
      simp [does,doesUpon,go_sem,e0,fl]
      exact ⟨k0,k1,k2,k3,k4,k5,k6,k7,k8,k9⟩
     ·skip
      exact does_valT (.pointer (some ⟨qw4.heap.size,3,none⟩)) x (by kernel_rfl) ⟨Nat.le_refl _,⟨k0,k1,k2,k3,k4,k5,k6,k7,k8,k9⟩,rfl⟩
    intro f qv51 qw50 hK hf hv
    obtain ⟨k0,k1,k2,k3,k4,k5,k6,k7,k8,k9⟩:=hK
    rw [hf 9 (by decide),hf 12 (by decide),hf 14 (by decide),hf 16 (by decide)] at k9
    clear qB2 qB5 qB8 qB11 qB25 qB49 qB39 E G
    have hv0:qv51 0=_:=hv 0 (by decide)
    have hv1:qv51 1=_:=hv 1 (by decide)
    have hv2:qv51 2=_:=hv 2 (by decide)
    have hv3:qv51 3=_:=hv 3 (by decide)
    have hv4:qv51 4=_:=hv 4 (by decide)
    have hv5:qv51 5=_:=hv 5 (by decide)
    have hv6:qv51 6=_:=hv 6 (by decide)
    have hv7:qv51 7=_:=hv 7 (by decide)
    have hv8:qv51 8=_:=hv 8 (by decide)
    have hv10:qv51 10=_:=hv 10 (by decide)
    have hv11:qv51 11=_:=hv 11 (by decide)
    have hv13:qv51 13=_:=hv 13 (by decide)
    have hv15:qv51 15=_:=hv 15 (by decide)
    clear hv hf
    simp only [hv0,hv1,hv2,hv3,hv4,hv5,hv6,hv7,hv8,hv10,hv11,hv13,hv15]
    clear hv0 hv1 hv2 hv3 hv4 hv5 hv6 hv7 hv8 hv10 hv11 hv13 hv15
    have qB2:=k0
    clear k0
    have qB5:=k1
    clear k1
    have qB8:=k2
    clear k2
    have qB11:=k3
    clear k3
    have qB25:=k4
    clear k4
    have qB39:=k5
    clear k5
    have E:=k6
    have G:=k8
    have qw50_l:=k7
    have qB52:Blk qw26.heap.size qw50 (cnCells (bag ({C0 with st:=3,agn:=0,tmg:=false}) s.ak true true true true)):=k9
    clear k6 k7 k8 k9
    go_upto_region 11 with (fail)
    refine vR ?_
    refine vB cn_big qB52 (cn_size _) ?_
    refine sB (cnCells (bag ({C0 with st:=3,agn:=0,tmg:=false}) s.ak true true true true)) cn_big qB11 (cn_size _) (cn_size _) (cn_one _) ?_
    intro qw53 qt54 qB55
    clear qB11
    replace qB2:=qB2.touch qt54 (by omega)
    replace qB5:=qB5.touch qt54 (by omega)
    replace qB8:=qB8.touch qt54 (by omega)
    replace qB25:=qB25.touch qt54 (by omega)
    replace qB52:=qB52.touch qt54 (by omega)
    replace qB39:=qB39.touch qt54 (by omega)
    replace E:=E.touch qt54 (by omega)
    replace G:=since_touch G qt54 (by omega)
    have qt54_s:=qt54.size
    refine vV (bT) ?_
    refine vZ (fun Y=>#[Y 0,Y 1,Y 2,Y 3,Y 4,Y 5,Y 6,U,Y 8,Y 9,U,Y 11,U,U,pX qw7.heap.size 0,bT,Y 16,Y 17,Y 18,Y 19,Y 20,Y 21,Y 22,Y 23,Y 24,Y 25,Y 26,Y 27,Y 28,Y 29,Y 30,Y 31,Y 32,Y 33,Y 34,Y 35,Y 36,Y 37,Y 38,Y 39,Y 40,Y 41,U,Y 43,Y 44,Y 45,Y 46,Y 47,Y 48,Y 49,Y 50,Y 51,Y 52,Y 53,Y 54,Y 55,Y 56,Y 57,Y 58,Y 59,U,Y 61,Y 62,Y 63,Y 64,Y 65,Y 66,Y 67,Y 68,Y 69,Y 70,Y 71,Y 72,Y 73,Y 74,Y 75,Y 76,.agg (cnCells (bag ({C0 with st:=3,agn:=0,tmg:=false}) s.ak true true true true))]) (fun Y=>?_)
    generalize (.agg (cnCells (bag ({C0 with st:=3,agn:=0,tmg:=false}) s.ak true true true true)):Value)=qz56
    go_wp2_with (fail)
    exact bodyPost_ret (v:=.tuple #[.agg (cnCells (bag ({C0 with st:=3,agn:=0,tmg:=false}) s.ak true true true true)),.bool true]) (results_cn2 (t:=14) (u:=15) rfl _ rfl qB55) rfl ⟨by rw [hV.out,tak_yes (by unfold takOk;rw [c1.out,c4.out,decide_eq_true c5];rfl),takC,← hC0.out];rfl,G⟩
   ·simp only [if_neg c5] at hh
    refine vR ?_
    refine vV (uJ k0) ?_
    refine vB ad_big qB2 rfl ?_
    refine vB ad_big qB5 rfl ?_
    refine vV (iJ e) ?_
    refine vV (uJ (cok s)) ?_
    refine vK (hck _) ?_
    intro qw13 qg14
    replace qB2:=qB2.since qg14
    replace qB5:=qB5.since qg14
    replace qB8:=qB8.since qg14
    replace qB11:=qB11.since qg14
    replace E:=E.since qg14
    replace G:=G.trans qg14
    have qg14_s:=qg14.size
    refine vV (.tuple #[iJ ks,bT]) ?_
    refine vV (iJ ks) ?_
    refine vV (bT) ?_
    refine vV (iJ ks) ?_
    refine vV (bT) ?_
    refine vZ (fun Y=>#[Y 0,Y 1,Y 2,Y 3,Y 4,iJ room,iJ now,U,Y 8,Y 9,U,pX qw4.heap.size 0,U,U,pX qw7.heap.size 0,bF,uJ (cok s),iJ ks,bT,U,U,U,U,Y 23,Y 24,Y 25,.tuple #[iJ ks,bT],uJ k0,.agg #[uJ h,iJ p],.agg #[uJ j,iJ q],iJ e,uJ (cok s),.tuple #[iJ ks,bT],iJ ks,bT,U,U,U,U,U,U,U,U,U,U,U,U,U,U,U,U,U,U,U,U,U,U,U,U,U,U,U,U,U,U,U,U,U,U,U,U,U,U,U,U,U,U,U]) (fun Y=>?_)
    generalize (.tuple #[.int .i64 ks,.bool true]:Value)=qz15
    generalize (.agg #[.int .u32 h,.int .i64 p]:Value)=qz16
    generalize (.agg #[.int .u32 j,.int .i64 q]:Value)=qz17
    go_upto_region 3 with (fail)
    refine vR ?_
    refine vV (bT) ?_
    refine vV (bF) ?_
    refine vV (bF) ?_
    refine vB seg_big qB8 rfl ?_
    refine vK (hgo _) ?_
    intro qw18 qg19
    replace qB2:=qB2.since qg19
    replace qB5:=qB5.since qg19
    replace qB8:=qB8.since qg19
    replace qB11:=qB11.since qg19
    replace E:=E.since qg19
    replace G:=G.trans qg19
    have qg19_s:=qg19.size
    refine vV (bF) ?_
    refine vV (bF) ?_
    refine vZ (fun Y=>#[Y 0,Y 1,Y 2,Y 3,Y 4,iJ room,iJ now,U,Y 8,Y 9,U,pX qw4.heap.size 0,U,U,pX qw7.heap.size 0,bF,uJ (cok s),Y 17,Y 18,U,U,U,U,Y 23,Y 24,Y 25,Y 26,Y 27,Y 28,Y 29,Y 30,Y 31,Y 32,Y 33,Y 34,bT,bF,bF,.agg (sgCells s),bT,bF,bF,U,U,U,U,U,U,U,U,U,U,U,U,U,U,U,U,U,U,U,U,U,U,U,U,U,U,U,U,U,U,U,U,U,U,U,U]) (fun Y=>?_)
    go_upto_region 5 with (fail)
    refine vR ?_
    refine vV (pX qw4.heap.size 2) ?_
    refine vD (uJ s.sq) (qB8.cell 2) ?_
    refine vV (uJ ((s.sq - 1) % 4294967296)) ?_
    refine vV (pX qw4.heap.size 5) ?_
    refine vD (iJ s.wn) (qB8.cell 5) ?_
    refine vV (.agg (sgCells (askS s))) ?_
    refine vW (qw18.alloc (.cells (sgCells sgZero) 41)) (pX qw18.heap.size 0) ?_
    have qB21:=Blk.new qw18 (sgCells sgZero) 41
    have qg22:=(Since.refl qw18).alloc (.cells (sgCells sgZero) 41)
    replace qB2:=qB2.since qg22
    replace qB5:=qB5.since qg22
    replace qB8:=qB8.since qg22
    replace qB11:=qB11.since qg22
    replace E:=E.since qg22
    replace G:=G.trans qg22
    generalize qw18.alloc (.cells (sgCells sgZero) 41)=qw20 at qB2 qB5 qB8 qB11 E G qB21 qg22 ⊢
    have qB21_l:=qB21.lt
    have qg22_s:=qg22.size
    refine sB (sgCells (askS s)) seg_big qB21 rfl rfl (seg_one _ _ _ _ _ _ _ _) ?_
    intro qw23 qt24 qB25
    clear qB21
    replace qB2:=qB2.touch qt24 (by omega)
    replace qB5:=qB5.touch qt24 (by omega)
    replace qB8:=qB8.touch qt24 (by omega)
    replace qB11:=qB11.touch qt24 (by omega)
    replace E:=E.touch qt24 (by omega)
    replace G:=since_touch G qt24 (by omega)
    have qt24_s:=qt24.size
    refine vZ (fun Y=>#[Y 0,Y 1,Y 2,Y 3,Y 4,iJ room,iJ now,U,Y 8,Y 9,U,pX qw4.heap.size 0,U,U,pX qw7.heap.size 0,bF,uJ (cok s),Y 17,Y 18,pX qw18.heap.size 0,U,U,U,Y 23,Y 24,Y 25,Y 26,Y 27,Y 28,Y 29,Y 30,Y 31,Y 32,Y 33,Y 34,Y 35,Y 36,Y 37,Y 38,Y 39,Y 40,Y 41,U,pX qw4.heap.size 2,uJ s.sq,uJ ((s.sq - 1) % 4294967296),pX qw4.heap.size 5,iJ s.wn,.agg (sgCells (askS s)),U,U,U,U,U,U,U,U,U,U,U,U,U,U,U,U,U,U,U,U,U,U,U,U,U,U,U,U,U]) (fun Y=>?_)
    go_upto_region 6 with (fail)
    refine vR ?_
    refine vB seg_big qB25 rfl ?_
    refine vV (uJ (cok s)) ?_
    refine vV (iJ room) ?_
    refine vV (iJ now) ?_
    refine vK (hh _ E) ?_
    intro qw26 qg27
    replace qB2:=qB2.since qg27
    replace qB5:=qB5.since qg27
    replace qB8:=qB8.since qg27
    replace qB11:=qB11.since qg27
    replace qB25:=qB25.since qg27
    replace E:=E.since qg27
    replace G:=G.trans qg27
    have qg27_s:=qg27.size
    refine vV (.tuple #[.agg (cnCells cnZero),.agg (sgCells sgZero),bF]) ?_
    refine vV (.agg (cnCells cnZero)) ?_
    refine vV (.agg (sgCells sgZero)) ?_
    refine vV (bF) ?_
    refine vW (qw26.alloc (.cells (cnCells cnZero) 39)) (pX qw26.heap.size 0) ?_
    have qB29:=Blk.new qw26 (cnCells cnZero) 39
    have qg30:=(Since.refl qw26).alloc (.cells (cnCells cnZero) 39)
    replace qB2:=qB2.since qg30
    replace qB5:=qB5.since qg30
    replace qB8:=qB8.since qg30
    replace qB11:=qB11.since qg30
    replace qB25:=qB25.since qg30
    replace E:=E.since qg30
    replace G:=G.trans qg30
    generalize qw26.alloc (.cells (cnCells cnZero) 39)=qw28 at qB2 qB5 qB8 qB11 qB25 E G qB29 qg30 ⊢
    have qB29_l:=qB29.lt
    have qg30_s:=qg30.size
    refine vW (qw28.alloc (.cells (sgCells sgZero) 41)) (pX qw28.heap.size 0) ?_
    have qB32:=Blk.new qw28 (sgCells sgZero) 41
    have qg33:=(Since.refl qw28).alloc (.cells (sgCells sgZero) 41)
    replace qB2:=qB2.since qg33
    replace qB5:=qB5.since qg33
    replace qB8:=qB8.since qg33
    replace qB11:=qB11.since qg33
    replace qB25:=qB25.since qg33
    replace qB29:=qB29.since qg33
    replace E:=E.since qg33
    replace G:=G.trans qg33
    generalize qw28.alloc (.cells (sgCells sgZero) 41)=qw31 at qB2 qB5 qB8 qB11 qB25 qB29 E G qB32 qg33 ⊢
    have qB32_l:=qB32.lt
    have qg33_s:=qg33.size
    refine sB (cnCells cnZero) cn_big qB29 (cn_size _) (cn_size _) (cn_one _) ?_
    intro qw34 qt35 qB36
    clear qB29
    replace qB2:=qB2.touch qt35 (by omega)
    replace qB5:=qB5.touch qt35 (by omega)
    replace qB8:=qB8.touch qt35 (by omega)
    replace qB11:=qB11.touch qt35 (by omega)
    replace qB25:=qB25.touch qt35 (by omega)
    replace qB32:=qB32.touch qt35 (by omega)
    replace E:=E.touch qt35 (by omega)
    replace G:=since_touch G qt35 (by omega)
    have qt35_s:=qt35.size
    refine sB (sgCells sgZero) seg_big qB32 rfl rfl (seg_one _ _ _ _ _ _ _ _) ?_
    intro qw37 qt38 qB39
    clear qB32
    replace qB2:=qB2.touch qt38 (by omega)
    replace qB5:=qB5.touch qt38 (by omega)
    replace qB8:=qB8.touch qt38 (by omega)
    replace qB11:=qB11.touch qt38 (by omega)
    replace qB25:=qB25.touch qt38 (by omega)
    replace qB36:=qB36.touch qt38 (by omega)
    replace E:=E.touch qt38 (by omega)
    replace G:=since_touch G qt38 (by omega)
    have qt38_s:=qt38.size
    refine vV (bF) ?_
    refine vZ (fun Y=>#[Y 0,Y 1,Y 2,Y 3,Y 4,Y 5,Y 6,U,Y 8,Y 9,U,pX qw4.heap.size 0,U,U,pX qw7.heap.size 0,bF,Y 16,Y 17,Y 18,Y 19,pX qw26.heap.size 0,pX qw28.heap.size 0,bF,Y 23,Y 24,Y 25,Y 26,Y 27,Y 28,Y 29,Y 30,Y 31,Y 32,Y 33,Y 34,Y 35,Y 36,Y 37,Y 38,Y 39,Y 40,Y 41,U,Y 43,Y 44,Y 45,Y 46,Y 47,Y 48,.tuple #[.agg (cnCells cnZero),.agg (sgCells sgZero),bF],.agg (sgCells (askS s)),uJ (cok s),iJ room,iJ now,.tuple #[.agg (cnCells cnZero),.agg (sgCells sgZero),bF],.agg (cnCells cnZero),.agg (sgCells sgZero),bF,U,U,U,U,U,U,U,U,U,U,U,U,U,U,U,U,U,U,U,U]) (fun Y=>?_)
    generalize (.tuple #[.agg (cnCells cnZero),.agg (sgCells sgZero),.bool false]:Value)=qz40
    go_upto_region 7 with (fail)
    refine vR ?_
    refine vV (bF) ?_
    refine vV (bT) ?_
    refine vZ (fun Y=>#[Y 0,Y 1,Y 2,Y 3,Y 4,Y 5,Y 6,U,Y 8,Y 9,U,pX qw4.heap.size 0,U,U,pX qw7.heap.size 0,bF,Y 16,Y 17,Y 18,Y 19,pX qw26.heap.size 0,Y 21,Y 22,Y 23,Y 24,Y 25,Y 26,Y 27,Y 28,Y 29,Y 30,Y 31,Y 32,Y 33,Y 34,Y 35,Y 36,Y 37,Y 38,Y 39,Y 40,Y 41,U,Y 43,Y 44,Y 45,Y 46,Y 47,Y 48,Y 49,Y 50,Y 51,Y 52,Y 53,Y 54,Y 55,Y 56,Y 57,bF,bT,U,U,U,U,U,U,U,U,U,U,U,U,U,U,U,U,U,U]) (fun Y=>?_)
    go_upto_region 8 with (fail)
    refine vR ?_
    refine vV (.agg (cnCells cnZero)) ?_
    refine sB (cnCells cnZero) cn_big qB11 (cn_size _) (cn_size _) (cn_one _) ?_
    intro qw41 qt42 qB43
    clear qB11
    replace qB2:=qB2.touch qt42 (by omega)
    replace qB5:=qB5.touch qt42 (by omega)
    replace qB8:=qB8.touch qt42 (by omega)
    replace qB25:=qB25.touch qt42 (by omega)
    replace qB36:=qB36.touch qt42 (by omega)
    replace qB39:=qB39.touch qt42 (by omega)
    replace E:=E.touch qt42 (by omega)
    replace G:=since_touch G qt42 (by omega)
    have qt42_s:=qt42.size
    refine vV (bF) ?_
    refine vZ (fun Y=>#[Y 0,Y 1,Y 2,Y 3,Y 4,Y 5,Y 6,U,Y 8,Y 9,U,pX qw4.heap.size 0,U,U,pX qw7.heap.size 0,bF,Y 16,Y 17,Y 18,Y 19,pX qw26.heap.size 0,Y 21,Y 22,Y 23,Y 24,Y 25,Y 26,Y 27,Y 28,Y 29,Y 30,Y 31,Y 32,Y 33,Y 34,Y 35,Y 36,Y 37,Y 38,Y 39,Y 40,Y 41,U,Y 43,Y 44,Y 45,Y 46,Y 47,Y 48,Y 49,Y 50,Y 51,Y 52,Y 53,Y 54,Y 55,Y 56,Y 57,Y 58,Y 59,.agg (cnCells cnZero),U,U,U,U,U,U,U,U,U,U,U,U,U,U,U,U,U]) (fun Y=>?_)
    go_wp2_with (fail)
    exact bodyPost_ret (v:=.tuple #[.agg (cnCells cnZero),.bool false]) (results_cn2 (t:=14) (u:=15) rfl _ rfl qB43) rfl ⟨by rw [hV.out,tak_no (by unfold takOk;simp [c5])],G⟩
theorem specTake (k0 h p j q e:Int) (s:Sg) (room now:Int) (hf:IsInt s.fl) (w:World) :
  Calls Tryz.prog 15 #[.int .u32 k0,addrVal h p,addrVal j q,.int .i64 e,.agg (sgCells s),.int .i64 room,.int .i64 now] w fun f w'=>f=.returned (takV k0 h p j q e s room now)∧Since w w':=by
 obtain ⟨V,hV⟩:∃ V,Hid (V=takV k0 h p j q e s room now):=⟨_,rfl⟩
 rw [← hV.out]
 have G:=Since.refl w
 have hck:=fun wx=>specCheck k0 h p j q e (cok s) (cok_word s) wx
 generalize ckStep k0 h p j q e (cok s)=ks at hck
 unfold addrVal at *
 go_enter Tryz.func15,Tryz.ntmps15
 go_upto_region 0 with (fail)
 refine vR ?_
 refine vW (w.alloc (.cells #[uJ h,iJ p] 26)) (pX w.heap.size 0) ?_
 have qB2:=Blk.new w #[.int .u32 h,.int .i64 p] 26
 have qg3:=(Since.refl w).alloc (.cells #[.int .u32 h,.int .i64 p] 26)
 replace G:=G.trans qg3
 generalize w.alloc (.cells #[.int .u32 h,.int .i64 p] 26)=qw1 at  G qB2 qg3 ⊢
 have qB2_l:=qB2.lt
 have qg3_s:=qg3.size
 refine vW (qw1.alloc (.cells #[uJ j,iJ q] 26)) (pX qw1.heap.size 0) ?_
 have qB5:=Blk.new qw1 #[.int .u32 j,.int .i64 q] 26
 have qg6:=(Since.refl qw1).alloc (.cells #[.int .u32 j,.int .i64 q] 26)
 replace qB2:=qB2.since qg6
 replace G:=G.trans qg6
 generalize qw1.alloc (.cells #[.int .u32 j,.int .i64 q] 26)=qw4 at qB2 G qB5 qg6 ⊢
 have qB5_l:=qB5.lt
 have qg6_s:=qg6.size
 refine vW (qw4.alloc (.cells (sgCells s) 41)) (pX qw4.heap.size 0) ?_
 have qB8:=Blk.new qw4 (sgCells s) 41
 have qg9:=(Since.refl qw4).alloc (.cells (sgCells s) 41)
 replace qB2:=qB2.since qg9
 replace qB5:=qB5.since qg9
 replace G:=G.trans qg9
 generalize qw4.alloc (.cells (sgCells s) 41)=qw7 at qB2 qB5 G qB8 qg9 ⊢
 have qB8_l:=qB8.lt
 have qg9_s:=qg9.size
 refine vW (qw7.alloc (.cells (cnCells cnZero) 39)) (pX qw7.heap.size 0) ?_
 have qB11:=Blk.new qw7 (cnCells cnZero) 39
 have qg12:=(Since.refl qw7).alloc (.cells (cnCells cnZero) 39)
 replace qB2:=qB2.since qg12
 replace qB5:=qB5.since qg12
 replace qB8:=qB8.since qg12
 replace G:=G.trans qg12
 generalize qw7.alloc (.cells (cnCells cnZero) 39)=qw10 at qB2 qB5 qB8 G qB11 qg12 ⊢
 have qB11_l:=qB11.lt
 have qg12_s:=qg12.size
 refine vV (bF) ?_
 refine vE #[uJ k0,.agg #[uJ h,iJ p],.agg #[uJ j,iJ q],iJ e,.agg (sgCells s),iJ room,iJ now,U,pX w.heap.size 0,pX qw1.heap.size 0,U,pX qw4.heap.size 0,U,U,pX qw7.heap.size 0,bF,U,U,U,U,U,U,U,U,U,U,U,U,U,U,U,U,U,U,U,U,U,U,U,U,U,U,U,U,U,U,U,U,U,U,U,U,U,U,U,U,U,U,U,U,U,U,U,U,U,U,U,U,U,U,U,U,U,U,U,U,U,U,U,U,U,U,U,U,U,U,U,U,U,U,U,U] ?_
 go_upto_region 1 with (fail)
 have hin:=fun wx=>specIn s.fl 0 31 wx
 by_cases c0:0≤s.fl∧s.fl≤31
 ·rw [decide_eq_true c0] at hin
  have hf16:=fun wx=>specHas s.fl 16 c0.1 hf (by unfold IsFlag;omega) wx
  have hf2:=fun wx=>specHas s.fl 2 c0.1 hf (by unfold IsFlag;omega) wx
  have hf4:=fun wx=>specHas s.fl 4 c0.1 hf (by unfold IsFlag;omega) wx
  cases c1:hasF s.fl 16
  ·rw [c1] at hf16
   replace c1:Hid _:=c1
   refine vR ?_
   refine vV (pX qw4.heap.size 4) ?_
   refine vD (iJ s.fl) (qB8.cell 4) ?_
   refine vC (hin _) ?_
   rintro _ _ ⟨rfl,rfl⟩
   refine ⟨_,rfl,?_⟩
   refine vV (bF) ?_
   refine vV (bF) ?_
   refine vV (pX qw4.heap.size 4) ?_
   refine vD (iJ s.fl) (qB8.cell 4) ?_
   refine vC (hf16 _) ?_
   rintro _ _ ⟨rfl,rfl⟩
   refine ⟨_,rfl,?_⟩
   refine vV (bT) ?_
   refine vV (bT) ?_
   refine vV (bT) ?_
   refine vS ?_
   refine vS ?_
   refine vS ?_
   refine vV (bT) ?_
   refine vV (bT) ?_
   refine vS ?_
   refine vS ?_
   refine vS ?_
   refine vV (bT) ?_
   refine vE #[uJ k0,.agg #[uJ h,iJ p],.agg #[uJ j,iJ q],iJ e,.agg (sgCells s),iJ room,iJ now,U,pX w.heap.size 0,pX qw1.heap.size 0,U,pX qw4.heap.size 0,U,U,pX qw7.heap.size 0,bF,U,U,U,U,U,pX qw4.heap.size 4,iJ s.fl,bT,bF,bF,pX qw4.heap.size 4,iJ s.fl,bF,bT,bT,bT,U,U,U,bT,bT,U,U,U,bT,U,U,U,U,U,U,U,U,U,U,U,U,U,U,U,U,U,U,U,U,U,U,U,U,U,U,U,U,U,U,U,U,U,U,U,U,U,U,U,U,U,U,U,U,U,U,U,U,U,U,U] ?_
   go_upto_region 2 with (fail)
   refine vR ?_
   refine vV (.agg (cnCells cnZero)) ?_
   refine sB (cnCells cnZero) cn_big qB11 (cn_size _) (cn_size _) (cn_one _) ?_
   intro qw13 qt14 qB15
   clear qB11
   replace qB2:=qB2.touch qt14 (by omega)
   replace qB5:=qB5.touch qt14 (by omega)
   replace qB8:=qB8.touch qt14 (by omega)
   replace G:=since_touch G qt14 (by omega)
   have qt14_s:=qt14.size
   refine vV (bF) ?_
   refine vZ (fun Y=>#[uJ k0,Y 1,Y 2,iJ e,Y 4,iJ room,iJ now,U,pX w.heap.size 0,pX qw1.heap.size 0,U,pX qw4.heap.size 0,U,U,pX qw7.heap.size 0,bF,U,U,U,U,U,Y 21,Y 22,Y 23,Y 24,Y 25,Y 26,Y 27,Y 28,Y 29,Y 30,Y 31,U,U,U,Y 35,Y 36,U,U,U,Y 40,.agg (cnCells cnZero),U,U,U,U,U,U,U,U,U,U,U,U,U,U,U,U,U,U,U,U,U,U,U,U,U,U,U,U,U,U,U,U,U,U,U,U,U,U,U,U,U,U,U,U,U,U,U,U,U,U]) (fun Y=>?_)
   go_wp2_with (fail)
   exact bodyPost_ret (v:=.tuple #[.agg (cnCells cnZero),.bool false]) (results_cn2 (t:=14) (u:=15) rfl _ rfl qB15) rfl ⟨by rw [hV.out,tak_no (by unfold takOk goesOn;rw [c1.out];simp)],G⟩
  ·rw [c1] at hf16
   replace c1:Hid _:=c1
   cases c2:hasF s.fl 2
   ·rw [c2] at hf2
    replace c2:Hid _:=c2
    cases c3:hasF s.fl 4
    ·rw [c3] at hf4
     replace c3:Hid _:=c3
     cases c4:ckKnown k0 h p j q e (cok s)
     ·rw [c4] at hck
      replace c4:Hid _:=c4
      refine vR ?_
      refine vV (pX qw4.heap.size 4) ?_
      refine vD (iJ s.fl) (qB8.cell 4) ?_
      refine vC (hin _) ?_
      rintro _ _ ⟨rfl,rfl⟩
      refine ⟨_,rfl,?_⟩
      refine vV (bF) ?_
      refine vV (bF) ?_
      refine vV (pX qw4.heap.size 4) ?_
      refine vD (iJ s.fl) (qB8.cell 4) ?_
      refine vC (hf16 _) ?_
      rintro _ _ ⟨rfl,rfl⟩
      refine ⟨_,rfl,?_⟩
      refine vV (bF) ?_
      refine vV (bF) ?_
      refine vV (bF) ?_
      refine vV (pX qw4.heap.size 4) ?_
      refine vD (iJ s.fl) (qB8.cell 4) ?_
      refine vC (hf2 _) ?_
      rintro _ _ ⟨rfl,rfl⟩
      refine ⟨_,rfl,?_⟩
      refine vV (bF) ?_
      refine vV (bF) ?_
      refine vV (pX qw4.heap.size 4) ?_
      refine vD (iJ s.fl) (qB8.cell 4) ?_
      refine vC (hf4 _) ?_
      rintro _ _ ⟨rfl,rfl⟩
      refine ⟨_,rfl,?_⟩
      refine vV (bF) ?_
      refine vE #[uJ k0,.agg #[uJ h,iJ p],.agg #[uJ j,iJ q],iJ e,.agg (sgCells s),iJ room,iJ now,U,pX w.heap.size 0,pX qw1.heap.size 0,U,pX qw4.heap.size 0,U,U,pX qw7.heap.size 0,bF,U,U,U,U,U,pX qw4.heap.size 4,iJ s.fl,bT,bF,bF,pX qw4.heap.size 4,iJ s.fl,bT,bF,bF,bF,pX qw4.heap.size 4,iJ s.fl,bF,bF,bF,pX qw4.heap.size 4,iJ s.fl,bF,bF,U,U,U,U,U,U,U,U,U,U,U,U,U,U,U,U,U,U,U,U,U,U,U,U,U,U,U,U,U,U,U,U,U,U,U,U,U,U,U,U,U,U,U,U,U,U,U,U,U,U,U] ?_
      go_upto_region 3 with (fail)
      refine vR ?_
      refine vV (uJ k0) ?_
      refine vB ad_big qB2 rfl ?_
      refine vB ad_big qB5 rfl ?_
      refine vV (iJ e) ?_
      refine vV (pX qw4.heap.size 3) ?_
      refine vD (uJ s.ak) (qB8.cell 3) ?_
      refine vV (uJ (cok s)) ?_
      refine vK (hck _) ?_
      intro qw13 qg14
      replace qB2:=qB2.since qg14
      replace qB5:=qB5.since qg14
      replace qB8:=qB8.since qg14
      replace qB11:=qB11.since qg14
      replace G:=G.trans qg14
      have qg14_s:=qg14.size
      refine vV (.tuple #[iJ ks,bF]) ?_
      refine vV (iJ ks) ?_
      refine vV (bF) ?_
      refine vV (iJ ks) ?_
      refine vV (bF) ?_
      refine vZ (fun Y=>#[Y 0,Y 1,Y 2,Y 3,Y 4,iJ room,iJ now,U,Y 8,Y 9,U,pX qw4.heap.size 0,U,U,pX qw7.heap.size 0,bF,iJ ks,bF,U,U,U,Y 21,Y 22,Y 23,Y 24,Y 25,Y 26,Y 27,Y 28,Y 29,Y 30,Y 31,Y 32,Y 33,Y 34,Y 35,Y 36,Y 37,Y 38,Y 39,Y 40,U,.tuple #[iJ ks,bF],uJ k0,.agg #[uJ h,iJ p],.agg #[uJ j,iJ q],iJ e,pX qw4.heap.size 3,uJ s.ak,uJ (cok s),.tuple #[iJ ks,bF],iJ ks,bF,U,U,U,U,U,U,U,U,U,U,U,U,U,U,U,U,U,U,U,U,U,U,U,U,U,U,U,U,U,U,U,U,U,U,U,U,U,U,U]) (fun Y=>?_)
      generalize (.tuple #[.int .i64 ks,.bool false]:Value)=qz15
      generalize (.agg #[.int .u32 h,.int .i64 p]:Value)=qz16
      generalize (.agg #[.int .u32 j,.int .i64 q]:Value)=qz17
      go_upto_region 4 with (fail)
      refine vR ?_
      refine vV (bF) ?_
      refine vV (bT) ?_
      refine vZ (fun Y=>#[Y 0,Y 1,Y 2,Y 3,Y 4,iJ room,iJ now,U,Y 8,Y 9,U,pX qw4.heap.size 0,U,U,pX qw7.heap.size 0,bF,Y 16,Y 17,U,U,U,Y 21,Y 22,Y 23,Y 24,Y 25,Y 26,Y 27,Y 28,Y 29,Y 30,Y 31,Y 32,Y 33,Y 34,Y 35,Y 36,Y 37,Y 38,Y 39,Y 40,U,Y 42,Y 43,Y 44,Y 45,Y 46,Y 47,Y 48,Y 49,Y 50,Y 51,Y 52,bF,bT,U,U,U,U,U,U,U,U,U,U,U,U,U,U,U,U,U,U,U,U,U,U,U,U,U,U,U,U,U,U,U,U,U,U,U,U,U]) (fun Y=>?_)
      go_upto_region 5 with (fail)
      refine vR ?_
      refine vV (.agg (cnCells cnZero)) ?_
      refine sB (cnCells cnZero) cn_big qB11 (cn_size _) (cn_size _) (cn_one _) ?_
      intro qw18 qt19 qB20
      clear qB11
      replace qB2:=qB2.touch qt19 (by omega)
      replace qB5:=qB5.touch qt19 (by omega)
      replace qB8:=qB8.touch qt19 (by omega)
      replace G:=since_touch G qt19 (by omega)
      have qt19_s:=qt19.size
      refine vV (bF) ?_
      refine vZ (fun Y=>#[Y 0,Y 1,Y 2,Y 3,Y 4,iJ room,iJ now,U,Y 8,Y 9,U,pX qw4.heap.size 0,U,U,pX qw7.heap.size 0,bF,Y 16,Y 17,U,U,U,Y 21,Y 22,Y 23,Y 24,Y 25,Y 26,Y 27,Y 28,Y 29,Y 30,Y 31,Y 32,Y 33,Y 34,Y 35,Y 36,Y 37,Y 38,Y 39,Y 40,U,Y 42,Y 43,Y 44,Y 45,Y 46,Y 47,Y 48,Y 49,Y 50,Y 51,Y 52,Y 53,Y 54,.agg (cnCells cnZero),U,U,U,U,U,U,U,U,U,U,U,U,U,U,U,U,U,U,U,U,U,U,U,U,U,U,U,U,U,U,U,U,U,U,U,U]) (fun Y=>?_)
      go_wp2_with (fail)
      exact bodyPost_ret (v:=.tuple #[.agg (cnCells cnZero),.bool false]) (results_cn2 (t:=14) (u:=15) rfl _ rfl qB20) rfl ⟨by rw [hV.out,tak_no (by unfold takOk;rw [c4.out];simp)],G⟩
     ·rw [c4] at hck
      replace c4:Hid _:=c4
      have hh:=fun wx=>specHear (askS s) (cok s) room now (cok_word s) (askS_word s) wx
      unfold hearV cnVal sgVal at hh
      obtain ⟨C0,hC0⟩:∃ C,Hid (C=hearC (askS s) (cok s) room now):=⟨_,rfl⟩
      rw [← hC0.out] at hh
      generalize synSg C0 []=S0 at hh
      by_cases c5:hearOk (askS s) room now
      ·simp only [if_pos c5] at hh
       refine vR ?_
       refine vV (pX qw4.heap.size 4) ?_
       refine vD (iJ s.fl) (qB8.cell 4) ?_
       refine vC (hin _) ?_
       rintro _ _ ⟨rfl,rfl⟩
       refine ⟨_,rfl,?_⟩
       refine vV (bF) ?_
       refine vV (bF) ?_
       refine vV (pX qw4.heap.size 4) ?_
       refine vD (iJ s.fl) (qB8.cell 4) ?_
       refine vC (hf16 _) ?_
       rintro _ _ ⟨rfl,rfl⟩
       refine ⟨_,rfl,?_⟩
       refine vV (bF) ?_
       refine vV (bF) ?_
       refine vV (bF) ?_
       refine vV (pX qw4.heap.size 4) ?_
       refine vD (iJ s.fl) (qB8.cell 4) ?_
       refine vC (hf2 _) ?_
       rintro _ _ ⟨rfl,rfl⟩
       refine ⟨_,rfl,?_⟩
       refine vV (bF) ?_
       refine vV (bF) ?_
       refine vV (pX qw4.heap.size 4) ?_
       refine vD (iJ s.fl) (qB8.cell 4) ?_
       refine vC (hf4 _) ?_
       rintro _ _ ⟨rfl,rfl⟩
       refine ⟨_,rfl,?_⟩
       refine vV (bF) ?_
       refine vE #[uJ k0,.agg #[uJ h,iJ p],.agg #[uJ j,iJ q],iJ e,.agg (sgCells s),iJ room,iJ now,U,pX w.heap.size 0,pX qw1.heap.size 0,U,pX qw4.heap.size 0,U,U,pX qw7.heap.size 0,bF,U,U,U,U,U,pX qw4.heap.size 4,iJ s.fl,bT,bF,bF,pX qw4.heap.size 4,iJ s.fl,bT,bF,bF,bF,pX qw4.heap.size 4,iJ s.fl,bF,bF,bF,pX qw4.heap.size 4,iJ s.fl,bF,bF,U,U,U,U,U,U,U,U,U,U,U,U,U,U,U,U,U,U,U,U,U,U,U,U,U,U,U,U,U,U,U,U,U,U,U,U,U,U,U,U,U,U,U,U,U,U,U,U,U,U,U] ?_
       go_upto_region 3 with (fail)
       refine vR ?_
       refine vV (uJ k0) ?_
       refine vB ad_big qB2 rfl ?_
       refine vB ad_big qB5 rfl ?_
       refine vV (iJ e) ?_
       refine vV (pX qw4.heap.size 3) ?_
       refine vD (uJ s.ak) (qB8.cell 3) ?_
       refine vV (uJ (cok s)) ?_
       refine vK (hck _) ?_
       intro qw13 qg14
       replace qB2:=qB2.since qg14
       replace qB5:=qB5.since qg14
       replace qB8:=qB8.since qg14
       replace qB11:=qB11.since qg14
       replace G:=G.trans qg14
       have qg14_s:=qg14.size
       refine vV (.tuple #[iJ ks,bT]) ?_
       refine vV (iJ ks) ?_
       refine vV (bT) ?_
       refine vV (iJ ks) ?_
       refine vV (bT) ?_
       refine vZ (fun Y=>#[Y 0,Y 1,Y 2,Y 3,Y 4,iJ room,iJ now,U,Y 8,Y 9,U,pX qw4.heap.size 0,U,U,pX qw7.heap.size 0,bF,iJ ks,bT,U,U,U,Y 21,Y 22,Y 23,Y 24,Y 25,Y 26,Y 27,Y 28,Y 29,Y 30,Y 31,Y 32,Y 33,Y 34,Y 35,Y 36,Y 37,Y 38,Y 39,Y 40,U,.tuple #[iJ ks,bT],uJ k0,.agg #[uJ h,iJ p],.agg #[uJ j,iJ q],iJ e,pX qw4.heap.size 3,uJ s.ak,uJ (cok s),.tuple #[iJ ks,bT],iJ ks,bT,U,U,U,U,U,U,U,U,U,U,U,U,U,U,U,U,U,U,U,U,U,U,U,U,U,U,U,U,U,U,U,U,U,U,U,U,U,U,U]) (fun Y=>?_)
       generalize (.tuple #[.int .i64 ks,.bool true]:Value)=qz15
       generalize (.agg #[.int .u32 h,.int .i64 p]:Value)=qz16
       generalize (.agg #[.int .u32 j,.int .i64 q]:Value)=qz17
       go_upto_region 4 with (fail)
       refine vR ?_
       refine vV (bT) ?_
       refine vV (bF) ?_
       refine vZ (fun Y=>#[Y 0,Y 1,Y 2,Y 3,Y 4,iJ room,iJ now,U,Y 8,Y 9,U,pX qw4.heap.size 0,U,U,pX qw7.heap.size 0,bF,Y 16,Y 17,U,U,U,Y 21,Y 22,Y 23,Y 24,Y 25,Y 26,Y 27,Y 28,Y 29,Y 30,Y 31,Y 32,Y 33,Y 34,Y 35,Y 36,Y 37,Y 38,Y 39,Y 40,U,Y 42,Y 43,Y 44,Y 45,Y 46,Y 47,Y 48,Y 49,Y 50,Y 51,Y 52,bT,bF,U,U,U,U,U,U,U,U,U,U,U,U,U,U,U,U,U,U,U,U,U,U,U,U,U,U,U,U,U,U,U,U,U,U,U,U,U]) (fun Y=>?_)
       go_upto_region 6 with (fail)
       refine vR ?_
       refine vV (pX qw4.heap.size 2) ?_
       refine vD (uJ s.sq) (qB8.cell 2) ?_
       refine vV (uJ ((s.sq - 1) % 4294967296)) ?_
       refine vV (pX qw4.heap.size 5) ?_
       refine vD (iJ s.wn) (qB8.cell 5) ?_
       refine vV (.agg (sgCells (askS s))) ?_
       refine vV (pX qw4.heap.size 3) ?_
       refine vD (uJ s.ak) (qB8.cell 3) ?_
       refine vV (uJ (cok s)) ?_
       refine vV (iJ room) ?_
       refine vV (iJ now) ?_
       refine vK (hh _) ?_
       intro qw18 qg19
       replace qB2:=qB2.since qg19
       replace qB5:=qB5.since qg19
       replace qB8:=qB8.since qg19
       replace qB11:=qB11.since qg19
       replace G:=G.trans qg19
       have qg19_s:=qg19.size
       refine vV (.tuple #[.agg (cnCells C0),.agg (sgCells S0),bT]) ?_
       refine vV (.agg (cnCells C0)) ?_
       refine vV (.agg (sgCells S0)) ?_
       refine vV (bT) ?_
       refine vW (qw18.alloc (.cells (cnCells cnZero) 39)) (pX qw18.heap.size 0) ?_
       have qB21:=Blk.new qw18 (cnCells cnZero) 39
       have qg22:=(Since.refl qw18).alloc (.cells (cnCells cnZero) 39)
       replace qB2:=qB2.since qg22
       replace qB5:=qB5.since qg22
       replace qB8:=qB8.since qg22
       replace qB11:=qB11.since qg22
       replace G:=G.trans qg22
       generalize qw18.alloc (.cells (cnCells cnZero) 39)=qw20 at qB2 qB5 qB8 qB11 G qB21 qg22 ⊢
       have qB21_l:=qB21.lt
       have qg22_s:=qg22.size
       refine vW (qw20.alloc (.cells (sgCells sgZero) 41)) (pX qw20.heap.size 0) ?_
       have qB24:=Blk.new qw20 (sgCells sgZero) 41
       have qg25:=(Since.refl qw20).alloc (.cells (sgCells sgZero) 41)
       replace qB2:=qB2.since qg25
       replace qB5:=qB5.since qg25
       replace qB8:=qB8.since qg25
       replace qB11:=qB11.since qg25
       replace qB21:=qB21.since qg25
       replace G:=G.trans qg25
       generalize qw20.alloc (.cells (sgCells sgZero) 41)=qw23 at qB2 qB5 qB8 qB11 qB21 G qB24 qg25 ⊢
       have qB24_l:=qB24.lt
       have qg25_s:=qg25.size
       refine sB (cnCells C0) cn_big qB21 (cn_size _) (cn_size _) (cn_one _) ?_
       intro qw26 qt27 qB28
       clear qB21
       replace qB2:=qB2.touch qt27 (by omega)
       replace qB5:=qB5.touch qt27 (by omega)
       replace qB8:=qB8.touch qt27 (by omega)
       replace qB11:=qB11.touch qt27 (by omega)
       replace qB24:=qB24.touch qt27 (by omega)
       replace G:=since_touch G qt27 (by omega)
       have qt27_s:=qt27.size
       refine sB (sgCells S0) seg_big qB24 rfl rfl (seg_one _ _ _ _ _ _ _ _) ?_
       intro qw29 qt30 qB31
       clear qB24
       replace qB2:=qB2.touch qt30 (by omega)
       replace qB5:=qB5.touch qt30 (by omega)
       replace qB8:=qB8.touch qt30 (by omega)
       replace qB11:=qB11.touch qt30 (by omega)
       replace qB28:=qB28.touch qt30 (by omega)
       replace G:=since_touch G qt30 (by omega)
       have qt30_s:=qt30.size
       refine vV (bT) ?_
       refine vZ (fun Y=>#[Y 0,Y 1,Y 2,Y 3,Y 4,Y 5,Y 6,U,Y 8,Y 9,U,pX qw4.heap.size 0,U,U,pX qw7.heap.size 0,bF,Y 16,Y 17,pX qw18.heap.size 0,pX qw20.heap.size 0,bT,Y 21,Y 22,Y 23,Y 24,Y 25,Y 26,Y 27,Y 28,Y 29,Y 30,Y 31,Y 32,Y 33,Y 34,Y 35,Y 36,Y 37,Y 38,Y 39,Y 40,U,Y 42,Y 43,Y 44,Y 45,Y 46,Y 47,Y 48,Y 49,Y 50,Y 51,Y 52,Y 53,Y 54,U,.tuple #[.agg (cnCells C0),.agg (sgCells S0),bT],pX qw4.heap.size 2,uJ s.sq,uJ ((s.sq - 1) % 4294967296),pX qw4.heap.size 5,iJ s.wn,.agg (sgCells (askS s)),pX qw4.heap.size 3,uJ s.ak,uJ (cok s),iJ room,iJ now,.tuple #[.agg (cnCells C0),.agg (sgCells S0),bT],.agg (cnCells C0),.agg (sgCells S0),bT,U,U,U,U,U,U,U,U,U,U,U,U,U,U,U,U,U,U,U,U]) (fun Y=>?_)
       generalize (.tuple #[.agg (cnCells C0),.agg (sgCells S0),.bool true]:Value)=qz32
       go_upto_region 7 with (fail)
       refine vR ?_
       refine vV (bT) ?_
       refine vV (bF) ?_
       refine vZ (fun Y=>#[Y 0,Y 1,Y 2,Y 3,Y 4,Y 5,Y 6,U,Y 8,Y 9,U,pX qw4.heap.size 0,U,U,pX qw7.heap.size 0,bF,Y 16,Y 17,pX qw18.heap.size 0,Y 19,Y 20,Y 21,Y 22,Y 23,Y 24,Y 25,Y 26,Y 27,Y 28,Y 29,Y 30,Y 31,Y 32,Y 33,Y 34,Y 35,Y 36,Y 37,Y 38,Y 39,Y 40,U,Y 42,Y 43,Y 44,Y 45,Y 46,Y 47,Y 48,Y 49,Y 50,Y 51,Y 52,Y 53,Y 54,U,Y 56,Y 57,Y 58,Y 59,Y 60,Y 61,Y 62,Y 63,Y 64,Y 65,Y 66,Y 67,Y 68,Y 69,Y 70,Y 71,bT,bF,U,U,U,U,U,U,U,U,U,U,U,U,U,U,U,U,U,U]) (fun Y=>?_)
       go_upto_region 9 with (fail)
       refine vR ?_
       refine vV (pX qw18.heap.size 0) ?_
       refine sC (cnCells {C0 with st:=3}) qB28 0 (.int .i64 3) (cn_size _) ?_
       intro qw33 qt34 qB35
       clear qB28
       replace qB2:=qB2.touch qt34 (by omega)
       replace qB5:=qB5.touch qt34 (by omega)
       replace qB8:=qB8.touch qt34 (by omega)
       replace qB11:=qB11.touch qt34 (by omega)
       replace qB31:=qB31.touch qt34 (by omega)
       replace G:=since_touch G qt34 (by omega)
       have qt34_s:=qt34.size
       refine vZ (fun Y=>#[Y 0,Y 1,Y 2,Y 3,Y 4,Y 5,Y 6,U,Y 8,Y 9,U,pX qw4.heap.size 0,U,U,pX qw7.heap.size 0,bF,Y 16,Y 17,pX qw18.heap.size 0,Y 19,Y 20,Y 21,Y 22,Y 23,Y 24,Y 25,Y 26,Y 27,Y 28,Y 29,Y 30,Y 31,Y 32,Y 33,Y 34,Y 35,Y 36,Y 37,Y 38,Y 39,Y 40,U,Y 42,Y 43,Y 44,Y 45,Y 46,Y 47,Y 48,Y 49,Y 50,Y 51,Y 52,Y 53,Y 54,U,Y 56,Y 57,Y 58,Y 59,Y 60,Y 61,Y 62,Y 63,Y 64,Y 65,Y 66,Y 67,Y 68,Y 69,Y 70,Y 71,Y 72,Y 73,U,pX qw18.heap.size 0,U,U,U,U,U,U,U,U,U,U,U,U,U,U,U,U]) (fun Y=>?_)
       go_upto_region 10 with (fail)
       refine vR ?_
       refine vV (pX qw4.heap.size 3) ?_
       refine vD (uJ s.ak) (qB8.cell 3) ?_
       refine vV (pX qw18.heap.size 2) ?_
       refine sC (cnCells {C0 with st:=3,una:=s.ak}) qB35 2 (.int .u32 s.ak) (cn_size _) ?_
       intro qw36 qt37 qB38
       clear qB35
       replace qB2:=qB2.touch qt37 (by omega)
       replace qB5:=qB5.touch qt37 (by omega)
       replace qB8:=qB8.touch qt37 (by omega)
       replace qB11:=qB11.touch qt37 (by omega)
       replace qB31:=qB31.touch qt37 (by omega)
       replace G:=since_touch G qt37 (by omega)
       have qt37_s:=qt37.size
       refine vZ (fun Y=>#[Y 0,Y 1,Y 2,Y 3,Y 4,Y 5,Y 6,U,Y 8,Y 9,U,pX qw4.heap.size 0,U,U,pX qw7.heap.size 0,bF,Y 16,Y 17,pX qw18.heap.size 0,Y 19,Y 20,Y 21,Y 22,Y 23,Y 24,Y 25,Y 26,Y 27,Y 28,Y 29,Y 30,Y 31,Y 32,Y 33,Y 34,Y 35,Y 36,Y 37,Y 38,Y 39,Y 40,U,Y 42,Y 43,Y 44,Y 45,Y 46,Y 47,Y 48,Y 49,Y 50,Y 51,Y 52,Y 53,Y 54,U,Y 56,Y 57,Y 58,Y 59,Y 60,Y 61,Y 62,Y 63,Y 64,Y 65,Y 66,Y 67,Y 68,Y 69,Y 70,Y 71,Y 72,Y 73,U,Y 75,pX qw4.heap.size 3,uJ s.ak,pX qw18.heap.size 2,U,U,U,U,U,U,U,U,U,U,U,U,U]) (fun Y=>?_)
       go_upto_region 11 with (fail)
       refine vR ?_
       refine vV (pX qw4.heap.size 3) ?_
       refine vD (uJ s.ak) (qB8.cell 3) ?_
       refine vV (pX qw18.heap.size 8) ?_
       refine vV (pX qw18.heap.size 8) ?_
       refine sC (cnCells {C0 with st:=3,una:=s.ak,oF:=s.ak}) qB38 8 (.int .u32 s.ak) (cn_size _) ?_
       intro qw39 qt40 qB41
       clear qB38
       replace qB2:=qB2.touch qt40 (by omega)
       replace qB5:=qB5.touch qt40 (by omega)
       replace qB8:=qB8.touch qt40 (by omega)
       replace qB11:=qB11.touch qt40 (by omega)
       replace qB31:=qB31.touch qt40 (by omega)
       replace G:=since_touch G qt40 (by omega)
       have qt40_s:=qt40.size
       refine vZ (fun Y=>#[Y 0,Y 1,Y 2,Y 3,Y 4,Y 5,Y 6,U,Y 8,Y 9,U,pX qw4.heap.size 0,U,U,pX qw7.heap.size 0,bF,Y 16,Y 17,pX qw18.heap.size 0,Y 19,Y 20,Y 21,Y 22,Y 23,Y 24,Y 25,Y 26,Y 27,Y 28,Y 29,Y 30,Y 31,Y 32,Y 33,Y 34,Y 35,Y 36,Y 37,Y 38,Y 39,Y 40,U,Y 42,Y 43,Y 44,Y 45,Y 46,Y 47,Y 48,Y 49,Y 50,Y 51,Y 52,Y 53,Y 54,U,Y 56,Y 57,Y 58,Y 59,Y 60,Y 61,Y 62,Y 63,Y 64,Y 65,Y 66,Y 67,Y 68,Y 69,Y 70,Y 71,Y 72,Y 73,U,Y 75,Y 76,Y 77,Y 78,pX qw4.heap.size 3,uJ s.ak,pX qw18.heap.size 8,pX qw18.heap.size 8,U,U,U,U,U,U,U,U,U]) (fun Y=>?_)
       go_upto_region 12 with (fail)
       refine vR ?_
       refine vV (pX qw4.heap.size 3) ?_
       refine vD (uJ s.ak) (qB8.cell 3) ?_
       refine vV (pX qw18.heap.size 3) ?_
       refine sC (cnCells {C0 with st:=3,una:=s.ak,oF:=s.ak,nxt:=s.ak}) qB41 3 (.int .u32 s.ak) (cn_size _) ?_
       intro qw42 qt43 qB44
       clear qB41
       replace qB2:=qB2.touch qt43 (by omega)
       replace qB5:=qB5.touch qt43 (by omega)
       replace qB8:=qB8.touch qt43 (by omega)
       replace qB11:=qB11.touch qt43 (by omega)
       replace qB31:=qB31.touch qt43 (by omega)
       replace G:=since_touch G qt43 (by omega)
       have qt43_s:=qt43.size
       refine vZ (fun Y=>#[Y 0,Y 1,Y 2,Y 3,Y 4,Y 5,Y 6,U,Y 8,Y 9,U,pX qw4.heap.size 0,U,U,pX qw7.heap.size 0,bF,Y 16,Y 17,pX qw18.heap.size 0,Y 19,Y 20,Y 21,Y 22,Y 23,Y 24,Y 25,Y 26,Y 27,Y 28,Y 29,Y 30,Y 31,Y 32,Y 33,Y 34,Y 35,Y 36,Y 37,Y 38,Y 39,Y 40,U,Y 42,Y 43,Y 44,Y 45,Y 46,Y 47,Y 48,Y 49,Y 50,Y 51,Y 52,Y 53,Y 54,U,Y 56,Y 57,Y 58,Y 59,Y 60,Y 61,Y 62,Y 63,Y 64,Y 65,Y 66,Y 67,Y 68,Y 69,Y 70,Y 71,Y 72,Y 73,U,Y 75,Y 76,Y 77,Y 78,Y 79,Y 80,Y 81,Y 82,pX qw4.heap.size 3,uJ s.ak,pX qw18.heap.size 3,U,U,U,U,U,U]) (fun Y=>?_)
       go_upto_region 13 with (fail)
       refine vR ?_
       refine vV (pX qw4.heap.size 3) ?_
       refine vD (uJ s.ak) (qB8.cell 3) ?_
       refine vV (pX qw18.heap.size 4) ?_
       refine sC (cnCells {C0 with st:=3,una:=s.ak,oF:=s.ak,nxt:=s.ak,mx:=s.ak}) qB44 4 (.int .u32 s.ak) (cn_size _) ?_
       intro qw45 qt46 qB47
       clear qB44
       replace qB2:=qB2.touch qt46 (by omega)
       replace qB5:=qB5.touch qt46 (by omega)
       replace qB8:=qB8.touch qt46 (by omega)
       replace qB11:=qB11.touch qt46 (by omega)
       replace qB31:=qB31.touch qt46 (by omega)
       replace G:=since_touch G qt46 (by omega)
       have qt46_s:=qt46.size
       refine vZ (fun Y=>#[Y 0,Y 1,Y 2,Y 3,Y 4,Y 5,Y 6,U,Y 8,Y 9,U,Y 11,U,U,pX qw7.heap.size 0,bF,Y 16,Y 17,pX qw18.heap.size 0,Y 19,Y 20,Y 21,Y 22,Y 23,Y 24,Y 25,Y 26,Y 27,Y 28,Y 29,Y 30,Y 31,Y 32,Y 33,Y 34,Y 35,Y 36,Y 37,Y 38,Y 39,Y 40,U,Y 42,Y 43,Y 44,Y 45,Y 46,Y 47,Y 48,Y 49,Y 50,Y 51,Y 52,Y 53,Y 54,U,Y 56,Y 57,Y 58,Y 59,Y 60,Y 61,Y 62,Y 63,Y 64,Y 65,Y 66,Y 67,Y 68,Y 69,Y 70,Y 71,Y 72,Y 73,U,Y 75,Y 76,Y 77,Y 78,Y 79,Y 80,Y 81,Y 82,Y 83,Y 84,Y 85,pX qw4.heap.size 3,uJ s.ak,pX qw18.heap.size 4,U,U,U]) (fun Y=>?_)
       go_upto_region 14 with (fail)
       refine vR ?_
       refine vV (pX qw18.heap.size 31) ?_
       refine sC (cnCells {C0 with st:=3,una:=s.ak,oF:=s.ak,nxt:=s.ak,mx:=s.ak,agn:=0}) qB47 31 (.int .i64 0) (cn_size _) ?_
       intro qw48 qt49 qB50
       clear qB47
       replace qB2:=qB2.touch qt49 (by omega)
       replace qB5:=qB5.touch qt49 (by omega)
       replace qB8:=qB8.touch qt49 (by omega)
       replace qB11:=qB11.touch qt49 (by omega)
       replace qB31:=qB31.touch qt49 (by omega)
       replace G:=since_touch G qt49 (by omega)
       have qt49_s:=qt49.size
       refine vZ (fun Y=>#[Y 0,Y 1,Y 2,Y 3,Y 4,Y 5,Y 6,U,Y 8,Y 9,U,Y 11,U,U,pX qw7.heap.size 0,bF,Y 16,Y 17,pX qw18.heap.size 0,Y 19,Y 20,Y 21,Y 22,Y 23,Y 24,Y 25,Y 26,Y 27,Y 28,Y 29,Y 30,Y 31,Y 32,Y 33,Y 34,Y 35,Y 36,Y 37,Y 38,Y 39,Y 40,U,Y 42,Y 43,Y 44,Y 45,Y 46,Y 47,Y 48,Y 49,Y 50,Y 51,Y 52,Y 53,Y 54,U,Y 56,Y 57,Y 58,Y 59,Y 60,Y 61,Y 62,Y 63,Y 64,Y 65,Y 66,Y 67,Y 68,Y 69,Y 70,Y 71,Y 72,Y 73,U,Y 75,Y 76,Y 77,Y 78,Y 79,Y 80,Y 81,Y 82,Y 83,Y 84,Y 85,Y 86,Y 87,Y 88,pX qw18.heap.size 31,U,U]) (fun Y=>?_)
       go_upto_region 15 with (fail)
       refine vR ?_
       refine vV (pX qw18.heap.size 28) ?_
       refine sC (cnCells {C0 with st:=3,una:=s.ak,oF:=s.ak,nxt:=s.ak,mx:=s.ak,agn:=0,tmg:=false}) qB50 28 (.bool false) (cn_size _) ?_
       intro qw51 qt52 qB53
       clear qB50
       replace qB2:=qB2.touch qt52 (by omega)
       replace qB5:=qB5.touch qt52 (by omega)
       replace qB8:=qB8.touch qt52 (by omega)
       replace qB11:=qB11.touch qt52 (by omega)
       replace qB31:=qB31.touch qt52 (by omega)
       replace G:=since_touch G qt52 (by omega)
       have qt52_s:=qt52.size
       refine vZ (fun Y=>#[Y 0,Y 1,Y 2,Y 3,Y 4,Y 5,Y 6,U,Y 8,Y 9,U,Y 11,U,U,pX qw7.heap.size 0,bF,Y 16,Y 17,pX qw18.heap.size 0,Y 19,Y 20,Y 21,Y 22,Y 23,Y 24,Y 25,Y 26,Y 27,Y 28,Y 29,Y 30,Y 31,Y 32,Y 33,Y 34,Y 35,Y 36,Y 37,Y 38,Y 39,Y 40,U,Y 42,Y 43,Y 44,Y 45,Y 46,Y 47,Y 48,Y 49,Y 50,Y 51,Y 52,Y 53,Y 54,U,Y 56,Y 57,Y 58,Y 59,Y 60,Y 61,Y 62,Y 63,Y 64,Y 65,Y 66,Y 67,Y 68,Y 69,Y 70,Y 71,Y 72,Y 73,U,Y 75,Y 76,Y 77,Y 78,Y 79,Y 80,Y 81,Y 82,Y 83,Y 84,Y 85,Y 86,Y 87,Y 88,Y 89,pX qw18.heap.size 28,U]) (fun Y=>?_)
       go_upto_region 16 with (fail)
       refine vR ?_
       refine vB cn_big qB53 (cn_size _) ?_
       refine sB (cnCells {C0 with st:=3,una:=s.ak,oF:=s.ak,nxt:=s.ak,mx:=s.ak,agn:=0,tmg:=false}) cn_big qB11 (cn_size _) (cn_size _) (cn_one _) ?_
       intro qw54 qt55 qB56
       clear qB11
       replace qB2:=qB2.touch qt55 (by omega)
       replace qB5:=qB5.touch qt55 (by omega)
       replace qB8:=qB8.touch qt55 (by omega)
       replace qB53:=qB53.touch qt55 (by omega)
       replace qB31:=qB31.touch qt55 (by omega)
       replace G:=since_touch G qt55 (by omega)
       have qt55_s:=qt55.size
       refine vV (bT) ?_
       refine vZ (fun Y=>#[Y 0,Y 1,Y 2,Y 3,Y 4,Y 5,Y 6,U,Y 8,Y 9,U,Y 11,U,U,pX qw7.heap.size 0,bT,Y 16,Y 17,Y 18,Y 19,Y 20,Y 21,Y 22,Y 23,Y 24,Y 25,Y 26,Y 27,Y 28,Y 29,Y 30,Y 31,Y 32,Y 33,Y 34,Y 35,Y 36,Y 37,Y 38,Y 39,Y 40,U,Y 42,Y 43,Y 44,Y 45,Y 46,Y 47,Y 48,Y 49,Y 50,Y 51,Y 52,Y 53,Y 54,U,Y 56,Y 57,Y 58,Y 59,Y 60,Y 61,Y 62,Y 63,Y 64,Y 65,Y 66,Y 67,Y 68,Y 69,Y 70,Y 71,Y 72,Y 73,U,Y 75,Y 76,Y 77,Y 78,Y 79,Y 80,Y 81,Y 82,Y 83,Y 84,Y 85,Y 86,Y 87,Y 88,Y 89,Y 90,.agg (cnCells {C0 with st:=3,una:=s.ak,oF:=s.ak,nxt:=s.ak,mx:=s.ak,agn:=0,tmg:=false})]) (fun Y=>?_)
       generalize (.agg (cnCells {C0 with st:=3,una:=s.ak,oF:=s.ak,nxt:=s.ak,mx:=s.ak,agn:=0,tmg:=false}):Value)=qz57
       go_wp2_with (fail)
       exact bodyPost_ret (v:=.tuple #[.agg (cnCells {C0 with st:=3,una:=s.ak,oF:=s.ak,nxt:=s.ak,mx:=s.ak,agn:=0,tmg:=false}),.bool true]) (results_cn2 (t:=14) (u:=15) rfl _ rfl qB56) rfl ⟨by rw [hV.out,tak_yes (by unfold takOk goesOn;rw [decide_eq_true c0,c1.out,c2.out,c3.out,c4.out,decide_eq_true c5];rfl),takC,← hC0.out],G⟩
      ·simp only [if_neg c5] at hh
       refine vR ?_
       refine vV (pX qw4.heap.size 4) ?_
       refine vD (iJ s.fl) (qB8.cell 4) ?_
       refine vC (hin _) ?_
       rintro _ _ ⟨rfl,rfl⟩
       refine ⟨_,rfl,?_⟩
       refine vV (bF) ?_
       refine vV (bF) ?_
       refine vV (pX qw4.heap.size 4) ?_
       refine vD (iJ s.fl) (qB8.cell 4) ?_
       refine vC (hf16 _) ?_
       rintro _ _ ⟨rfl,rfl⟩
       refine ⟨_,rfl,?_⟩
       refine vV (bF) ?_
       refine vV (bF) ?_
       refine vV (bF) ?_
       refine vV (pX qw4.heap.size 4) ?_
       refine vD (iJ s.fl) (qB8.cell 4) ?_
       refine vC (hf2 _) ?_
       rintro _ _ ⟨rfl,rfl⟩
       refine ⟨_,rfl,?_⟩
       refine vV (bF) ?_
       refine vV (bF) ?_
       refine vV (pX qw4.heap.size 4) ?_
       refine vD (iJ s.fl) (qB8.cell 4) ?_
       refine vC (hf4 _) ?_
       rintro _ _ ⟨rfl,rfl⟩
       refine ⟨_,rfl,?_⟩
       refine vV (bF) ?_
       refine vE #[uJ k0,.agg #[uJ h,iJ p],.agg #[uJ j,iJ q],iJ e,.agg (sgCells s),iJ room,iJ now,U,pX w.heap.size 0,pX qw1.heap.size 0,U,pX qw4.heap.size 0,U,U,pX qw7.heap.size 0,bF,U,U,U,U,U,pX qw4.heap.size 4,iJ s.fl,bT,bF,bF,pX qw4.heap.size 4,iJ s.fl,bT,bF,bF,bF,pX qw4.heap.size 4,iJ s.fl,bF,bF,bF,pX qw4.heap.size 4,iJ s.fl,bF,bF,U,U,U,U,U,U,U,U,U,U,U,U,U,U,U,U,U,U,U,U,U,U,U,U,U,U,U,U,U,U,U,U,U,U,U,U,U,U,U,U,U,U,U,U,U,U,U,U,U,U,U] ?_
       go_upto_region 3 with (fail)
       refine vR ?_
       refine vV (uJ k0) ?_
       refine vB ad_big qB2 rfl ?_
       refine vB ad_big qB5 rfl ?_
       refine vV (iJ e) ?_
       refine vV (pX qw4.heap.size 3) ?_
       refine vD (uJ s.ak) (qB8.cell 3) ?_
       refine vV (uJ (cok s)) ?_
       refine vK (hck _) ?_
       intro qw13 qg14
       replace qB2:=qB2.since qg14
       replace qB5:=qB5.since qg14
       replace qB8:=qB8.since qg14
       replace qB11:=qB11.since qg14
       replace G:=G.trans qg14
       have qg14_s:=qg14.size
       refine vV (.tuple #[iJ ks,bT]) ?_
       refine vV (iJ ks) ?_
       refine vV (bT) ?_
       refine vV (iJ ks) ?_
       refine vV (bT) ?_
       refine vZ (fun Y=>#[Y 0,Y 1,Y 2,Y 3,Y 4,iJ room,iJ now,U,Y 8,Y 9,U,pX qw4.heap.size 0,U,U,pX qw7.heap.size 0,bF,iJ ks,bT,U,U,U,Y 21,Y 22,Y 23,Y 24,Y 25,Y 26,Y 27,Y 28,Y 29,Y 30,Y 31,Y 32,Y 33,Y 34,Y 35,Y 36,Y 37,Y 38,Y 39,Y 40,U,.tuple #[iJ ks,bT],uJ k0,.agg #[uJ h,iJ p],.agg #[uJ j,iJ q],iJ e,pX qw4.heap.size 3,uJ s.ak,uJ (cok s),.tuple #[iJ ks,bT],iJ ks,bT,U,U,U,U,U,U,U,U,U,U,U,U,U,U,U,U,U,U,U,U,U,U,U,U,U,U,U,U,U,U,U,U,U,U,U,U,U,U,U]) (fun Y=>?_)
       generalize (.tuple #[.int .i64 ks,.bool true]:Value)=qz15
       generalize (.agg #[.int .u32 h,.int .i64 p]:Value)=qz16
       generalize (.agg #[.int .u32 j,.int .i64 q]:Value)=qz17
       go_upto_region 4 with (fail)
       refine vR ?_
       refine vV (bT) ?_
       refine vV (bF) ?_
       refine vZ (fun Y=>#[Y 0,Y 1,Y 2,Y 3,Y 4,iJ room,iJ now,U,Y 8,Y 9,U,pX qw4.heap.size 0,U,U,pX qw7.heap.size 0,bF,Y 16,Y 17,U,U,U,Y 21,Y 22,Y 23,Y 24,Y 25,Y 26,Y 27,Y 28,Y 29,Y 30,Y 31,Y 32,Y 33,Y 34,Y 35,Y 36,Y 37,Y 38,Y 39,Y 40,U,Y 42,Y 43,Y 44,Y 45,Y 46,Y 47,Y 48,Y 49,Y 50,Y 51,Y 52,bT,bF,U,U,U,U,U,U,U,U,U,U,U,U,U,U,U,U,U,U,U,U,U,U,U,U,U,U,U,U,U,U,U,U,U,U,U,U,U]) (fun Y=>?_)
       go_upto_region 6 with (fail)
       refine vR ?_
       refine vV (pX qw4.heap.size 2) ?_
       refine vD (uJ s.sq) (qB8.cell 2) ?_
       refine vV (uJ ((s.sq - 1) % 4294967296)) ?_
       refine vV (pX qw4.heap.size 5) ?_
       refine vD (iJ s.wn) (qB8.cell 5) ?_
       refine vV (.agg (sgCells (askS s))) ?_
       refine vV (pX qw4.heap.size 3) ?_
       refine vD (uJ s.ak) (qB8.cell 3) ?_
       refine vV (uJ (cok s)) ?_
       refine vV (iJ room) ?_
       refine vV (iJ now) ?_
       refine vK (hh _) ?_
       intro qw18 qg19
       replace qB2:=qB2.since qg19
       replace qB5:=qB5.since qg19
       replace qB8:=qB8.since qg19
       replace qB11:=qB11.since qg19
       replace G:=G.trans qg19
       have qg19_s:=qg19.size
       refine vV (.tuple #[.agg (cnCells cnZero),.agg (sgCells sgZero),bF]) ?_
       refine vV (.agg (cnCells cnZero)) ?_
       refine vV (.agg (sgCells sgZero)) ?_
       refine vV (bF) ?_
       refine vW (qw18.alloc (.cells (cnCells cnZero) 39)) (pX qw18.heap.size 0) ?_
       have qB21:=Blk.new qw18 (cnCells cnZero) 39
       have qg22:=(Since.refl qw18).alloc (.cells (cnCells cnZero) 39)
       replace qB2:=qB2.since qg22
       replace qB5:=qB5.since qg22
       replace qB8:=qB8.since qg22
       replace qB11:=qB11.since qg22
       replace G:=G.trans qg22
       generalize qw18.alloc (.cells (cnCells cnZero) 39)=qw20 at qB2 qB5 qB8 qB11 G qB21 qg22 ⊢
       have qB21_l:=qB21.lt
       have qg22_s:=qg22.size
       refine vW (qw20.alloc (.cells (sgCells sgZero) 41)) (pX qw20.heap.size 0) ?_
       have qB24:=Blk.new qw20 (sgCells sgZero) 41
       have qg25:=(Since.refl qw20).alloc (.cells (sgCells sgZero) 41)
       replace qB2:=qB2.since qg25
       replace qB5:=qB5.since qg25
       replace qB8:=qB8.since qg25
       replace qB11:=qB11.since qg25
       replace qB21:=qB21.since qg25
       replace G:=G.trans qg25
       generalize qw20.alloc (.cells (sgCells sgZero) 41)=qw23 at qB2 qB5 qB8 qB11 qB21 G qB24 qg25 ⊢
       have qB24_l:=qB24.lt
       have qg25_s:=qg25.size
       refine sB (cnCells cnZero) cn_big qB21 (cn_size _) (cn_size _) (cn_one _) ?_
       intro qw26 qt27 qB28
       clear qB21
       replace qB2:=qB2.touch qt27 (by omega)
       replace qB5:=qB5.touch qt27 (by omega)
       replace qB8:=qB8.touch qt27 (by omega)
       replace qB11:=qB11.touch qt27 (by omega)
       replace qB24:=qB24.touch qt27 (by omega)
       replace G:=since_touch G qt27 (by omega)
       have qt27_s:=qt27.size
       refine sB (sgCells sgZero) seg_big qB24 rfl rfl (seg_one _ _ _ _ _ _ _ _) ?_
       intro qw29 qt30 qB31
       clear qB24
       replace qB2:=qB2.touch qt30 (by omega)
       replace qB5:=qB5.touch qt30 (by omega)
       replace qB8:=qB8.touch qt30 (by omega)
       replace qB11:=qB11.touch qt30 (by omega)
       replace qB28:=qB28.touch qt30 (by omega)
       replace G:=since_touch G qt30 (by omega)
       have qt30_s:=qt30.size
       refine vV (bF) ?_
       refine vZ (fun Y=>#[Y 0,Y 1,Y 2,Y 3,Y 4,Y 5,Y 6,U,Y 8,Y 9,U,pX qw4.heap.size 0,U,U,pX qw7.heap.size 0,bF,Y 16,Y 17,pX qw18.heap.size 0,pX qw20.heap.size 0,bF,Y 21,Y 22,Y 23,Y 24,Y 25,Y 26,Y 27,Y 28,Y 29,Y 30,Y 31,Y 32,Y 33,Y 34,Y 35,Y 36,Y 37,Y 38,Y 39,Y 40,U,Y 42,Y 43,Y 44,Y 45,Y 46,Y 47,Y 48,Y 49,Y 50,Y 51,Y 52,Y 53,Y 54,U,.tuple #[.agg (cnCells cnZero),.agg (sgCells sgZero),bF],pX qw4.heap.size 2,uJ s.sq,uJ ((s.sq - 1) % 4294967296),pX qw4.heap.size 5,iJ s.wn,.agg (sgCells (askS s)),pX qw4.heap.size 3,uJ s.ak,uJ (cok s),iJ room,iJ now,.tuple #[.agg (cnCells cnZero),.agg (sgCells sgZero),bF],.agg (cnCells cnZero),.agg (sgCells sgZero),bF,U,U,U,U,U,U,U,U,U,U,U,U,U,U,U,U,U,U,U,U]) (fun Y=>?_)
       generalize (.tuple #[.agg (cnCells cnZero),.agg (sgCells sgZero),.bool false]:Value)=qz32
       go_upto_region 7 with (fail)
       refine vR ?_
       refine vV (bF) ?_
       refine vV (bT) ?_
       refine vZ (fun Y=>#[Y 0,Y 1,Y 2,Y 3,Y 4,Y 5,Y 6,U,Y 8,Y 9,U,pX qw4.heap.size 0,U,U,pX qw7.heap.size 0,bF,Y 16,Y 17,pX qw18.heap.size 0,Y 19,Y 20,Y 21,Y 22,Y 23,Y 24,Y 25,Y 26,Y 27,Y 28,Y 29,Y 30,Y 31,Y 32,Y 33,Y 34,Y 35,Y 36,Y 37,Y 38,Y 39,Y 40,U,Y 42,Y 43,Y 44,Y 45,Y 46,Y 47,Y 48,Y 49,Y 50,Y 51,Y 52,Y 53,Y 54,U,Y 56,Y 57,Y 58,Y 59,Y 60,Y 61,Y 62,Y 63,Y 64,Y 65,Y 66,Y 67,Y 68,Y 69,Y 70,Y 71,bF,bT,U,U,U,U,U,U,U,U,U,U,U,U,U,U,U,U,U,U]) (fun Y=>?_)
       go_upto_region 8 with (fail)
       refine vR ?_
       refine vV (.agg (cnCells cnZero)) ?_
       refine sB (cnCells cnZero) cn_big qB11 (cn_size _) (cn_size _) (cn_one _) ?_
       intro qw33 qt34 qB35
       clear qB11
       replace qB2:=qB2.touch qt34 (by omega)
       replace qB5:=qB5.touch qt34 (by omega)
       replace qB8:=qB8.touch qt34 (by omega)
       replace qB28:=qB28.touch qt34 (by omega)
       replace qB31:=qB31.touch qt34 (by omega)
       replace G:=since_touch G qt34 (by omega)
       have qt34_s:=qt34.size
       refine vV (bF) ?_
       refine vZ (fun Y=>#[Y 0,Y 1,Y 2,Y 3,Y 4,Y 5,Y 6,U,Y 8,Y 9,U,pX qw4.heap.size 0,U,U,pX qw7.heap.size 0,bF,Y 16,Y 17,pX qw18.heap.size 0,Y 19,Y 20,Y 21,Y 22,Y 23,Y 24,Y 25,Y 26,Y 27,Y 28,Y 29,Y 30,Y 31,Y 32,Y 33,Y 34,Y 35,Y 36,Y 37,Y 38,Y 39,Y 40,U,Y 42,Y 43,Y 44,Y 45,Y 46,Y 47,Y 48,Y 49,Y 50,Y 51,Y 52,Y 53,Y 54,U,Y 56,Y 57,Y 58,Y 59,Y 60,Y 61,Y 62,Y 63,Y 64,Y 65,Y 66,Y 67,Y 68,Y 69,Y 70,Y 71,Y 72,Y 73,.agg (cnCells cnZero),U,U,U,U,U,U,U,U,U,U,U,U,U,U,U,U,U]) (fun Y=>?_)
       go_wp2_with (fail)
       exact bodyPost_ret (v:=.tuple #[.agg (cnCells cnZero),.bool false]) (results_cn2 (t:=14) (u:=15) rfl _ rfl qB35) rfl ⟨by rw [hV.out,tak_no (by unfold takOk;simp [c5])],G⟩
    ·rw [c3] at hf4
     replace c3:Hid _:=c3
     refine vR ?_
     refine vV (pX qw4.heap.size 4) ?_
     refine vD (iJ s.fl) (qB8.cell 4) ?_
     refine vC (hin _) ?_
     rintro _ _ ⟨rfl,rfl⟩
     refine ⟨_,rfl,?_⟩
     refine vV (bF) ?_
     refine vV (bF) ?_
     refine vV (pX qw4.heap.size 4) ?_
     refine vD (iJ s.fl) (qB8.cell 4) ?_
     refine vC (hf16 _) ?_
     rintro _ _ ⟨rfl,rfl⟩
     refine ⟨_,rfl,?_⟩
     refine vV (bF) ?_
     refine vV (bF) ?_
     refine vV (bF) ?_
     refine vV (pX qw4.heap.size 4) ?_
     refine vD (iJ s.fl) (qB8.cell 4) ?_
     refine vC (hf2 _) ?_
     rintro _ _ ⟨rfl,rfl⟩
     refine ⟨_,rfl,?_⟩
     refine vV (bF) ?_
     refine vV (bF) ?_
     refine vV (pX qw4.heap.size 4) ?_
     refine vD (iJ s.fl) (qB8.cell 4) ?_
     refine vC (hf4 _) ?_
     rintro _ _ ⟨rfl,rfl⟩
     refine ⟨_,rfl,?_⟩
     refine vV (bT) ?_
     refine vE #[uJ k0,.agg #[uJ h,iJ p],.agg #[uJ j,iJ q],iJ e,.agg (sgCells s),iJ room,iJ now,U,pX w.heap.size 0,pX qw1.heap.size 0,U,pX qw4.heap.size 0,U,U,pX qw7.heap.size 0,bF,U,U,U,U,U,pX qw4.heap.size 4,iJ s.fl,bT,bF,bF,pX qw4.heap.size 4,iJ s.fl,bT,bF,bF,bF,pX qw4.heap.size 4,iJ s.fl,bF,bF,bF,pX qw4.heap.size 4,iJ s.fl,bT,bT,U,U,U,U,U,U,U,U,U,U,U,U,U,U,U,U,U,U,U,U,U,U,U,U,U,U,U,U,U,U,U,U,U,U,U,U,U,U,U,U,U,U,U,U,U,U,U,U,U,U,U] ?_
     go_upto_region 2 with (fail)
     refine vR ?_
     refine vV (.agg (cnCells cnZero)) ?_
     refine sB (cnCells cnZero) cn_big qB11 (cn_size _) (cn_size _) (cn_one _) ?_
     intro qw13 qt14 qB15
     clear qB11
     replace qB2:=qB2.touch qt14 (by omega)
     replace qB5:=qB5.touch qt14 (by omega)
     replace qB8:=qB8.touch qt14 (by omega)
     replace G:=since_touch G qt14 (by omega)
     have qt14_s:=qt14.size
     refine vV (bF) ?_
     refine vZ (fun Y=>#[uJ k0,Y 1,Y 2,iJ e,Y 4,iJ room,iJ now,U,pX w.heap.size 0,pX qw1.heap.size 0,U,pX qw4.heap.size 0,U,U,pX qw7.heap.size 0,bF,U,U,U,U,U,Y 21,Y 22,Y 23,Y 24,Y 25,Y 26,Y 27,Y 28,Y 29,Y 30,Y 31,Y 32,Y 33,Y 34,Y 35,Y 36,Y 37,Y 38,Y 39,Y 40,.agg (cnCells cnZero),U,U,U,U,U,U,U,U,U,U,U,U,U,U,U,U,U,U,U,U,U,U,U,U,U,U,U,U,U,U,U,U,U,U,U,U,U,U,U,U,U,U,U,U,U,U,U,U,U,U]) (fun Y=>?_)
     go_wp2_with (fail)
     exact bodyPost_ret (v:=.tuple #[.agg (cnCells cnZero),.bool false]) (results_cn2 (t:=14) (u:=15) rfl _ rfl qB15) rfl ⟨by rw [hV.out,tak_no (by unfold takOk goesOn;rw [c3.out];simp)],G⟩
   ·rw [c2] at hf2
    replace c2:Hid _:=c2
    refine vR ?_
    refine vV (pX qw4.heap.size 4) ?_
    refine vD (iJ s.fl) (qB8.cell 4) ?_
    refine vC (hin _) ?_
    rintro _ _ ⟨rfl,rfl⟩
    refine ⟨_,rfl,?_⟩
    refine vV (bF) ?_
    refine vV (bF) ?_
    refine vV (pX qw4.heap.size 4) ?_
    refine vD (iJ s.fl) (qB8.cell 4) ?_
    refine vC (hf16 _) ?_
    rintro _ _ ⟨rfl,rfl⟩
    refine ⟨_,rfl,?_⟩
    refine vV (bF) ?_
    refine vV (bF) ?_
    refine vV (bF) ?_
    refine vV (pX qw4.heap.size 4) ?_
    refine vD (iJ s.fl) (qB8.cell 4) ?_
    refine vC (hf2 _) ?_
    rintro _ _ ⟨rfl,rfl⟩
    refine ⟨_,rfl,?_⟩
    refine vV (bT) ?_
    refine vV (bT) ?_
    refine vS ?_
    refine vS ?_
    refine vS ?_
    refine vV (bT) ?_
    refine vE #[uJ k0,.agg #[uJ h,iJ p],.agg #[uJ j,iJ q],iJ e,.agg (sgCells s),iJ room,iJ now,U,pX w.heap.size 0,pX qw1.heap.size 0,U,pX qw4.heap.size 0,U,U,pX qw7.heap.size 0,bF,U,U,U,U,U,pX qw4.heap.size 4,iJ s.fl,bT,bF,bF,pX qw4.heap.size 4,iJ s.fl,bT,bF,bF,bF,pX qw4.heap.size 4,iJ s.fl,bT,bT,bT,U,U,U,bT,U,U,U,U,U,U,U,U,U,U,U,U,U,U,U,U,U,U,U,U,U,U,U,U,U,U,U,U,U,U,U,U,U,U,U,U,U,U,U,U,U,U,U,U,U,U,U,U,U,U,U] ?_
    go_upto_region 2 with (fail)
    refine vR ?_
    refine vV (.agg (cnCells cnZero)) ?_
    refine sB (cnCells cnZero) cn_big qB11 (cn_size _) (cn_size _) (cn_one _) ?_
    intro qw13 qt14 qB15
    clear qB11
    replace qB2:=qB2.touch qt14 (by omega)
    replace qB5:=qB5.touch qt14 (by omega)
    replace qB8:=qB8.touch qt14 (by omega)
    replace G:=since_touch G qt14 (by omega)
    have qt14_s:=qt14.size
    refine vV (bF) ?_
    refine vZ (fun Y=>#[uJ k0,Y 1,Y 2,iJ e,Y 4,iJ room,iJ now,U,pX w.heap.size 0,pX qw1.heap.size 0,U,pX qw4.heap.size 0,U,U,pX qw7.heap.size 0,bF,U,U,U,U,U,Y 21,Y 22,Y 23,Y 24,Y 25,Y 26,Y 27,Y 28,Y 29,Y 30,Y 31,Y 32,Y 33,Y 34,Y 35,Y 36,U,U,U,Y 40,.agg (cnCells cnZero),U,U,U,U,U,U,U,U,U,U,U,U,U,U,U,U,U,U,U,U,U,U,U,U,U,U,U,U,U,U,U,U,U,U,U,U,U,U,U,U,U,U,U,U,U,U,U,U,U,U]) (fun Y=>?_)
    go_wp2_with (fail)
    exact bodyPost_ret (v:=.tuple #[.agg (cnCells cnZero),.bool false]) (results_cn2 (t:=14) (u:=15) rfl _ rfl qB15) rfl ⟨by rw [hV.out,tak_no (by unfold takOk goesOn;rw [c2.out];simp)],G⟩
 ·rw [decide_eq_false c0] at hin
  refine vR ?_
  refine vV (pX qw4.heap.size 4) ?_
  refine vD (iJ s.fl) (qB8.cell 4) ?_
  refine vC (hin _) ?_
  rintro _ _ ⟨rfl,rfl⟩
  refine ⟨_,rfl,?_⟩
  refine vV (bT) ?_
  refine vV (bT) ?_
  refine vS ?_
  refine vS ?_
  refine vS ?_
  refine vS ?_
  refine vV (bT) ?_
  refine vV (bT) ?_
  refine vS ?_
  refine vS ?_
  refine vS ?_
  refine vV (bT) ?_
  refine vV (bT) ?_
  refine vS ?_
  refine vS ?_
  refine vS ?_
  refine vV (bT) ?_
  refine vE #[uJ k0,.agg #[uJ h,iJ p],.agg #[uJ j,iJ q],iJ e,.agg (sgCells s),iJ room,iJ now,U,pX w.heap.size 0,pX qw1.heap.size 0,U,pX qw4.heap.size 0,U,U,pX qw7.heap.size 0,bF,U,U,U,U,U,pX qw4.heap.size 4,iJ s.fl,bF,bT,bT,U,U,U,U,bT,bT,U,U,U,bT,bT,U,U,U,bT,U,U,U,U,U,U,U,U,U,U,U,U,U,U,U,U,U,U,U,U,U,U,U,U,U,U,U,U,U,U,U,U,U,U,U,U,U,U,U,U,U,U,U,U,U,U,U,U,U,U,U] ?_
  go_upto_region 2 with (fail)
  refine vR ?_
  refine vV (.agg (cnCells cnZero)) ?_
  refine sB (cnCells cnZero) cn_big qB11 (cn_size _) (cn_size _) (cn_one _) ?_
  intro qw13 qt14 qB15
  clear qB11
  replace qB2:=qB2.touch qt14 (by omega)
  replace qB5:=qB5.touch qt14 (by omega)
  replace qB8:=qB8.touch qt14 (by omega)
  replace G:=since_touch G qt14 (by omega)
  have qt14_s:=qt14.size
  refine vV (bF) ?_
  refine vZ (fun Y=>#[uJ k0,Y 1,Y 2,iJ e,Y 4,iJ room,iJ now,U,pX w.heap.size 0,pX qw1.heap.size 0,U,pX qw4.heap.size 0,U,U,pX qw7.heap.size 0,bF,U,U,U,U,U,Y 21,Y 22,Y 23,Y 24,Y 25,U,U,U,U,Y 30,Y 31,U,U,U,Y 35,Y 36,U,U,U,Y 40,.agg (cnCells cnZero),U,U,U,U,U,U,U,U,U,U,U,U,U,U,U,U,U,U,U,U,U,U,U,U,U,U,U,U,U,U,U,U,U,U,U,U,U,U,U,U,U,U,U,U,U,U,U,U,U,U]) (fun Y=>?_)
  go_wp2_with (fail)
  exact bodyPost_ret (v:=.tuple #[.agg (cnCells cnZero),.bool false]) (results_cn2 (t:=14) (u:=15) rfl _ rfl qB15) rfl ⟨by rw [hV.out,tak_no (by unfold takOk goesOn;rw [decide_eq_false c0];rfl)],G⟩
end Go.Proofs.YtmigalhmlofbkaaGreatDoor
