/- A part of the proof. -/
import Derived.Test.YtmigalhmlofbkaaGreatDoorM47
set_option linter.unusedVariables false
set_option maxRecDepth 20000
set_option maxHeartbeats 8000000
namespace Go.Proofs.YtmigalhmlofbkaaGreatDoor
open Go.ChangeShapes Go.WideShapes Go.ChangeAt Go.RowKit
theorem implConnSend (c:Cn) (ps:List (Int×ByteArray)) (now:Int) (gc:GoodC c ps) (w:World) (R:Rd shP w c.pa c.pn ps) :
  Calls Tryz.prog 11 #[.agg (cnCells c),.int .i64 now] w fun e w'=>∃ g ga m ca,e=.returned (.tuple #[.agg (cnCells {sentC c ps now with pa:=some ⟨g,0,none⟩,pc:=c.pn}),.slice (some ⟨ga,0,none⟩) m ca])∧Held shP w' w.heap.size g c.pn c.pn ps∧Held shG w' w.heap.size ga m ca (sentS c ps now)∧ga≠g∧Since w w':=by
 have hao:=fun wx Rx=>implActOf c ps now gc wx Rx
 have hk:=fun wx Rx=>implConnOk c ps gc wx Rx
 have ht:=fun wx=>isTickS now wx
 unfold cnVal at hk
 obtain ⟨q,hq⟩:∃ q,Hid (q=connOk c ps):=⟨_,rfl⟩
 rw [← hq.out] at hk
 obtain ⟨D,hD⟩:∃ q,Hid (q=sentC c ps now):=⟨_,rfl⟩
 obtain ⟨XS,hXS⟩:∃ q,Hid (q=sentS c ps now):=⟨_,rfl⟩
 rw [← hD.out,← hXS.out]
 go_enter Tryz.func11,Tryz.ntmps11
 go_upto_region 1 with (fail)
 rw [cn_zero]
 have G:=((Since.refl w).alloc (.cells (cnCells c) 39)).alloc (.cells (cnCells cnZero) 39)
 have A:=(Blk.new w (cnCells c) 39).since ((Since.refl _).alloc (.cells (cnCells cnZero) 39))
 have Z:=Blk.new (w.alloc (.cells (cnCells c) 39)) (cnCells cnZero) 39
 rw [World.size_alloc] at Z
 generalize (w.alloc (.cells (cnCells c) 39)).alloc (.cells (cnCells cnZero) 39)=x0 at A Z G ⊢
 have hZ:=Z.lt
 refine vR ?_
 refine vB cn_big A (cn_size _) ?_
 refine vV (iJ now) ?_
 refine vC (hao _ (R.since G)) ?_
 rintro _ qw1 ⟨g,pg,gs,rfl,⟨A1,L1,P1,pa1,lo1,i1,j1,l1⟩,qg2⟩
 refine ⟨_,rfl,?_⟩
 replace A:=A.since qg2
 replace Z:=Z.since qg2
 replace G:=G.trans qg2
 have qg2_s:=qg2.size
 have A1_l:=A1.lt
 have L1_l:=L1.lt
 have L1_o:=L1.low'
 have P1_l:=P1.lt
 have P1_o:=P1.low'
 refine vV (pX g 0) ?_
 refine vE #[.agg (cnCells c),iJ now,pX w.heap.size 0,U,pX (w.heap.size+1) 0,.slice none 0 0,pX g 0,.agg (cnCells c),iJ now,pX g 0,U,U,U,U,U,U,U,U,U,U,U,U,U,U,U,U] ?_
 go_upto_region 2 with (fail)
 cases q
 case false=>
  refine vR ?_
  refine vB cn_big A (cn_size _) ?_
  refine vK (hk _ (R.since G)) ?_
  intro qw3 qg4
  replace A:=A.since qg4
  replace Z:=Z.since qg4
  replace A1:=A1.since qg4
  replace L1:=L1.since qg4
  replace P1:=P1.since qg4
  replace G:=G.trans qg4
  have qg4_s:=qg4.size
  refine vV (bF) ?_
  refine vS ?_
  refine vS ?_
  refine vV (bF) ?_
  refine vE #[.agg (cnCells c),iJ now,pX w.heap.size 0,U,pX (w.heap.size+1) 0,.slice none 0 0,pX g 0,.agg (cnCells c),iJ now,pX g 0,.agg (cnCells c),bF,bF,U,U,bF,U,U,U,U,U,U,U,U,U,U] ?_
  have eD:Hid (D=c):=hD.out.trans (by unfold sentC sendOk;rw [← hq.out];rfl)
  have eS:Hid (XS=[]):=hXS.out.trans (by unfold sentS sendOk;rw [← hq.out];rfl)
  go_upto_region 4 with (fail)
  have hRz:Raw (w.heap.size+1) (cnCells {c with pa:=some ⟨pg,0,none⟩,pc:=c.pn}).size qw3:=⟨cnCells cnZero,rfl,Z⟩
  refine wp_region_keep (wb:=qw3) (w.heap.size+1) (cnCells {c with pa:=some ⟨pg,0,none⟩,pc:=c.pn}) (fun i x v=>match i with
    | 0=>v=.pointer (some ⟨g,0,none⟩)
    | 1=>v=.pointer (some ⟨g,0,none⟩)
    | 2=>v=.pointer (some ⟨g,0,none⟩)
    | 3=>v=.agg (cnCells {c with pa:=some ⟨pg,0,none⟩,pc:=c.pn})
    | 4=>v=.pointer (some ⟨g,0,none⟩)
    | 5=>v=.pointer (some ⟨g,0,none⟩)
    | 6=>v=.pointer (some ⟨g,38,none⟩)
    | 7=>v=.slice (some ⟨gs,0,none⟩) 0 0
    | 9=>v=.slice (some ⟨gs,0,none⟩) 0 0
    | 8=>Blk (w.heap.size+1) x (cnCells {c with pa:=some ⟨pg,0,none⟩,pc:=c.pn})
    | _=>True) (fun v=>{tmps:=#[.agg (cnCells c),iJ now,pX w.heap.size 0,U,pX (w.heap.size+1) 0,v 9,pX g 0,.agg (cnCells c),iJ now,pX g 0,.agg (cnCells c),bF,bF,U,U,bF,U,U,v 0,v 1,v 2,v 3,v 4,v 5,v 6,v 7],defers:=[]}) (by kernel_rfl) (by kernel_rfl) (by kernel_rfl) (KeepB.refl _ _ _) ?_ (fun vals=>by kernel_rfl) ?_ ?_
  case refine_1=>
   intro j x y v h1 h2
   match j,h2 with
   | 8,h2=>exact h1.done h2
   | 0,h2|1,h2|2,h2|3,h2|4,h2|5,h2|6,h2|7,h2|9,h2=>exact h2
   | n+10,_=>trivial
  case refine_2=>
   repeat (first|exact eachDoesR_nil|refine eachDoesR_cons ?_ ?_)
   all_goals intro vals x hx hv
   all_goals simp [Region.binds] at hv
   ·simp [does,doesUpon,go_sem,hv,KeepB.refl]
   ·refine does_store cn_big (cn_size _) (hx.raw hRz) (cn_one _) _ _ rfl rfl hv.1 ?_
    intro z t B
    exact ⟨keep_of t B,B⟩
   ·have fl0:x.cell? ⟨g,38,none⟩=some (.slice (some ⟨gs,0,none⟩) 0 0):=(A1.touch hx.touch (by omega)).cell 38
    simp [does,doesUpon,go_sem,hv,fl0,KeepB.refl]
   ·simp [does,doesUpon,go_sem,hv,KeepB.refl]
   ·simp [does,doesUpon,go_sem,hv,KeepB.refl]
   ·simp [does,doesUpon,go_sem,KeepB.refl]
   ·exact does_end (A1.touch hx.touch (by omega)) _ rfl hv ⟨KeepB.refl _ _ _,rfl⟩
   ·simp [does,doesUpon,go_sem,hv,KeepB.refl]
   ·simp [does,doesUpon,go_sem,hv,KeepB.refl]
   ·simp [does,doesUpon,go_sem,KeepB.refl]
  case refine_3=>
   intro vals y hx hv
   have Zb:Blk (w.heap.size+1) y (cnCells {c with pa:=some ⟨pg,0,none⟩,pc:=c.pn}):=hv 8 (by decide)
   have hv0:vals 0=_:=hv 0 (by decide)
   have hv1:vals 1=_:=hv 1 (by decide)
   have hv2:vals 2=_:=hv 2 (by decide)
   have hv3:vals 3=_:=hv 3 (by decide)
   have hv4:vals 4=_:=hv 4 (by decide)
   have hv5:vals 5=_:=hv 5 (by decide)
   have hv6:vals 6=_:=hv 6 (by decide)
   have hv7:vals 7=_:=hv 7 (by decide)
   have hv9:vals 9=_:=hv 9 (by decide)
   clear hv
   simp only [hv0,hv1,hv2,hv3,hv4,hv5,hv6,hv7,hv9]
   have hT:=hx.touch
   replace L1:=L1.touch hT (by omega)
   replace P1:=P1.touch hT (by omega)
   replace G:=since_touch G hT (by omega)
   clear hv0 hv1 hv2 hv3 hv4 hv5 hv6 hv7 hv9
   go_wp2_with (fail)
   refine bodyPost_ret (results_cn2 (t:=4) (u:=5) rfl _ rfl Zb) rfl ⟨pg,gs,0,0,?_,P1.raise (by omega),?_,by omega,G⟩
   ·rw [eD.out];rfl
   ·rw [eS.out];exact L1.raise (by omega)
 case true=>
  by_cases hn:0≤now∧now≤1000000000
  case neg=>
   rw [decide_eq_false hn] at ht
   refine vR ?_
   refine vB cn_big A (cn_size _) ?_
   refine vK (hk _ (R.since G)) ?_
   intro qw3 qg4
   replace A:=A.since qg4
   replace Z:=Z.since qg4
   replace A1:=A1.since qg4
   replace L1:=L1.since qg4
   replace P1:=P1.since qg4
   replace G:=G.trans qg4
   have qg4_s:=qg4.size
   refine vV (bT) ?_
   refine vV (iJ now) ?_
   refine vC (ht _) ?_
   rintro _ _ ⟨rfl,rfl⟩
   refine ⟨_,rfl,?_⟩
   refine vV (bF) ?_
   refine vE #[.agg (cnCells c),iJ now,pX w.heap.size 0,U,pX (w.heap.size+1) 0,.slice none 0 0,pX g 0,.agg (cnCells c),iJ now,pX g 0,.agg (cnCells c),bT,bT,iJ now,bF,bF,U,U,U,U,U,U,U,U,U,U] ?_
   have eD:Hid (D=c):=hD.out.trans (by unfold sentC sendOk;rw [← hq.out,decide_eq_false hn];rfl)
   have eS:Hid (XS=[]):=hXS.out.trans (by unfold sentS sendOk;rw [← hq.out,decide_eq_false hn];rfl)
   go_upto_region 4 with (fail)
   have hRz:Raw (w.heap.size+1) (cnCells {c with pa:=some ⟨pg,0,none⟩,pc:=c.pn}).size qw3:=⟨cnCells cnZero,rfl,Z⟩
   refine wp_region_keep (wb:=qw3) (w.heap.size+1) (cnCells {c with pa:=some ⟨pg,0,none⟩,pc:=c.pn}) (fun i x v=>match i with
     | 0=>v=.pointer (some ⟨g,0,none⟩)
     | 1=>v=.pointer (some ⟨g,0,none⟩)
     | 2=>v=.pointer (some ⟨g,0,none⟩)
     | 3=>v=.agg (cnCells {c with pa:=some ⟨pg,0,none⟩,pc:=c.pn})
     | 4=>v=.pointer (some ⟨g,0,none⟩)
     | 5=>v=.pointer (some ⟨g,0,none⟩)
     | 6=>v=.pointer (some ⟨g,38,none⟩)
     | 7=>v=.slice (some ⟨gs,0,none⟩) 0 0
     | 9=>v=.slice (some ⟨gs,0,none⟩) 0 0
     | 8=>Blk (w.heap.size+1) x (cnCells {c with pa:=some ⟨pg,0,none⟩,pc:=c.pn})
     | _=>True) (fun v=>{tmps:=#[.agg (cnCells c),iJ now,pX w.heap.size 0,U,pX (w.heap.size+1) 0,v 9,pX g 0,.agg (cnCells c),iJ now,pX g 0,.agg (cnCells c),bT,bT,iJ now,bF,bF,U,U,v 0,v 1,v 2,v 3,v 4,v 5,v 6,v 7],defers:=[]}) (by kernel_rfl) (by kernel_rfl) (by kernel_rfl) (KeepB.refl _ _ _) ?_ (fun vals=>by kernel_rfl) ?_ ?_
   case refine_1=>
    intro j x y v h1 h2
    match j,h2 with
    | 8,h2=>exact h1.done h2
    | 0,h2|1,h2|2,h2|3,h2|4,h2|5,h2|6,h2|7,h2|9,h2=>exact h2
    | n+10,_=>trivial
   case refine_2=>
    repeat (first|exact eachDoesR_nil|refine eachDoesR_cons ?_ ?_)
    all_goals intro vals x hx hv
    all_goals simp [Region.binds] at hv
    ·simp [does,doesUpon,go_sem,hv,KeepB.refl]
    ·refine does_store cn_big (cn_size _) (hx.raw hRz) (cn_one _) _ _ rfl rfl hv.1 ?_
     intro z t B
     exact ⟨keep_of t B,B⟩
    ·have fl0:x.cell? ⟨g,38,none⟩=some (.slice (some ⟨gs,0,none⟩) 0 0):=(A1.touch hx.touch (by omega)).cell 38
     simp [does,doesUpon,go_sem,hv,fl0,KeepB.refl]
    ·simp [does,doesUpon,go_sem,hv,KeepB.refl]
    ·simp [does,doesUpon,go_sem,hv,KeepB.refl]
    ·simp [does,doesUpon,go_sem,KeepB.refl]
    ·exact does_end (A1.touch hx.touch (by omega)) _ rfl hv ⟨KeepB.refl _ _ _,rfl⟩
    ·simp [does,doesUpon,go_sem,hv,KeepB.refl]
    ·simp [does,doesUpon,go_sem,hv,KeepB.refl]
    ·simp [does,doesUpon,go_sem,KeepB.refl]
   case refine_3=>
    intro vals y hx hv
    have Zb:Blk (w.heap.size+1) y (cnCells {c with pa:=some ⟨pg,0,none⟩,pc:=c.pn}):=hv 8 (by decide)
    have hv0:vals 0=_:=hv 0 (by decide)
    have hv1:vals 1=_:=hv 1 (by decide)
    have hv2:vals 2=_:=hv 2 (by decide)
    have hv3:vals 3=_:=hv 3 (by decide)
    have hv4:vals 4=_:=hv 4 (by decide)
    have hv5:vals 5=_:=hv 5 (by decide)
    have hv6:vals 6=_:=hv 6 (by decide)
    have hv7:vals 7=_:=hv 7 (by decide)
    have hv9:vals 9=_:=hv 9 (by decide)
    clear hv
    simp only [hv0,hv1,hv2,hv3,hv4,hv5,hv6,hv7,hv9]
    have hT:=hx.touch
    replace L1:=L1.touch hT (by omega)
    replace P1:=P1.touch hT (by omega)
    replace G:=since_touch G hT (by omega)
    clear hv0 hv1 hv2 hv3 hv4 hv5 hv6 hv7 hv9
    go_wp2_with (fail)
    refine bodyPost_ret (results_cn2 (t:=4) (u:=5) rfl _ rfl Zb) rfl ⟨pg,gs,0,0,?_,P1.raise (by omega),?_,by omega,G⟩
    ·rw [eD.out];rfl
    ·rw [eS.out];exact L1.raise (by omega)
  case pos=>
   rw [decide_eq_true hn] at ht
   refine vR ?_
   refine vB cn_big A (cn_size _) ?_
   refine vK (hk _ (R.since G)) ?_
   intro qw3 qg4
   replace A:=A.since qg4
   replace Z:=Z.since qg4
   replace A1:=A1.since qg4
   replace L1:=L1.since qg4
   replace P1:=P1.since qg4
   replace G:=G.trans qg4
   have qg4_s:=qg4.size
   refine vV (bT) ?_
   refine vV (iJ now) ?_
   refine vC (ht _) ?_
   rintro _ _ ⟨rfl,rfl⟩
   refine ⟨_,rfl,?_⟩
   refine vV (bT) ?_
   refine vE #[.agg (cnCells c),iJ now,pX w.heap.size 0,U,pX (w.heap.size+1) 0,.slice none 0 0,pX g 0,.agg (cnCells c),iJ now,pX g 0,.agg (cnCells c),bT,bT,iJ now,bT,bT,U,U,U,U,U,U,U,U,U,U] ?_
   go_upto_region 3 with (fail)
   refine vR ?_
   refine vV (pX g 0) ?_
   refine vC (implSend _ _ _ _ _ _ _ _ _ _ hn.1 hn.2 (mayS_of gc hq.out.symm _ _) (by simp) _ ⟨A1,L1,P1,pa1,lo1,(by omega),(by omega),(by omega)⟩) ?_
   rintro _ qw5 ⟨rfl,⟨gsqk7,nqk7,cqk7,⟨Aqk7,Lqk7,Pqk7,paqk7,loqk7,iqk7,jqk7,lqk7⟩⟩,qh6⟩
   refine ⟨_,rfl,?_⟩
   clear A1 L1 P1
   replace A:=qh6.blk A (by omega)
   replace Z:=qh6.blk Z (by omega)
   replace G:=since_base G qh6 (by omega)
   have qh6_s:=qh6.size
   have Aqk7_l:=Aqk7.lt
   have Lqk7_l:=Lqk7.lt
   have Lqk7_o:=Lqk7.low'
   have Pqk7_l:=Pqk7.lt
   refine vE #[.agg (cnCells c),iJ now,pX w.heap.size 0,U,pX (w.heap.size+1) 0,.slice none 0 0,pX g 0,.agg (cnCells c),iJ now,pX g 0,.agg (cnCells c),bT,bT,iJ now,bT,bT,pX g 0,.tuple #[],U,U,U,U,U,U,U,U] ?_
   rw [sends_at] at Aqk7 Lqk7 Pqk7 paqk7
   have eD:D=(sendX c ps now []).1:=hD.out.trans (by unfold sentC sendOk;rw [← hq.out,decide_eq_true hn];rfl)
   have eS:XS=(sendX c ps now []).2:=hXS.out.trans (by unfold sentS sendOk;rw [← hq.out,decide_eq_true hn];rfl)
   rw [← eD] at Aqk7 Pqk7 paqk7
   rw [← eS] at Lqk7
   have hpn:Hid (D.pn=c.pn):=by show D.pn=c.pn;rw [eD];exact sendX_pn c ps now []
   replace eD:Hid _:=eD
   replace eS:Hid _:=eS
   go_upto_region 4 with (fail)
   have hRz:Raw (w.heap.size+1) (cnCells {D with pa:=some ⟨pg,0,none⟩,pc:=c.pn}).size qw5:=⟨cnCells cnZero,rfl,Z⟩
   refine wp_region_keep (wb:=qw5) (w.heap.size+1) (cnCells {D with pa:=some ⟨pg,0,none⟩,pc:=c.pn}) (fun i x v=>match i with
     | 0=>v=.pointer (some ⟨g,0,none⟩)
     | 1=>v=.pointer (some ⟨g,0,none⟩)
     | 2=>v=.pointer (some ⟨g,0,none⟩)
     | 3=>v=.agg (cnCells {D with pa:=some ⟨pg,0,none⟩,pc:=c.pn})
     | 4=>v=.pointer (some ⟨g,0,none⟩)
     | 5=>v=.pointer (some ⟨g,0,none⟩)
     | 6=>v=.pointer (some ⟨g,38,none⟩)
     | 7=>v=.slice (some ⟨gsqk7,0,none⟩) nqk7 cqk7
     | 9=>v=.slice (some ⟨gsqk7,0,none⟩) nqk7 cqk7
     | 8=>Blk (w.heap.size+1) x (cnCells {D with pa:=some ⟨pg,0,none⟩,pc:=c.pn})
     | _=>True) (fun v=>{tmps:=#[.agg (cnCells c),iJ now,pX w.heap.size 0,U,pX (w.heap.size+1) 0,v 9,pX g 0,.agg (cnCells c),iJ now,pX g 0,.agg (cnCells c),bT,bT,iJ now,bT,bT,pX g 0,.tuple #[],v 0,v 1,v 2,v 3,v 4,v 5,v 6,v 7],defers:=[]}) (by kernel_rfl) (by kernel_rfl) (by kernel_rfl) (KeepB.refl _ _ _) ?_ (fun vals=>by kernel_rfl) ?_ ?_
   case refine_1=>
    intro j x y v h1 h2
    match j,h2 with
    | 8,h2=>exact h1.done h2
    | 0,h2|1,h2|2,h2|3,h2|4,h2|5,h2|6,h2|7,h2|9,h2=>exact h2
    | n+10,_=>trivial
   case refine_2=>
    repeat (first|exact eachDoesR_nil|refine eachDoesR_cons ?_ ?_)
    all_goals intro vals x hx hv
    all_goals simp [Region.binds] at hv
    ·simp [does,doesUpon,go_sem,hv,KeepB.refl]
    ·refine does_store cn_big (cn_size _) (hx.raw hRz) (cn_one _) _ _ rfl rfl hv.1 ?_
     intro z t B
     exact ⟨keep_of t B,B⟩
    ·have fl0:x.cell? ⟨g,38,none⟩=some (.slice (some ⟨gsqk7,0,none⟩) nqk7 cqk7):=(Aqk7.touch hx.touch (by omega)).cell 38
     simp [does,doesUpon,go_sem,hv,fl0,KeepB.refl]
    ·simp [does,doesUpon,go_sem,hv,KeepB.refl]
    ·simp [does,doesUpon,go_sem,hv,KeepB.refl]
    ·simp [does,doesUpon,go_sem,KeepB.refl]
    ·exact does_end (Aqk7.touch hx.touch (by omega)) _ rfl hv ⟨KeepB.refl _ _ _,rfl⟩
    ·simp [does,doesUpon,go_sem,hv,KeepB.refl]
    ·simp [does,doesUpon,go_sem,hv,KeepB.refl]
    ·simp [does,doesUpon,go_sem,KeepB.refl]
   case refine_3=>
    intro vals y hx hv
    have Zb:Blk (w.heap.size+1) y (cnCells {D with pa:=some ⟨pg,0,none⟩,pc:=c.pn}):=hv 8 (by decide)
    have hv0:vals 0=_:=hv 0 (by decide)
    have hv1:vals 1=_:=hv 1 (by decide)
    have hv2:vals 2=_:=hv 2 (by decide)
    have hv3:vals 3=_:=hv 3 (by decide)
    have hv4:vals 4=_:=hv 4 (by decide)
    have hv5:vals 5=_:=hv 5 (by decide)
    have hv6:vals 6=_:=hv 6 (by decide)
    have hv7:vals 7=_:=hv 7 (by decide)
    have hv9:vals 9=_:=hv 9 (by decide)
    clear hv
    simp only [hv0,hv1,hv2,hv3,hv4,hv5,hv6,hv7,hv9]
    have hT:=hx.touch
    replace Lqk7:=Lqk7.touch hT (by omega)
    replace Pqk7:=Pqk7.touch hT (by omega)
    replace G:=since_touch G hT (by omega)
    clear hv0 hv1 hv2 hv3 hv4 hv5 hv6 hv7 hv9
    go_wp2_with (fail)
    refine bodyPost_ret (results_cn2 (t:=4) (u:=5) rfl _ rfl Zb) rfl ⟨pg,gsqk7,nqk7,cqk7,?_,(by have h:=Pqk7;rw [show ({D with pa:=some ⟨pg,0,none⟩,pc:=c.pn}:Cn).pn=c.pn from hpn.out] at h;exact h.raise (by omega)),?_,by omega,G⟩
    ·rfl
    ·exact Lqk7.raise (by omega)
theorem connsend_pn (c:Cn) (ps:List (Int×ByteArray)) (now:Int):(sentC c ps now).pn=c.pn:=by
 unfold sentC
 split
 ·exact sendX_pn c ps now []
 ·rfl
theorem connsend_at (c:Cn) (ps:List (Int×ByteArray)) (now:Int) (a:Option Addr) (p:Nat) (a':Option Addr) (p':Nat):({sentC {c with pa:=a,pc:=p} ps now with pa:=a',pc:=p'}:Cn)={sentC c ps now with pa:=a',pc:=p'}:=by
 unfold sentC
 rw [show sendOk {c with pa:=a,pc:=p} ps now=sendOk c ps now from rfl,sends_at]
 cases sendOk c ps now<;>rfl
theorem connsend_atS (c:Cn) (ps:List (Int×ByteArray)) (now:Int) (a:Option Addr) (p:Nat):sentS {c with pa:=a,pc:=p} ps now=sentS c ps now:=by
 unfold sentS
 rw [show sendOk {c with pa:=a,pc:=p} ps now=sendOk c ps now from rfl,sends_at]
end Go.Proofs.YtmigalhmlofbkaaGreatDoor
namespace Go.Proofs.YtmigalhmlofbkaaGreatDoor
open Go.ChangeShapes Go.WideShapes Go.ChangeAt Go.RowKit Go.Deep
def sw (c:Cn) (a:Option Addr) (p:Nat):Cn:={c with pa:=a,pc:=p}
section
variable (c:Cn) (a:Option Addr) (p:Nat) (s:Sg) (now:Int) (ps:List (Int×ByteArray))
theorem sw_conf1:conf1 (sw c a p) s=sw (conf1 c s) a p:=by
 unfold conf1
 by_cases h:c.st=2∧0<distI c.iss s.ak
 ·rw [if_pos h]
  exact if_pos h
 ·rw [if_neg h]
  exact if_neg h
theorem sw_conf3:conf3 (sw c a p) s now=sw (conf3 c s now) a p:=by
 unfold conf3
 by_cases h:c.tmg=true∧0<distI c.tsq s.ak
 ·rw [if_pos h]
  exact if_pos h
 ·rw [if_neg h]
  exact if_neg h
theorem sw_conf5:conf5 (sw c a p) now=sw (conf5 c now) a p:=by
 unfold conf5
 by_cases h:c.una=c.mx
 ·rw [if_pos h]
  exact if_pos h
 ·rw [if_neg h]
  exact if_neg h
theorem sw_conf7 (b:Bool):conf7 (sw c a p) b=sw (conf7 c b) a p:=by cases b<;>rfl
theorem sw_confN:confN (sw c a p) s now=sw (confN c s now) a p:=by
 have e2:conf2 (sw c a p) (uptoC (sw c a p) s)=sw (conf2 c (uptoC c s)) a p:=rfl
 have e4:∀ x:Cn,conf4 (sw x a p) s=sw (conf4 x s) a p:=fun _=>rfl
 have e6:∀ x:Cn,conf6 (sw x a p) (distI c.una s.ak) s.ak=sw (conf6 x (distI c.una s.ak) s.ak) a p:=fun _=>rfl
 have e6b:∀ x:Cn,agn6 (sw x a p) (distI c.una s.ak) s.ak=agn6 x (distI c.una s.ak) s.ak:=fun _=>rfl
 have eu:distI (sw c a p).una s.ak=distI c.una s.ak:=rfl
 unfold confN
 rw [e2,sw_conf3,e4,sw_conf5,eu,e6,e6b,sw_conf7]
theorem sw_confD:confD (sw c a p) s=sw (confD c s) a p:=by
 unfold confD
 by_cases h:s.d=ByteArray.empty∧s.wn=c.wnd∧¬ c.una=c.mx
 ·rw [if_pos h]
  refine (if_pos h).trans ?_
  show dupC (sw (dupA c) a p) (dupB c)=sw (dupC (dupA c) (dupB c)) a p
  cases dupB c<;>rfl
 ·rw [if_neg h]
  exact if_neg h
theorem sw_confirmed:confirmed (sw c a p) s now=sw (confirmed c s now) a p:=by
 unfold confirmed
 rw [sw_conf1,sw_confN,sw_confD]
 by_cases h:0<distI c.una s.ak
 ·rw [if_pos h]
  exact if_pos h
 ·rw [if_neg h]
  exact if_neg h
theorem sw_told:toldX (sw c a p) s=sw (toldX c s) a p:=by
 unfold toldX
 show (if toldB c s=true then _ else _)=sw (if toldB c s=true then _ else _) a p
 cases toldB c s
 ·rfl
 ·cases s.wn != 0<;>rfl
theorem sw_fin:finDoneX (sw c a p) now=sw (finDoneX c now) a p:=by
 unfold finDoneX
 show (if (c.fsn && decide (0<distI c.fsq c.una))=true then (if (c.st == 4)=true then _ else if (c.st == 7)=true then _ else if (c.st == 8)=true then _ else _) else _)=sw (if (c.fsn && decide (0<distI c.fsq c.una))=true then (if (c.st == 4)=true then _ else if (c.st == 7)=true then _ else if (c.st == 8)=true then _ else _) else _) a p
 cases (c.fsn && decide (0<distI c.fsq c.una))
 ·rfl
 ·cases c.st == 4
  ·cases c.st == 7
   ·cases c.st == 8<;>rfl
   ·rfl
  ·rfl
theorem sw_ref (x y z:Bool):refC (sw c a p) now x y z=sw (refC c now x y z) a p:=by cases x<;>cases y<;>cases z<;>rfl
theorem sw_taken:takenC (sw c a p) s ps=sw (takenC c s ps) a p:=by
 unfold takenC
 show (if takesB c s=true then _ else _)=sw (if takesB c s=true then _ else _) a p
 cases takesB c s<;>rfl
theorem sw_endX:endX (sw c a p) s now=sw (endX c s now) a p:=by
 unfold endX
 show (if finInB c s=true then (if (c.st == 3)=true then _ else if (c.st == 4)=true then _ else if (c.st == 5)=true then _ else _) else _)=sw (if finInB c s=true then (if (c.st == 3)=true then _ else if (c.st == 4)=true then _ else if (c.st == 5)=true then _ else _) else _) a p
 cases finInB c s
 ·rfl
 ·cases c.st == 3
  ·cases c.st == 4
   ·cases c.st == 5<;>rfl
   ·rfl
  ·rfl
theorem sw_met:metX (sw c a p) s now=sw (metX c s now) a p:=by
 unfold metX
 cases hasF s.fl 16
 ·rfl
 ·show (if c.tmg=true then _ else _)=sw (if c.tmg=true then _ else _) a p
  cases c.tmg<;>rfl
theorem sw_answ:answI (sw c a p) s now=sw (answI c s now) a p:=by
 unfold answI
 rw [sw_met]
 show (if (hasF s.fl 16 && (s.ak != (c.iss+1) % 4294967296))=true then _ else _)=sw (if (hasF s.fl 16 && (s.ak != (c.iss+1) % 4294967296))=true then _ else _) a p
 cases (hasF s.fl 16 && (s.ak != (c.iss+1) % 4294967296))
 ·cases hasF s.fl 4
  ·cases hasF s.fl 2<;>rfl
  ·cases hasF s.fl 16<;>rfl
 ·rfl
def swX (X:Came):Came:=(sw X.1 a p,X.2)
theorem sw_fromD:fromD (sw c a p) s now ps=swX a p (fromD c s now ps):=by
 unfold fromD swX
 rw [sw_taken]
 have e:endX {sw (takenC c s ps) a p with pn:=(takenP (sw c a p) s ps).length} s now=sw (endX {takenC c s ps with pn:=(takenP c s ps).length} s now) a p:=sw_endX {takenC c s ps with pn:=(takenP c s ps).length} a p s now
 rw [e]
 rfl
theorem sw_fromF:fromF (sw c a p) s now ps=swX a p (fromF c s now ps):=by
 unfold fromF
 rw [sw_fin,sw_fromD]
 show (if ((finDoneX c now).st == 0)=true then _ else _)=swX a p (if ((finDoneX c now).st == 0)=true then _ else _)
 cases (finDoneX c now).st == 0<;>rfl
theorem sw_fromC:fromC (sw c a p) s now ps=swX a p (fromC c s now ps):=by
 unfold fromC
 rw [sw_confirmed,sw_told,sw_fromF,sw_fromF]
 show (if (!decide (0≤distI c.una s.ak))=true then _ else if decide (0<distI c.mx s.ak)=true then _ else _)=swX a p (if (!decide (0≤distI c.una s.ak))=true then _ else if decide (0<distI c.mx s.ak)=true then _ else _)
 cases (!decide (0≤distI c.una s.ak))
 ·cases decide (0<distI c.mx s.ak)<;>rfl
 ·rfl
theorem sw_fromL:fromL (sw c a p) s now ps=swX a p (fromL c s now ps):=by
 unfold fromL
 rw [sw_fromC,sw_ref]
 cases lineB s<;>rfl
theorem sw_fromW:fromW (sw c a p) s now ps=swX a p (fromW c s now ps):=by
 unfold fromW
 rw [sw_fromL,sw_ref]
 show (if winB c s ps=true then _ else _)=swX a p (if winB c s ps=true then _ else _)
 cases winB c s ps<;>rfl
theorem sw_cameI:cameI (sw c a p) s now ps=swX a p (cameI c s now ps):=by
 unfold cameI
 rw [sw_fromW,sw_answ]
 show (if (c.st == 1)=true then _ else _)=swX a p (if (c.st == 1)=true then _ else _)
 cases c.st == 1<;>rfl
theorem sw_cameV:cameV (sw c a p) s now ps=swX a p (cameV c s now ps):=by
 unfold cameV
 rw [sw_cameI]
 show (if takenAt c s now ps=true then _ else _)=swX a p (if takenAt c s now ps=true then _ else _)
 cases takenAt c s now ps<;>rfl
end
theorem implCameV (c:Cn) (ps:List (Int×ByteArray)) (s:Sg) (now:Int) (gc:GoodC c ps) (w_sq:IsWord s.sq) (w_ak:IsWord s.ak) (hf:IsInt s.fl) (hds:s.d.size≤1048576) (w:World) (La:Laid0 w) (R:Rd shP w c.pa c.pn ps) :
  Calls Tryz.prog 9 #[.agg (cnCells c),.agg (sgCells s),.int .i64 now] w fun e w'=>∃ gp m cp gs n cp',e=.returned (.tuple #[.agg (cnCells (laidC (cameV c s now ps).1 gp m cp)),.slice (some ⟨gs,0,none⟩) n cp'])∧Held shP w' w.heap.size gp m cp (cameV c s now ps).2.1∧Held shG w' w.heap.size gs n cp' (cameV c s now ps).2.2∧gp≠gs∧Since w w':=by
 refine (implCame c ps s now gc w_sq w_ak hf hds w La R).mono ?_
 rintro e w' ⟨pg,gp,m,cp,gs,n,cp',rfl,h1,h2,h3,h4⟩
 have es:cameV {c with pa:=some ⟨pg,0,none⟩,pc:=c.pn} s now ps=swX (some ⟨pg,0,none⟩) c.pn (cameV c s now ps):=sw_cameV c (some ⟨pg,0,none⟩) c.pn s now ps
 rw [es] at h1 h2 ⊢
 exact ⟨gp,m,cp,gs,n,cp',rfl,h1,h2,h3,h4⟩
end Go.Proofs.YtmigalhmlofbkaaGreatDoor
namespace Go.Proofs.YtmigalhmlofbkaaGreatDoor
open Go.ChangeShapes Go.WideShapes Go.ChangeAt Go.RowKit
theorem implMayW (c:Cn) (w:World):Calls Tryz.prog 33 #[.agg (cnCells c)] w fun e w'=>e=.returned (.bool (mayW c.st))∧Since w w':=by
 have G:=(Since.refl w).alloc (.cells (cnCells c) 39)
 have B:=Blk.new w (cnCells c) 39
 obtain ⟨v,hv⟩:∃ v,Hid (v=mayW c.st):=⟨_,rfl⟩
 rw [← hv.out]
 go_enter Tryz.func33,Tryz.ntmps33
 go_upto_region 1 with (fail)
 generalize w.alloc (.cells (cnCells c) 39)=x0 at B G ⊢
 have f_st:x0.cell? ⟨w.heap.size,0,none⟩=some (.int .i64 c.st):=B.cell 0
 by_cases h:c.st=1∨c.st=2∨c.st=3∨c.st=6
 ·have e:Hid (v=true):=hv.out.trans (by unfold mayW;simp [h])
  rcases h with h|h|h|h
  all_goals rw [h] at f_st
  all_goals go_wp2_with (fail)
  all_goals go_ret
  all_goals exact ⟨by have:=e.out;subst this;rfl,G⟩
 ·have e:Hid (v=false):=hv.out.trans (by unfold mayW;simp;omega)
  have m1:(c.st == 1)=false:=by simp;omega
  have m2:(c.st == 2)=false:=by simp;omega
  have m3:(c.st == 3)=false:=by simp;omega
  have m6:(c.st == 6)=false:=by simp;omega
  clear h
  go_wp2_with (fail)
  go_ret
  exact ⟨by have:=e.out;subst this;rfl,G⟩
theorem implWrite (c:Cn) (ps:List (Int×ByteArray)) (s:ByteArray) (hs:s.size≤1048576) (gc:GoodC c ps) (w:World) (R:Rd shP w c.pa c.pn ps) :
  Calls Tryz.prog 10 #[.agg (cnCells c),.string s] w fun e w'=>∃ g,e=.returned (.tuple #[.agg (cnCells {writeC c ps s with pa:=some ⟨g,0,none⟩,pc:=c.pn}),.int .i64 (writeN c ps s)])∧Held shP w' w.heap.size g c.pn c.pn ps∧Since w w':=by
 have hp:=fun wx=>implOutPut c.oF c.oD c.oR s gc.w_oF gc.hod hs wx
 unfold outVal at hp
 obtain ⟨d,hd⟩:∃ d,Hid (d=writeC c ps s):=⟨_,rfl⟩
 obtain ⟨n,hn⟩:∃ n,Hid (n=writeN c ps s):=⟨_,rfl⟩
 rw [← hd.out,← hn.out]
 have hc:=fun wx Rx=>implFresh c ps gc wx Rx
 have hk:=fun wx Rx=>implConnOk c ps gc wx Rx
 have hm:=fun wx=>implMayW c wx
 obtain ⟨q,hq⟩:∃ q,Hid (q=connOk c ps):=⟨_,rfl⟩
 rw [← hq.out] at hk
 obtain ⟨m,hmm⟩:∃ m,Hid (m=mayW c.st):=⟨_,rfl⟩
 rw [← hmm.out] at hm
 unfold cnVal at hc hk
 go_enter Tryz.func10,Tryz.ntmps10
 go_upto_region 1 with (fail)
 rw [cn_zero]
 have G:=((Since.refl w).alloc (.cells (cnCells c) 39)).alloc (.cells (cnCells cnZero) 39)
 have A:=(Blk.new w (cnCells c) 39).since ((Since.refl _).alloc (.cells (cnCells cnZero) 39))
 have Z:=Blk.new (w.alloc (.cells (cnCells c) 39)) (cnCells cnZero) 39
 rw [World.size_alloc] at Z
 generalize (w.alloc (.cells (cnCells c) 39)).alloc (.cells (cnCells cnZero) 39)=x0 at A Z G ⊢
 have hZ:=Z.lt
 refine vR ?_
 refine vB cn_big A (cn_size _) ?_
 refine vC (hc _ (R.since G)) ?_
 rintro _ qw1 ⟨g,rfl,H,qg2⟩
 refine ⟨_,rfl,?_⟩
 replace A:=A.since qg2
 replace Z:=Z.since qg2
 replace G:=G.trans qg2
 have qg2_s:=qg2.size
 have hH0:=H.low'
 replace H:=H.raise (show w.heap.size≤g by omega)
 have hH:=H.lt
 refine vW (qw1.alloc (.cells (cnCells cnZero) 39)) (pX qw1.heap.size 0) ?_
 have qB4:=Blk.new qw1 (cnCells cnZero) 39
 have qg5:=(Since.refl qw1).alloc (.cells (cnCells cnZero) 39)
 replace A:=A.since qg5
 replace Z:=Z.since qg5
 replace H:=H.since qg5
 replace G:=G.trans qg5
 generalize qw1.alloc (.cells (cnCells cnZero) 39)=qw3 at A Z H G qB4 qg5 ⊢
 have qB4_l:=qB4.lt
 have qg5_s:=qg5.size
 refine sB (cnCells {c with pa:=some ⟨g,0,none⟩,pc:=c.pn}) cn_big qB4 (cn_size _) (cn_size _) (cn_one _) ?_
 intro qw6 qt7 qB8
 clear qB4
 replace A:=A.touch qt7 (by omega)
 replace Z:=Z.touch qt7 (by omega)
 replace H:=H.touch qt7 (by omega)
 replace G:=since_touch G qt7 (by omega)
 have qt7_s:=qt7.size
 refine vV (iJ 0) ?_
 refine vE #[.agg (cnCells c),.string s,pX w.heap.size 0,undef,pX (w.heap.size+1) 0,iJ 0,pX qw1.heap.size 0,iJ 0,.agg (cnCells c),.agg (cnCells {c with pa:=some ⟨g,0,none⟩,pc:=c.pn}),undef,undef,undef,undef,undef,undef,undef,undef,undef,undef,undef,undef,undef,undef,undef,undef,undef,undef,undef,undef,undef] ?_
 go_upto_region 2 with (fail)
 cases q
 case false=>
  have hw:writeOk c ps=false:=(by unfold writeOk;rw [← hq.out];rfl)
  have e:Hid (d=c):=hd.out.trans (by unfold writeC;rw [hw];rfl)
  have en:Hid (n=0):=hn.out.trans (by unfold writeN;rw [hw];rfl)
  clear hw
  refine vR ?_
  refine vB cn_big A (cn_size _) ?_
  refine vK (hk _ (R.since G)) ?_
  intro qw9 qg10
  replace A:=A.since qg10
  replace Z:=Z.since qg10
  replace qB8:=qB8.since qg10
  replace H:=H.since qg10
  replace G:=G.trans qg10
  have qg10_s:=qg10.size
  refine vV (bF) ?_
  refine vS ?_
  refine vS ?_
  refine vV (bF) ?_
  refine vV (bF) ?_
  refine vS ?_
  refine vS ?_
  refine vS ?_
  refine vV (bF) ?_
  refine vE #[.agg (cnCells c),.string s,pX w.heap.size 0,undef,pX (w.heap.size+1) 0,iJ 0,pX qw1.heap.size 0,iJ 0,.agg (cnCells c),.agg (cnCells {c with pa:=some ⟨g,0,none⟩,pc:=c.pn}),.agg (cnCells c),bF,bF,undef,undef,bF,bF,undef,undef,undef,bF,undef,undef,undef,undef,undef,undef,undef,undef,undef,undef] ?_
  go_upto_region 4 with (fail)
  refine vR ?_
  refine vB cn_big qB8 (cn_size _) ?_
  refine vV (iJ 0) ?_
  refine sB (cnCells {c with pa:=some ⟨g,0,none⟩,pc:=c.pn}) cn_big Z (cn_size _) (cn_size _) (cn_one _) ?_
  intro qw11 qt12 qB13
  clear Z
  replace A:=A.touch qt12 (by omega)
  replace qB8:=qB8.touch qt12 (by omega)
  replace H:=H.touch qt12 (by omega)
  replace G:=since_touch G qt12 (by omega)
  have qt12_s:=qt12.size
  refine vV (iJ 0) ?_
  refine vE #[.agg (cnCells c),.string s,pX w.heap.size 0,undef,pX (w.heap.size+1) 0,iJ 0,pX qw1.heap.size 0,iJ 0,.agg (cnCells c),.agg (cnCells {c with pa:=some ⟨g,0,none⟩,pc:=c.pn}),.agg (cnCells c),bF,bF,undef,undef,bF,bF,undef,undef,undef,bF,undef,undef,undef,undef,undef,undef,undef,undef,.agg (cnCells {c with pa:=some ⟨g,0,none⟩,pc:=c.pn}),iJ 0] ?_
  go_wp2_with (fail)
  exact bodyPost_ret (results_cn2 (t:=4) (u:=5) rfl _ rfl qB13) rfl ⟨_,by rw [e.out,en.out];rfl,H,G⟩
 case true=>
  cases m
  case false=>
   have hw:writeOk c ps=false:=(by unfold writeOk;rw [← hq.out,← hmm.out];rfl)
   have e:Hid (d=c):=hd.out.trans (by unfold writeC;rw [hw];rfl)
   have en:Hid (n=0):=hn.out.trans (by unfold writeN;rw [hw];rfl)
   clear hw
   refine vR ?_
   refine vB cn_big A (cn_size _) ?_
   refine vK (hk _ (R.since G)) ?_
   intro qw9 qg10
   replace A:=A.since qg10
   replace Z:=Z.since qg10
   replace qB8:=qB8.since qg10
   replace H:=H.since qg10
   replace G:=G.trans qg10
   have qg10_s:=qg10.size
   refine vV (bT) ?_
   refine vB cn_big A (cn_size _) ?_
   refine vK (hm _) ?_
   intro qw11 qg12
   replace A:=A.since qg12
   replace Z:=Z.since qg12
   replace qB8:=qB8.since qg12
   replace H:=H.since qg12
   replace G:=G.trans qg12
   have qg12_s:=qg12.size
   refine vV (bF) ?_
   refine vV (bF) ?_
   refine vS ?_
   refine vS ?_
   refine vS ?_
   refine vV (bF) ?_
   refine vE #[.agg (cnCells c),.string s,pX w.heap.size 0,undef,pX (w.heap.size+1) 0,iJ 0,pX qw1.heap.size 0,iJ 0,.agg (cnCells c),.agg (cnCells {c with pa:=some ⟨g,0,none⟩,pc:=c.pn}),.agg (cnCells c),bT,bT,.agg (cnCells c),bF,bF,bF,undef,undef,undef,bF,undef,undef,undef,undef,undef,undef,undef,undef,undef,undef] ?_
   go_upto_region 4 with (fail)
   refine vR ?_
   refine vB cn_big qB8 (cn_size _) ?_
   refine vV (iJ 0) ?_
   refine sB (cnCells {c with pa:=some ⟨g,0,none⟩,pc:=c.pn}) cn_big Z (cn_size _) (cn_size _) (cn_one _) ?_
   intro qw13 qt14 qB15
   clear Z
   replace A:=A.touch qt14 (by omega)
   replace qB8:=qB8.touch qt14 (by omega)
   replace H:=H.touch qt14 (by omega)
   replace G:=since_touch G qt14 (by omega)
   have qt14_s:=qt14.size
   refine vV (iJ 0) ?_
   refine vE #[.agg (cnCells c),.string s,pX w.heap.size 0,undef,pX (w.heap.size+1) 0,iJ 0,pX qw1.heap.size 0,iJ 0,.agg (cnCells c),.agg (cnCells {c with pa:=some ⟨g,0,none⟩,pc:=c.pn}),.agg (cnCells c),bT,bT,.agg (cnCells c),bF,bF,bF,undef,undef,undef,bF,undef,undef,undef,undef,undef,undef,undef,undef,.agg (cnCells {c with pa:=some ⟨g,0,none⟩,pc:=c.pn}),iJ 0] ?_
   go_wp2_with (fail)
   exact bodyPost_ret (results_cn2 (t:=4) (u:=5) rfl _ rfl qB15) rfl ⟨_,by rw [e.out,en.out];rfl,H,G⟩
  case true=>
   rcases Bool.eq_false_or_eq_true c.fin with hf|hf
   all_goals replace hf:Hid _:=hf
   case inl=>
    have hw:writeOk c ps=false:=(by unfold writeOk;rw [← hq.out,← hmm.out,hf.out];rfl)
    have e:Hid (d=c):=hd.out.trans (by unfold writeC;rw [hw];rfl)
    have en:Hid (n=0):=hn.out.trans (by unfold writeN;rw [hw];rfl)
    clear hw
    refine vR ?_
    refine vB cn_big A (cn_size _) ?_
    refine vK (hk _ (R.since G)) ?_
    intro qw9 qg10
    replace A:=A.since qg10
    replace Z:=Z.since qg10
    replace qB8:=qB8.since qg10
    replace H:=H.since qg10
    replace G:=G.trans qg10
    have qg10_s:=qg10.size
    refine vV (bT) ?_
    refine vB cn_big A (cn_size _) ?_
    refine vK (hm _) ?_
    intro qw11 qg12
    replace A:=A.since qg12
    replace Z:=Z.since qg12
    replace qB8:=qB8.since qg12
    replace H:=H.since qg12
    replace G:=G.trans qg12
    have qg12_s:=qg12.size
    refine vV (bT) ?_
    refine vV (bT) ?_
    refine vV (pX w.heap.size 15) ?_
    refine vD (bT) ((A.cell 15).trans (by show some (.bool c.fin:Value)=some (bT:Value);rw [hf.out])) ?_
    refine vV (bF) ?_
    refine vV (bF) ?_
    refine vE #[.agg (cnCells c),.string s,pX w.heap.size 0,undef,pX (w.heap.size+1) 0,iJ 0,pX qw1.heap.size 0,iJ 0,.agg (cnCells c),.agg (cnCells {c with pa:=some ⟨g,0,none⟩,pc:=c.pn}),.agg (cnCells c),bT,bT,.agg (cnCells c),bT,bT,bT,pX w.heap.size 15,bT,bF,bF,undef,undef,undef,undef,undef,undef,undef,undef,undef,undef] ?_
    go_upto_region 4 with (fail)
    refine vR ?_
    refine vB cn_big qB8 (cn_size _) ?_
    refine vV (iJ 0) ?_
    refine sB (cnCells {c with pa:=some ⟨g,0,none⟩,pc:=c.pn}) cn_big Z (cn_size _) (cn_size _) (cn_one _) ?_
    intro qw13 qt14 qB15
    clear Z
    replace A:=A.touch qt14 (by omega)
    replace qB8:=qB8.touch qt14 (by omega)
    replace H:=H.touch qt14 (by omega)
    replace G:=since_touch G qt14 (by omega)
    have qt14_s:=qt14.size
    refine vV (iJ 0) ?_
    refine vE #[.agg (cnCells c),.string s,pX w.heap.size 0,undef,pX (w.heap.size+1) 0,iJ 0,pX qw1.heap.size 0,iJ 0,.agg (cnCells c),.agg (cnCells {c with pa:=some ⟨g,0,none⟩,pc:=c.pn}),.agg (cnCells c),bT,bT,.agg (cnCells c),bT,bT,bT,pX w.heap.size 15,bT,bF,bF,undef,undef,undef,undef,undef,undef,undef,undef,.agg (cnCells {c with pa:=some ⟨g,0,none⟩,pc:=c.pn}),iJ 0] ?_
    go_wp2_with (fail)
    exact bodyPost_ret (results_cn2 (t:=4) (u:=5) rfl _ rfl qB15) rfl ⟨_,by rw [e.out,en.out];rfl,H,G⟩
   case inr=>
    have hw:writeOk c ps=true:=(by unfold writeOk;rw [← hq.out,← hmm.out,hf.out];rfl)
    have e:Hid (d={c with oD:=putD c.oD c.oR s}):=hd.out.trans (by unfold writeC;rw [hw];rfl)
    have en:Hid (n=putN c.oD c.oR s):=hn.out.trans (by unfold writeN;rw [hw];rfl)
    clear hw
    refine vR ?_
    refine vB cn_big A (cn_size _) ?_
    refine vK (hk _ (R.since G)) ?_
    intro qw9 qg10
    replace A:=A.since qg10
    replace Z:=Z.since qg10
    replace qB8:=qB8.since qg10
    replace H:=H.since qg10
    replace G:=G.trans qg10
    have qg10_s:=qg10.size
    refine vV (bT) ?_
    refine vB cn_big A (cn_size _) ?_
    refine vK (hm _) ?_
    intro qw11 qg12
    replace A:=A.since qg12
    replace Z:=Z.since qg12
    replace qB8:=qB8.since qg12
    replace H:=H.since qg12
    replace G:=G.trans qg12
    have qg12_s:=qg12.size
    refine vV (bT) ?_
    refine vV (bT) ?_
    refine vV (pX w.heap.size 15) ?_
    refine vD (bF) ((A.cell 15).trans (by show some (.bool c.fin:Value)=some (bF:Value);rw [hf.out])) ?_
    refine vV (bT) ?_
    refine vV (bT) ?_
    refine vE #[.agg (cnCells c),.string s,pX w.heap.size 0,undef,pX (w.heap.size+1) 0,iJ 0,pX qw1.heap.size 0,iJ 0,.agg (cnCells c),.agg (cnCells {c with pa:=some ⟨g,0,none⟩,pc:=c.pn}),.agg (cnCells c),bT,bT,.agg (cnCells c),bT,bT,bT,pX w.heap.size 15,bF,bT,bT,undef,undef,undef,undef,undef,undef,undef,undef,undef,undef] ?_
    go_upto_region 3 with (fail)
    refine vR ?_
    refine vV (pX w.heap.size 8) ?_
    refine vP pOut_big A 8 [.int .u32 c.oF,.string c.oD,.int .i64 c.oR] ?_
    refine vV (.string s) ?_
    refine vK (hp _) ?_
    intro qw13 qg14
    replace A:=A.since qg14
    replace Z:=Z.since qg14
    replace qB8:=qB8.since qg14
    replace H:=H.since qg14
    replace G:=G.trans qg14
    have qg14_s:=qg14.size
    refine vV (.tuple #[.agg #[uJ c.oF,.string (putD c.oD c.oR s),iJ c.oR],iJ (putN c.oD c.oR s)]) ?_
    refine vV (.agg #[uJ c.oF,.string (putD c.oD c.oR s),iJ c.oR]) ?_
    refine vV (iJ (putN c.oD c.oR s)) ?_
    refine vV (pX qw1.heap.size 8) ?_
    refine sP (cnCells {c with pa:=some ⟨g,0,none⟩,pc:=c.pn,oF:=c.oF,oD:=(putD c.oD c.oR s),oR:=c.oR}) pOut_big qB8 8 #[.int .u32 c.oF,.string (putD c.oD c.oR s),.int .i64 c.oR] (cn_size _) (by simp [Value.oneCell']) ?_
    intro qw15 qt16 qB17
    clear qB8
    replace A:=A.touch qt16 (by omega)
    replace Z:=Z.touch qt16 (by omega)
    replace H:=H.touch qt16 (by omega)
    replace G:=since_touch G qt16 (by omega)
    have qt16_s:=qt16.size
    refine vV (iJ (putN c.oD c.oR s)) ?_
    refine vE #[.agg (cnCells c),.string s,pX w.heap.size 0,undef,pX (w.heap.size+1) 0,iJ 0,pX qw1.heap.size 0,iJ (putN c.oD c.oR s),.agg (cnCells c),.agg (cnCells {c with pa:=some ⟨g,0,none⟩,pc:=c.pn}),.agg (cnCells c),bT,bT,.agg (cnCells c),bT,bT,bT,pX w.heap.size 15,bF,bT,bT,.tuple #[.agg #[uJ c.oF,.string (putD c.oD c.oR s),iJ c.oR],iJ (putN c.oD c.oR s)],pX w.heap.size 8,.agg #[uJ c.oF,.string c.oD,iJ c.oR],.string s,.tuple #[.agg #[uJ c.oF,.string (putD c.oD c.oR s),iJ c.oR],iJ (putN c.oD c.oR s)],.agg #[uJ c.oF,.string (putD c.oD c.oR s),iJ c.oR],iJ (putN c.oD c.oR s),pX qw1.heap.size 8,undef,undef] ?_
    go_upto_region 4 with (fail)
    refine vR ?_
    refine vB cn_big qB17 (cn_size _) ?_
    refine vV (iJ (putN c.oD c.oR s)) ?_
    refine sB (cnCells {c with pa:=some ⟨g,0,none⟩,pc:=c.pn,oF:=c.oF,oD:=(putD c.oD c.oR s),oR:=c.oR}) cn_big Z (cn_size _) (cn_size _) (cn_one _) ?_
    intro qw18 qt19 qB20
    clear Z
    replace A:=A.touch qt19 (by omega)
    replace qB17:=qB17.touch qt19 (by omega)
    replace H:=H.touch qt19 (by omega)
    replace G:=since_touch G qt19 (by omega)
    have qt19_s:=qt19.size
    refine vV (iJ (putN c.oD c.oR s)) ?_
    refine vE #[.agg (cnCells c),.string s,pX w.heap.size 0,undef,pX (w.heap.size+1) 0,iJ (putN c.oD c.oR s),pX qw1.heap.size 0,iJ (putN c.oD c.oR s),.agg (cnCells c),.agg (cnCells {c with pa:=some ⟨g,0,none⟩,pc:=c.pn}),.agg (cnCells c),bT,bT,.agg (cnCells c),bT,bT,bT,pX w.heap.size 15,bF,bT,bT,.tuple #[.agg #[uJ c.oF,.string (putD c.oD c.oR s),iJ c.oR],iJ (putN c.oD c.oR s)],pX w.heap.size 8,.agg #[uJ c.oF,.string c.oD,iJ c.oR],.string s,.tuple #[.agg #[uJ c.oF,.string (putD c.oD c.oR s),iJ c.oR],iJ (putN c.oD c.oR s)],.agg #[uJ c.oF,.string (putD c.oD c.oR s),iJ c.oR],iJ (putN c.oD c.oR s),pX qw1.heap.size 8,.agg (cnCells {c with pa:=some ⟨g,0,none⟩,pc:=c.pn,oF:=c.oF,oD:=(putD c.oD c.oR s),oR:=c.oR}),iJ (putN c.oD c.oR s)] ?_
    go_wp2_with (fail)
    exact bodyPost_ret (results_cn2 (t:=4) (u:=5) rfl _ rfl qB20) rfl ⟨_,by rw [e.out,en.out];rfl,H,G⟩
end Go.Proofs.YtmigalhmlofbkaaGreatDoor
namespace Go.Proofs.YtmigalhmlofbkaaGreatDoor
open Go.ChangeShapes Go.WideShapes Go.ChangeAt Go.RowKit Go.Deep
theorem implInRead (q:Int) (d:ByteArray) (r:Int) (a:Option Addr) (n cap:Nat) (ps:List (Int×ByteArray)) (nn:Int) (gd:Good q d r n ps) (hnil:a=none→cap=0) (hnn:IsInt nn) (w:World) (R:Rd shP w a n ps) :
  Calls Tryz.prog 46 #[inVal q d (.slice a n cap) r,.int .i64 nn] w fun e w'=>∃ g c,e=.returned (.tuple #[inVal q (readD q d r ps nn) (.slice (some ⟨g,0,none⟩) n c) r,.string (readT q d r ps nn)])∧Held shP w' w.heap.size g n c ps∧Since w w':=by
 have hn:=gd.hn
 have hd:=gd.hd
 obtain ⟨hnn1,hnn2⟩:=hnn
 have hok:=fun wx Rx=>implInOk q d r a n cap ps gd wx Rx
 have hcp:=fun wx Rx=>freshIn q d r a n cap ps gd wx Rx
 have hi1:=fun wx=>isAmountI nn wx
 have G:Since w ((w.alloc (.cells #[.int .u32 q,.string d,.slice a n cap,.int .i64 r] 33)).alloc (.cells #[.int .u32 0,.string ⟨#[]⟩,.slice none 0 0,.int .i64 0] 33)):=((Since.refl _).alloc _).alloc _
 have A:=(Blk.new w #[.int .u32 q,.string d,.slice a n cap,.int .i64 r] 33).since ((Since.refl _).alloc (.cells #[.int .u32 0,.string ⟨#[]⟩,.slice none 0 0,.int .i64 0] 33))
 have B:=Blk.new (w.alloc (.cells #[.int .u32 q,.string d,.slice a n cap,.int .i64 r] 33)) #[.int .u32 0,.string ⟨#[]⟩,.slice none 0 0,.int .i64 0] 33
 simp only [World.size_alloc] at A B
 unfold readD readT readN inVal
 cases hk:inOk q d r ps
 ·rw [if_neg (by simp)]
  rw [if_neg (by simp)]
  rw [hk] at hok
  go_enter Tryz.func46,Tryz.ntmps46
  go_wp2_with (fail)
  refine (hcp _ (R.since G)).mono ?_
  rintro _ w2 ⟨g,rfl,T,g2⟩
  unfold inVal at *
  have hgt:=T.lt
  have X:=Blk.new w2 #[.int .u32 q,.string d,.slice (some ⟨g,0,none⟩) n n,.int .i64 r] 33
  have k3:=(Since.refl w2).alloc (.cells #[.int .u32 q,.string d,.slice (some ⟨g,0,none⟩) n n,.int .i64 r] 33)
  replace A:=(A.since g2).since k3
  replace B:=(B.since g2).since k3
  replace G:=(G.trans g2).trans k3
  replace T:=T.since k3
  have hsz:=g2.le
  simp at hsz
  have hgl:=T.low'
  simp at hgl
  have a0:=A.cell 0
  have a1:=A.cell 1
  have a2:=A.cell 2
  have a3:=A.cell 3
  simp at a0 a1 a2 a3
  clear hcp k3
  have hok1:=hok _ (R.since G)
  clear hok
  go_wp2_with (first|(go_at_call 87;refine hok1.mono ?_;rintro _ w4 ⟨rfl,g4⟩;replace A:=A.since g4;replace B:=B.since g4;replace X:=X.since g4;replace G:=G.trans g4;replace T:=T.since g4;clear a0 a1 a2 a3;have a0:=A.cell 0;have a1:=A.cell 1;have a2:=A.cell 2;have a3:=A.cell 3;simp at a0 a1 a2 a3;have b0:=B.cell 0;have b1:=B.cell 1;have b2:=B.cell 2;have b3:=B.cell 3;simp at b0 b1 b2 b3;have x0:=X.cell 0;have x1:=X.cell 1;have x2:=X.cell 2;have x3:=X.cell 3;simp at x0 x1 x2 x3;have z0:=B.fz 0;have z1:=B.fz 1;have z2:=B.fz 2;have z3:=B.fz 3;have u1:=X.fz 1)|(go_at_call 92;refine (hi1 _).mono ?_;rintro _ _ ⟨rfl,rfl⟩))
  have B4:=(((B.put 0 (.int .u32 q) (by simp)).put 1 (.string d) (by simp)).put 2 (.slice (some ⟨g,0,none⟩) n n) (by simp)).put 3 (.int .i64 r) (by simp)
  have k0:=B4.cell 0
  have k1:=B4.cell 1
  have k2:=B4.cell 2
  have k3:=B4.cell 3
  simp at k0 k1 k2 k3
  refine bodyPost_ret (v:=.tuple #[.agg #[.int .u32 q,.string d,.slice (some ⟨g,0,none⟩) n n,.int .i64 r],.string ⟨#[]⟩]) ?_ rfl ⟨g,n,rfl,?_,?_⟩
  ·simp [results,go_sem,k0,k1,k2,k3]
  ·exact ((((T.other (by omega) _ _).other (by omega) _ _).other (by omega) _ _).other (by omega) _ _).raise (by omega)
  ·exact since_put1 (since_put1 (since_put1 (since_put1 G (by omega) _ _) (by omega) _ _) (by omega) _ _) (by omega) _ _
 ·rw [hk] at hok
  by_cases c1:0≤nn∧nn≤4096
  ·rw [if_pos ⟨rfl,c1⟩,if_pos ⟨rfl,c1⟩,if_pos ⟨rfl,c1⟩]
   rw [show decide (0≤nn∧nn≤4096)=true from decide_eq_true c1] at hi1
   obtain ⟨m,rfl⟩:=Int.eq_ofNat_of_zero_le c1.1
   obtain ⟨_,c2⟩:=c1
   obtain ⟨t,ht⟩:∃ t,min ((m:Nat):Int).toNat d.size=t:=⟨_,rfl⟩
   rw [ht]
   have ht1:t≤m:=by omega
   have ht2:t≤d.size:=by omega
   have hmin:min (m:Int) (d.size:Int)=(t:Int):=by omega
   have hcl:=fun wx=>clone (d.extract t d.size) (by rw [ByteArray.size_extract];omega) wx
   clear ht hnn1 hnn2
   go_enter Tryz.func46,Tryz.ntmps46
   go_wp2_with (fail)
   refine (hcp _ (R.since G)).mono ?_
   rintro _ w2 ⟨g,rfl,T,g2⟩
   unfold inVal at *
   have hgt:=T.lt
   have X:=Blk.new w2 #[.int .u32 q,.string d,.slice (some ⟨g,0,none⟩) n n,.int .i64 r] 33
   have k3:=(Since.refl w2).alloc (.cells #[.int .u32 q,.string d,.slice (some ⟨g,0,none⟩) n n,.int .i64 r] 33)
   replace A:=(A.since g2).since k3
   replace B:=(B.since g2).since k3
   replace G:=(G.trans g2).trans k3
   replace T:=T.since k3
   have hsz:=g2.le
   simp at hsz
   have hgl:=T.low'
   simp at hgl
   have a0:=A.cell 0
   have a1:=A.cell 1
   have a2:=A.cell 2
   have a3:=A.cell 3
   simp at a0 a1 a2 a3
   clear hcp k3
   have hok1:=hok _ (R.since G)
   clear hok
   go_wp2_with (first|(go_at_call 87;refine hok1.mono ?_;rintro _ w4 ⟨rfl,g4⟩;replace A:=A.since g4;replace B:=B.since g4;replace X:=X.since g4;replace G:=G.trans g4;replace T:=T.since g4;clear a0 a1 a2 a3;have a0:=A.cell 0;have a1:=A.cell 1;have a2:=A.cell 2;have a3:=A.cell 3;simp at a0 a1 a2 a3;have b0:=B.cell 0;have b1:=B.cell 1;have b2:=B.cell 2;have b3:=B.cell 3;simp at b0 b1 b2 b3;have x0:=X.cell 0;have x1:=X.cell 1;have x2:=X.cell 2;have x3:=X.cell 3;simp at x0 x1 x2 x3;have z0:=B.fz 0;have z1:=B.fz 1;have z2:=B.fz 2;have z3:=B.fz 3;have u1:=X.fz 1)|(go_at_call 93;refine (hcl _).mono ?_;rintro _ w5 ⟨rfl,g5⟩;replace A:=A.since g5;replace B:=B.since g5;replace X:=X.since g5;replace G:=G.trans g5;replace T:=T.since g5;clear a0 a1 a2 a3 b0 b1 b2 b3 x0 x1 x2 x3 z0 z1 z2 z3 u1;have a0:=A.cell 0;have a1:=A.cell 1;have a2:=A.cell 2;have a3:=A.cell 3;simp at a0 a1 a2 a3;have b0:=B.cell 0;have b1:=B.cell 1;have b2:=B.cell 2;have b3:=B.cell 3;simp at b0 b1 b2 b3;have x0:=X.cell 0;have x1:=X.cell 1;have x2:=X.cell 2;have x3:=X.cell 3;simp at x0 x1 x2 x3;have z0:=B.fz 0;have z1:=B.fz 1;have z2:=B.fz 2;have z3:=B.fz 3;have u1:=X.fz 1)|(go_at_call 92;refine (hi1 _).mono ?_;rintro _ _ ⟨rfl,rfl⟩))
   have X1:=X.put 1 (.string (d.extract t d.size)) (by simp)
   have hxl:=X.lt
   have A1:=A.other (show w.heap.size≠w2.heap.size by omega) 1 (.string (d.extract t d.size))
   have B1:=B.other (show w.heap.size+1≠w2.heap.size by omega) 1 (.string (d.extract t d.size))
   have G1:=since_put1 G (show w.heap.size≤w2.heap.size by omega) 1 (.string (d.extract t d.size))
   have T1:=T.other (show g≠w2.heap.size by omega) 1 (.string (d.extract t d.size))
   obtain ⟨w6,hw6⟩:∃ w6,w5.setCell ⟨w2.heap.size,1,none⟩ (.string (d.extract t d.size))=w6:=⟨_,rfl⟩
   rw [hw6] at X1 A1 B1 G1 T1 ⊢
   have hAl:=A1.lt
   have hgl6:=T1.low'
   clear hw6 a0 a1 a2 a3 b0 b1 b2 b3 x0 x1 x2 x3 z0 z1 z2 z3 u1
   refine wp_region_keep (wb:=w6) (w.heap.size+1) #[.int .u32 q,.string (d.extract t d.size),.slice (some ⟨g,0,none⟩) n n,.int .i64 r] (fun i x v=>match i with
     | 0=>v=.agg #[.int .u32 q,.string (d.extract t d.size),.slice (some ⟨g,0,none⟩) n n,.int .i64 r]
     | 1=>v=.pointer (some ⟨w.heap.size,1,none⟩)
     | 2=>v=.string d
     | 3=>v=.int .i64 t
     | 4=>v=.string (d.extract 0 t)
     | 5=>v=.string (d.extract 0 t)
     | 6=>Blk (w.heap.size+1) x #[.int .u32 q,.string (d.extract t d.size),.slice (some ⟨g,0,none⟩) n n,.int .i64 r]
     | 7=>v=.string (d.extract 0 t)
     | _=>True) (fun v=>{tmps:=#[Value.agg #[Value.int IntKind.u32 q,Value.string d,Value.slice a n cap,Value.int IntKind.i64 r],Value.int IntKind.i64 (t:Int),Value.pointer (some ⟨w.heap.size,0,none⟩),undef,Value.pointer (some ⟨w.heap.size+1,0,none⟩),v 7,Value.pointer (some ⟨w2.heap.size,0,none⟩),Value.agg #[Value.int IntKind.u32 q,Value.string d,Value.slice a n cap,Value.int IntKind.i64 r],Value.agg #[Value.int IntKind.u32 q,Value.string d,Value.slice (some ⟨g,0,none⟩) n n,Value.int IntKind.i64 r],Value.agg #[Value.int IntKind.u32 q,Value.string d,Value.slice a n cap,Value.int IntKind.i64 r],Value.bool true,Value.bool false,Value.bool false,Value.int IntKind.i64 (m:Int),Value.bool true,Value.bool false,Value.bool false,undef,Value.int IntKind.i64 (m:Int),Value.pointer (some ⟨w.heap.size,1,none⟩),Value.string d,Value.int IntKind.i64 (d.size:Int),Value.int IntKind.i64 (t:Int),Value.pointer (some ⟨w.heap.size,1,none⟩),Value.string d,Value.int IntKind.i64 (t:Int),Value.string (d.extract t d.size),Value.string (d.extract t d.size),Value.pointer (some ⟨w2.heap.size,1,none⟩),v 0,v 1,v 2,v 3,v 4,v 5],defers:=[]}) (by kernel_rfl) (by kernel_rfl) (by kernel_rfl) (KeepB.refl _ _ _) ?_ (fun vals=>by kernel_rfl) ?_ ?_
   case refine_1=>
    intro j x x' v h1 h2
    match j,h2 with
    | 6,h2=>
     exact h1.done h2
    | 0,h2|1,h2|2,h2|3,h2|4,h2|5,h2|7,h2=>exact h2
    | n+8,_=>trivial
   case refine_2=>
    repeat (first|exact eachDoesR_nil|refine eachDoesR_cons ?_ ?_)
    all_goals intro vals x hx hv
    all_goals simp [Region.binds] at hv
    ·simp [does,doesUpon,go_sem,hv,KeepB.refl]
    ·have hraw:Raw (w.heap.size+1) 4 x:=hx.raw (show Raw (w.heap.size+1) 4 _ from ⟨_,rfl,B1⟩)
     obtain ⟨u0,e0⟩:=hraw.cell 0 (by decide)
     obtain ⟨u1,e1⟩:=hraw.cell 1 (by decide)
     obtain ⟨u2,e2⟩:=hraw.cell 2 (by decide)
     obtain ⟨u3,e3⟩:=hraw.cell 3 (by decide)
     have z0:=hraw.fz 0
     have z1:=hraw.fz 1
     have z2:=hraw.fz 2
     have z3:=hraw.fz 3
     simp [does,doesUpon,go_sem,hv,e0,e1,e2,e3,z0,z1,z2,z3]
     exact hraw.store4 _ _ _ _
    ·simp [does,doesUpon,go_sem,hv]
     refine (clone (d.extract 0 t) (by try rw [ByteArray.size_extract];omega) x).mono ?_
     rintro _ x' ⟨rfl,h1⟩
     simp [KeepB.of_since h1]
    ·obtain ⟨h2,h3⟩:=hv
     simp [does,doesUpon,go_sem,h2,h3,KeepB.refl,ht2]
    ·simp [does,doesUpon,go_sem,KeepB.refl]
    ·have e1:=(A1.touch hx.touch (by omega)).cell 1
     simp at e1
     simp [does,doesUpon,go_sem,hv,e1,KeepB.refl]
    ·simp [does,doesUpon,go_sem,KeepB.refl]
    ·have e0:=(X1.touch hx.touch (by omega)).cell 0
     have e1:=(X1.touch hx.touch (by omega)).cell 1
     have e2:=(X1.touch hx.touch (by omega)).cell 2
     have e3:=(X1.touch hx.touch (by omega)).cell 3
     simp at e0 e1 e2 e3
     simp [does,doesUpon,go_sem,e0,e1,e2,e3,KeepB.refl]
   case refine_3=>
    intro vals x hx hv
    have hst:=hv 6 (by decide)
    have hl:vals 7=_:=hv 7 (by decide)
    clear hv
    have k0:=hst.cell 0
    have k1:=hst.cell 1
    have k2:=hst.cell 2
    have k3:=hst.cell 3
    simp at k0 k1 k2 k3
    replace hst:Hid _:=hst
    simp only [hl]
    go_wp2
    refine bodyPost_ret (v:=.tuple #[.agg #[.int .u32 q,.string (d.extract t d.size),.slice (some ⟨g,0,none⟩) n n,.int .i64 r],.string (d.extract 0 t)]) ?_ rfl ⟨g,n,rfl,?_,?_⟩
    ·simp [results,go_sem,k0,k1,k2,k3]
    ·exact (T1.touch hx.touch (by omega)).raise (by omega)
    ·exact KeepB.since G1 hx (by omega)
  ·rw [if_neg (fun h=>c1 h.2),if_neg (fun h=>c1 h.2)]
   rw [show decide (0≤nn∧nn≤4096)=false from decide_eq_false c1] at hi1
   clear c1
   go_enter Tryz.func46,Tryz.ntmps46
   go_wp2_with (fail)
   refine (hcp _ (R.since G)).mono ?_
   rintro _ w2 ⟨g,rfl,T,g2⟩
   unfold inVal at *
   have hgt:=T.lt
   have X:=Blk.new w2 #[.int .u32 q,.string d,.slice (some ⟨g,0,none⟩) n n,.int .i64 r] 33
   have k3:=(Since.refl w2).alloc (.cells #[.int .u32 q,.string d,.slice (some ⟨g,0,none⟩) n n,.int .i64 r] 33)
   replace A:=(A.since g2).since k3
   replace B:=(B.since g2).since k3
   replace G:=(G.trans g2).trans k3
   replace T:=T.since k3
   have hsz:=g2.le
   simp at hsz
   have hgl:=T.low'
   simp at hgl
   have a0:=A.cell 0
   have a1:=A.cell 1
   have a2:=A.cell 2
   have a3:=A.cell 3
   simp at a0 a1 a2 a3
   clear hcp k3
   have hok1:=hok _ (R.since G)
   clear hok
   go_wp2_with (first|(go_at_call 87;refine hok1.mono ?_;rintro _ w4 ⟨rfl,g4⟩;replace A:=A.since g4;replace B:=B.since g4;replace X:=X.since g4;replace G:=G.trans g4;replace T:=T.since g4;clear a0 a1 a2 a3;have a0:=A.cell 0;have a1:=A.cell 1;have a2:=A.cell 2;have a3:=A.cell 3;simp at a0 a1 a2 a3;have b0:=B.cell 0;have b1:=B.cell 1;have b2:=B.cell 2;have b3:=B.cell 3;simp at b0 b1 b2 b3;have x0:=X.cell 0;have x1:=X.cell 1;have x2:=X.cell 2;have x3:=X.cell 3;simp at x0 x1 x2 x3;have z0:=B.fz 0;have z1:=B.fz 1;have z2:=B.fz 2;have z3:=B.fz 3;have u1:=X.fz 1)|(go_at_call 92;refine (hi1 _).mono ?_;rintro _ _ ⟨rfl,rfl⟩))
   have B4:=(((B.put 0 (.int .u32 q) (by simp)).put 1 (.string d) (by simp)).put 2 (.slice (some ⟨g,0,none⟩) n n) (by simp)).put 3 (.int .i64 r) (by simp)
   have k0:=B4.cell 0
   have k1:=B4.cell 1
   have k2:=B4.cell 2
   have k3:=B4.cell 3
   simp at k0 k1 k2 k3
   refine bodyPost_ret (v:=.tuple #[.agg #[.int .u32 q,.string d,.slice (some ⟨g,0,none⟩) n n,.int .i64 r],.string ⟨#[]⟩]) ?_ rfl ⟨g,n,rfl,?_,?_⟩
   ·simp [results,go_sem,k0,k1,k2,k3]
   ·exact ((((T.other (by omega) _ _).other (by omega) _ _).other (by omega) _ _).other (by omega) _ _).raise (by omega)
   ·exact since_put1 (since_put1 (since_put1 (since_put1 G (by omega) _ _) (by omega) _ _) (by omega) _ _) (by omega) _ _
end Go.Proofs.YtmigalhmlofbkaaGreatDoor
namespace Go.Proofs.YtmigalhmlofbkaaGreatDoor
open Go.ChangeShapes Go.WideShapes Go.ChangeAt Go.RowKit
def standsB (st:Int):Bool:=!decide (st=0∨st=1∨st=2)
theorem implStands (c:Cn) (w:World):Calls Tryz.prog 48 #[.agg (cnCells c)] w fun e w'=>e=.returned (.bool (standsB c.st))∧Since w w':=by
 have G:=(Since.refl w).alloc (.cells (cnCells c) 39)
 have B:=Blk.new w (cnCells c) 39
 obtain ⟨v,hv⟩:∃ v,Hid (v=standsB c.st):=⟨_,rfl⟩
 rw [← hv.out]
 go_enter Tryz.func48,Tryz.ntmps48
 go_upto_region 1 with (fail)
 generalize w.alloc (.cells (cnCells c) 39)=x0 at B G ⊢
 have f_st:x0.cell? ⟨w.heap.size,0,none⟩=some (.int .i64 c.st):=B.cell 0
 by_cases h:c.st=0∨c.st=1∨c.st=2
 ·have e:Hid (v=false):=hv.out.trans (by unfold standsB;simp [h])
  rcases h with h|h|h
  all_goals rw [h] at f_st
  all_goals go_wp2_with (fail)
  all_goals go_ret
  all_goals exact ⟨by have:=e.out;subst this;rfl,G⟩
 ·have e:Hid (v=true):=hv.out.trans (by unfold standsB;simp;omega)
  have m0:(c.st != 0)=true:=by simp;omega
  have m1:(c.st != 1)=true:=by simp;omega
  have m2:(c.st != 2)=true:=by simp;omega
  clear h
  go_wp2_with (fail)
  go_ret
  exact ⟨by have:=e.out;subst this;rfl,G⟩
theorem owes_is (st rm:Int) (t:ByteArray):owesR st rm t=(!decide (t=ByteArray.empty) && (decide (rm<100) && standsB st)):=by
 unfold owesR standsB
 by_cases h1:t=ByteArray.empty
 ·simp [h1]
 ·by_cases h2:rm<100
  ·by_cases h3:st=0∨st=1∨st=2
   ·simp [h1,h2,h3];omega
   ·simp [h1,h2,h3];omega
  ·simp [h2]
theorem implRead (c:Cn) (ps:List (Int×ByteArray)) (n:Int) (hn:IsInt n) (hnil:c.pa=none→c.pc=0) (gc:GoodC c ps) (w:World) (R:Rd shP w c.pa c.pn ps) :
  Calls Tryz.prog 14 #[.agg (cnCells c),.int .i64 n] w fun e w'=>∃ g cp,e=.returned (.tuple #[.agg (cnCells {readC c ps n with pa:=some ⟨g,0,none⟩,pc:=cp}),.string (readS c ps n)])∧Held shP w' w.heap.size g c.pn cp ps∧Since w w':=by
 have hr:=fun wx Rx=>implInRoom c.iN c.iD c.iR c.pa c.pn c.pc ps gc.gd wx Rx
 have hi:=fun wx Rx=>implInRead c.iN c.iD c.iR c.pa c.pn c.pc ps n gc.gd hnil hn wx Rx
 have hst:=fun wx=>implStands c wx
 unfold inVal at hr hi
 obtain ⟨d,hd⟩:∃ d,Hid (d=readC c ps n):=⟨_,rfl⟩
 obtain ⟨v,hv⟩:∃ v,Hid (v=readS c ps n):=⟨_,rfl⟩
 rw [← hd.out,← hv.out]
 obtain ⟨rm,hrm⟩:∃ rm,Hid (rm=inRoomN c.iN c.iD c.iR ps):=⟨_,rfl⟩
 rw [← hrm.out] at hr
 obtain ⟨t,ht⟩:∃ t,Hid (t=readT c.iN c.iD c.iR ps n):=⟨_,rfl⟩
 rw [← ht.out] at hi
 obtain ⟨sb,hsb⟩:∃ q,Hid (q=standsB c.st):=⟨_,rfl⟩
 rw [← hsb.out] at hst
 have hc:=fun wx Rx=>implFresh c ps gc wx Rx
 have hk:=fun wx Rx=>implConnOk c ps gc wx Rx
 have hm:=fun wx=>implMayW c wx
 obtain ⟨q,hq⟩:∃ q,Hid (q=connOk c ps):=⟨_,rfl⟩
 rw [← hq.out] at hk
 obtain ⟨m,hmm⟩:∃ m,Hid (m=mayW c.st):=⟨_,rfl⟩
 rw [← hmm.out] at hm
 unfold cnVal at hc hk
 go_enter Tryz.func14,Tryz.ntmps14
 go_upto_region 1 with (fail)
 rw [cn_zero]
 have G:=((Since.refl w).alloc (.cells (cnCells c) 39)).alloc (.cells (cnCells cnZero) 39)
 have A:=(Blk.new w (cnCells c) 39).since ((Since.refl _).alloc (.cells (cnCells cnZero) 39))
 have Z:=Blk.new (w.alloc (.cells (cnCells c) 39)) (cnCells cnZero) 39
 rw [World.size_alloc] at Z
 generalize (w.alloc (.cells (cnCells c) 39)).alloc (.cells (cnCells cnZero) 39)=x0 at A Z G ⊢
 have hZ:=Z.lt
 refine vR ?_
 refine vB cn_big A (cn_size _) ?_
 refine vC (hc _ (R.since G)) ?_
 rintro _ qw1 ⟨g,rfl,H,qg2⟩
 refine ⟨_,rfl,?_⟩
 replace A:=A.since qg2
 replace Z:=Z.since qg2
 replace G:=G.trans qg2
 have qg2_s:=qg2.size
 have hH0:=H.low'
 replace H:=H.raise (show w.heap.size≤g by omega)
 have hH:=H.lt
 refine vW (qw1.alloc (.cells (cnCells cnZero) 39)) (pX qw1.heap.size 0) ?_
 have qB4:=Blk.new qw1 (cnCells cnZero) 39
 have qg5:=(Since.refl qw1).alloc (.cells (cnCells cnZero) 39)
 replace A:=A.since qg5
 replace Z:=Z.since qg5
 replace H:=H.since qg5
 replace G:=G.trans qg5
 generalize qw1.alloc (.cells (cnCells cnZero) 39)=qw3 at A Z H G qB4 qg5 ⊢
 have qB4_l:=qB4.lt
 have qg5_s:=qg5.size
 refine sB (cnCells {c with pa:=some ⟨g,0,none⟩,pc:=c.pn}) cn_big qB4 (cn_size _) (cn_size _) (cn_one _) ?_
 intro qw6 qt7 qB8
 clear qB4
 replace A:=A.touch qt7 (by omega)
 replace Z:=Z.touch qt7 (by omega)
 replace H:=H.touch qt7 (by omega)
 replace G:=since_touch G qt7 (by omega)
 have qt7_s:=qt7.size
 refine vV (.string ⟨#[]⟩) ?_
 refine vE #[.agg (cnCells c),iJ n,pX w.heap.size 0,undef,pX (w.heap.size+1) 0,.string ⟨#[]⟩,pX qw1.heap.size 0,.string ⟨#[]⟩,.agg (cnCells c),.agg (cnCells {c with pa:=some ⟨g,0,none⟩,pc:=c.pn}),undef,undef,undef,undef,undef,undef,undef,undef,undef,undef,undef,undef,undef,undef,undef,undef,undef,undef,undef,undef,undef,undef,undef,undef,undef,undef,undef,undef] ?_
 go_upto_region 2 with (fail)
 cases q
 case false=>
  refine vR ?_
  refine vB cn_big A (cn_size _) ?_
  refine vK (hk _ (R.since G)) ?_
  intro qw9 qg10
  replace A:=A.since qg10
  replace Z:=Z.since qg10
  replace qB8:=qB8.since qg10
  replace H:=H.since qg10
  replace G:=G.trans qg10
  have qg10_s:=qg10.size
  refine vV (bT) ?_
  refine vE #[.agg (cnCells c),iJ n,pX w.heap.size 0,undef,pX (w.heap.size+1) 0,.string ⟨#[]⟩,pX qw1.heap.size 0,.string ⟨#[]⟩,.agg (cnCells c),.agg (cnCells {c with pa:=some ⟨g,0,none⟩,pc:=c.pn}),.agg (cnCells c),bF,bT,undef,undef,undef,undef,undef,undef,undef,undef,undef,undef,undef,undef,undef,undef,undef,undef,undef,undef,undef,undef,undef,undef,undef,undef,undef] ?_
  go_upto_region 3 with (fail)
  refine vR ?_
  refine vB cn_big qB8 (cn_size _) ?_
  refine vV (.string ⟨#[]⟩) ?_
  refine sB (cnCells {c with pa:=some ⟨g,0,none⟩,pc:=c.pn}) cn_big Z (cn_size _) (cn_size _) (cn_one _) ?_
  intro qw11 qt12 qB13
  clear Z
  replace A:=A.touch qt12 (by omega)
  replace qB8:=qB8.touch qt12 (by omega)
  replace H:=H.touch qt12 (by omega)
  replace G:=since_touch G qt12 (by omega)
  have qt12_s:=qt12.size
  refine vV (.string ⟨#[]⟩) ?_
  refine vE #[.agg (cnCells c),iJ n,pX w.heap.size 0,undef,pX (w.heap.size+1) 0,.string ⟨#[]⟩,pX qw1.heap.size 0,.string ⟨#[]⟩,.agg (cnCells c),.agg (cnCells {c with pa:=some ⟨g,0,none⟩,pc:=c.pn}),.agg (cnCells c),bF,bT,.agg (cnCells {c with pa:=some ⟨g,0,none⟩,pc:=c.pn}),.string ⟨#[]⟩,undef,undef,undef,undef,undef,undef,undef,undef,undef,undef,undef,undef,undef,undef,undef,undef,undef,undef,undef,undef,undef,undef,undef] ?_
  have e:Hid (d=c):=hd.out.trans (by unfold readC;rw [← hq.out];rfl)
  have ev:Hid (v=ByteArray.empty):=hv.out.trans (by unfold readS;rw [← hq.out];rfl)
  go_wp2_with (fail)
  exact bodyPost_ret (results_cn2 (t:=4) (u:=5) rfl _ rfl qB13) rfl ⟨_,_,by rw [e.out,ev.out];rfl,H,G⟩
 case true=>
  refine vR ?_
  refine vB cn_big A (cn_size _) ?_
  refine vK (hk _ (R.since G)) ?_
  intro qw9 qg10
  replace A:=A.since qg10
  replace Z:=Z.since qg10
  replace qB8:=qB8.since qg10
  replace H:=H.since qg10
  replace G:=G.trans qg10
  have qg10_s:=qg10.size
  refine vV (bF) ?_
  refine vE #[.agg (cnCells c),iJ n,pX w.heap.size 0,undef,pX (w.heap.size+1) 0,.string ⟨#[]⟩,pX qw1.heap.size 0,.string ⟨#[]⟩,.agg (cnCells c),.agg (cnCells {c with pa:=some ⟨g,0,none⟩,pc:=c.pn}),.agg (cnCells c),bT,bF,undef,undef,undef,undef,undef,undef,undef,undef,undef,undef,undef,undef,undef,undef,undef,undef,undef,undef,undef,undef,undef,undef,undef,undef,undef] ?_
  go_upto_region 4 with (fail)
  refine vR ?_
  refine vV (pX w.heap.size 11) ?_
  refine vP pIn_big A 11 [.int .u32 c.iN,.string c.iD,.slice c.pa c.pn c.pc,.int .i64 c.iR] ?_
  refine vV (iJ n) ?_
  refine vC (hi _ (R.since G)) ?_
  rintro _ qw11 ⟨g2,cp2,rfl,H2,qg12⟩
  refine ⟨_,rfl,?_⟩
  replace A:=A.since qg12
  replace Z:=Z.since qg12
  replace qB8:=qB8.since qg12
  replace H:=H.since qg12
  replace G:=G.trans qg12
  have qg12_s:=qg12.size
  have hH20:=H2.low'
  replace H2:=H2.raise (show w.heap.size≤g2 by omega)
  have hH2:=H2.lt
  clear H
  refine vV (.tuple #[.agg #[uJ c.iN,.string (readD c.iN c.iD c.iR ps n),.slice (some ⟨g2,0,none⟩) c.pn cp2,iJ c.iR],.string t]) ?_
  refine vV (.agg #[uJ c.iN,.string (readD c.iN c.iD c.iR ps n),.slice (some ⟨g2,0,none⟩) c.pn cp2,iJ c.iR]) ?_
  refine vV (.string t) ?_
  refine vV (pX qw1.heap.size 11) ?_
  refine sP (cnCells {c with iN:=c.iN,iD:=(readD c.iN c.iD c.iR ps n),pa:=(some ⟨g2,0,none⟩),pn:=c.pn,pc:=cp2,iR:=c.iR}) pIn_big qB8 11 #[.int .u32 c.iN,.string (readD c.iN c.iD c.iR ps n),.slice (some ⟨g2,0,none⟩) c.pn cp2,.int .i64 c.iR] (cn_size _) (by simp [Value.oneCell']) ?_
  intro qw13 qt14 qB15
  clear qB8
  replace A:=A.touch qt14 (by omega)
  replace Z:=Z.touch qt14 (by omega)
  replace H2:=H2.touch qt14 (by omega)
  replace G:=since_touch G qt14 (by omega)
  have qt14_s:=qt14.size
  refine vV (.string t) ?_
  refine vE #[.agg (cnCells c),iJ n,pX w.heap.size 0,undef,pX (w.heap.size+1) 0,.string ⟨#[]⟩,pX qw1.heap.size 0,.string t,.agg (cnCells c),.agg (cnCells {c with pa:=some ⟨g,0,none⟩,pc:=c.pn}),.agg (cnCells c),bT,bF,undef,undef,.tuple #[.agg #[uJ c.iN,.string (readD c.iN c.iD c.iR ps n),.slice (some ⟨g2,0,none⟩) c.pn cp2,iJ c.iR],.string t],pX w.heap.size 11,.agg #[uJ c.iN,.string c.iD,.slice c.pa c.pn c.pc,iJ c.iR],iJ n,.tuple #[.agg #[uJ c.iN,.string (readD c.iN c.iD c.iR ps n),.slice (some ⟨g2,0,none⟩) c.pn cp2,iJ c.iR],.string t],.agg #[uJ c.iN,.string (readD c.iN c.iD c.iR ps n),.slice (some ⟨g2,0,none⟩) c.pn cp2,iJ c.iR],.string t,pX qw1.heap.size 11,undef,undef,undef,undef,undef,undef,undef,undef,undef,undef,undef,undef,undef,undef,undef] ?_
  go_upto_region 5 with (fail)
  have hoo:=owes_is c.st rm t
  rw [← hsb.out] at hoo
  replace hoo:Hid _:=hoo
  by_cases h1:t=ByteArray.empty
  case pos=>
   have e0:(t.toList == [])=true:=by rw [h1,ByteArray.toList_eq];rfl
   have how:owesR c.st rm t=false:=hoo.out.trans (by rw [decide_eq_true h1];rfl)
   clear h1
   refine vR ?_
   refine vV (.string t) ?_
   refine vV (.bool false) ?_ (hrun:=by simp [execOp,go_sem,e0])
   refine vV (bF) ?_
   refine vS ?_
   refine vS ?_
   refine vS ?_
   refine vS ?_
   refine vV (bF) ?_
   refine vV (bF) ?_
   refine vS ?_
   refine vS ?_
   refine vV (bF) ?_
   refine vE #[.agg (cnCells c),iJ n,pX w.heap.size 0,undef,pX (w.heap.size+1) 0,.string ⟨#[]⟩,pX qw1.heap.size 0,.string t,.agg (cnCells c),.agg (cnCells {c with pa:=some ⟨g,0,none⟩,pc:=c.pn}),.agg (cnCells c),bT,bF,undef,undef,.tuple #[.agg #[uJ c.iN,.string (readD c.iN c.iD c.iR ps n),.slice (some ⟨g2,0,none⟩) c.pn cp2,iJ c.iR],.string t],pX w.heap.size 11,.agg #[uJ c.iN,.string c.iD,.slice c.pa c.pn c.pc,iJ c.iR],iJ n,.tuple #[.agg #[uJ c.iN,.string (readD c.iN c.iD c.iR ps n),.slice (some ⟨g2,0,none⟩) c.pn cp2,iJ c.iR],.string t],.agg #[uJ c.iN,.string (readD c.iN c.iD c.iR ps n),.slice (some ⟨g2,0,none⟩) c.pn cp2,iJ c.iR],.string t,pX qw1.heap.size 11,.string t,bF,bF,undef,undef,undef,undef,bF,bF,undef,undef,bF,undef,undef,undef] ?_
   go_upto_region 7 with (fail)
   refine vR ?_
   refine vB cn_big qB15 (cn_size _) ?_
   refine vV (.string t) ?_
   refine sB (cnCells {c with iN:=c.iN,iD:=(readD c.iN c.iD c.iR ps n),pa:=(some ⟨g2,0,none⟩),pn:=c.pn,pc:=cp2,iR:=c.iR}) cn_big Z (cn_size _) (cn_size _) (cn_one _) ?_
   intro qw16 qt17 qB18
   clear Z
   replace A:=A.touch qt17 (by omega)
   replace qB15:=qB15.touch qt17 (by omega)
   replace H2:=H2.touch qt17 (by omega)
   replace G:=since_touch G qt17 (by omega)
   have qt17_s:=qt17.size
   refine vV (.string t) ?_
   refine vE #[.agg (cnCells c),iJ n,pX w.heap.size 0,undef,pX (w.heap.size+1) 0,.string t,pX qw1.heap.size 0,.string t,.agg (cnCells c),.agg (cnCells {c with pa:=some ⟨g,0,none⟩,pc:=c.pn}),.agg (cnCells c),bT,bF,undef,undef,.tuple #[.agg #[uJ c.iN,.string (readD c.iN c.iD c.iR ps n),.slice (some ⟨g2,0,none⟩) c.pn cp2,iJ c.iR],.string t],pX w.heap.size 11,.agg #[uJ c.iN,.string c.iD,.slice c.pa c.pn c.pc,iJ c.iR],iJ n,.tuple #[.agg #[uJ c.iN,.string (readD c.iN c.iD c.iR ps n),.slice (some ⟨g2,0,none⟩) c.pn cp2,iJ c.iR],.string t],.agg #[uJ c.iN,.string (readD c.iN c.iD c.iR ps n),.slice (some ⟨g2,0,none⟩) c.pn cp2,iJ c.iR],.string t,pX qw1.heap.size 11,.string t,bF,bF,undef,undef,undef,undef,bF,bF,undef,undef,bF,undef,.agg (cnCells {c with iN:=c.iN,iD:=(readD c.iN c.iD c.iR ps n),pa:=(some ⟨g2,0,none⟩),pn:=c.pn,pc:=cp2,iR:=c.iR}),.string t] ?_
   have e:Hid (d={c with iD:=readD c.iN c.iD c.iR ps n}):=hd.out.trans (by unfold readC;rw [← hq.out,← hrm.out,← ht.out,how];rfl)
   have ev:Hid (v=t):=hv.out.trans (by unfold readS;rw [← hq.out,← ht.out];rfl)
   go_wp2_with (fail)
   exact bodyPost_ret (results_cn2 (t:=4) (u:=5) rfl _ rfl qB18) rfl ⟨_,_,by rw [e.out,ev.out];rfl,H2,G⟩
  case neg=>
   have e0:=text_empty h1
   by_cases h2:rm<100
   case neg=>
    have e1:decide (rm<100)=false:=decide_eq_false h2
    have how:owesR c.st rm t=false:=hoo.out.trans (by rw [e1];simp)
    clear h1
    refine vR ?_
    refine vV (.string t) ?_
    refine vV (.bool true) ?_ (hrun:=by simp [execOp,go_sem,e0])
    refine vV (bT) ?_
    refine vV (pX w.heap.size 11) ?_
    refine vP pIn_big A 11 [.int .u32 c.iN,.string c.iD,.slice c.pa c.pn c.pc,.int .i64 c.iR] ?_
    refine vK (hr _ (R.since G)) ?_
    intro qw16 qg17
    replace A:=A.since qg17
    replace Z:=Z.since qg17
    replace qB15:=qB15.since qg17
    replace H2:=H2.since qg17
    replace G:=G.trans qg17
    have qg17_s:=qg17.size
    refine vV (.bool false) ?_ (hrun:=by rw [← e1];kernel_rfl)
    refine vV (bF) ?_
    refine vV (bF) ?_
    refine vS ?_
    refine vS ?_
    refine vV (bF) ?_
    refine vE #[.agg (cnCells c),iJ n,pX w.heap.size 0,undef,pX (w.heap.size+1) 0,.string ⟨#[]⟩,pX qw1.heap.size 0,.string t,.agg (cnCells c),.agg (cnCells {c with pa:=some ⟨g,0,none⟩,pc:=c.pn}),.agg (cnCells c),bT,bF,undef,undef,.tuple #[.agg #[uJ c.iN,.string (readD c.iN c.iD c.iR ps n),.slice (some ⟨g2,0,none⟩) c.pn cp2,iJ c.iR],.string t],pX w.heap.size 11,.agg #[uJ c.iN,.string c.iD,.slice c.pa c.pn c.pc,iJ c.iR],iJ n,.tuple #[.agg #[uJ c.iN,.string (readD c.iN c.iD c.iR ps n),.slice (some ⟨g2,0,none⟩) c.pn cp2,iJ c.iR],.string t],.agg #[uJ c.iN,.string (readD c.iN c.iD c.iR ps n),.slice (some ⟨g2,0,none⟩) c.pn cp2,iJ c.iR],.string t,pX qw1.heap.size 11,.string t,bT,bT,pX w.heap.size 11,.agg #[uJ c.iN,.string c.iD,.slice c.pa c.pn c.pc,iJ c.iR],iJ rm,bF,bF,bF,undef,undef,bF,undef,undef,undef] ?_
    go_upto_region 7 with (fail)
    refine vR ?_
    refine vB cn_big qB15 (cn_size _) ?_
    refine vV (.string t) ?_
    refine sB (cnCells {c with iN:=c.iN,iD:=(readD c.iN c.iD c.iR ps n),pa:=(some ⟨g2,0,none⟩),pn:=c.pn,pc:=cp2,iR:=c.iR}) cn_big Z (cn_size _) (cn_size _) (cn_one _) ?_
    intro qw18 qt19 qB20
    clear Z
    replace A:=A.touch qt19 (by omega)
    replace qB15:=qB15.touch qt19 (by omega)
    replace H2:=H2.touch qt19 (by omega)
    replace G:=since_touch G qt19 (by omega)
    have qt19_s:=qt19.size
    refine vV (.string t) ?_
    refine vE #[.agg (cnCells c),iJ n,pX w.heap.size 0,undef,pX (w.heap.size+1) 0,.string t,pX qw1.heap.size 0,.string t,.agg (cnCells c),.agg (cnCells {c with pa:=some ⟨g,0,none⟩,pc:=c.pn}),.agg (cnCells c),bT,bF,undef,undef,.tuple #[.agg #[uJ c.iN,.string (readD c.iN c.iD c.iR ps n),.slice (some ⟨g2,0,none⟩) c.pn cp2,iJ c.iR],.string t],pX w.heap.size 11,.agg #[uJ c.iN,.string c.iD,.slice c.pa c.pn c.pc,iJ c.iR],iJ n,.tuple #[.agg #[uJ c.iN,.string (readD c.iN c.iD c.iR ps n),.slice (some ⟨g2,0,none⟩) c.pn cp2,iJ c.iR],.string t],.agg #[uJ c.iN,.string (readD c.iN c.iD c.iR ps n),.slice (some ⟨g2,0,none⟩) c.pn cp2,iJ c.iR],.string t,pX qw1.heap.size 11,.string t,bT,bT,pX w.heap.size 11,.agg #[uJ c.iN,.string c.iD,.slice c.pa c.pn c.pc,iJ c.iR],iJ rm,bF,bF,bF,undef,undef,bF,undef,.agg (cnCells {c with iN:=c.iN,iD:=(readD c.iN c.iD c.iR ps n),pa:=(some ⟨g2,0,none⟩),pn:=c.pn,pc:=cp2,iR:=c.iR}),.string t] ?_
    have e:Hid (d={c with iD:=readD c.iN c.iD c.iR ps n}):=hd.out.trans (by unfold readC;rw [← hq.out,← hrm.out,← ht.out,how];rfl)
    have ev:Hid (v=t):=hv.out.trans (by unfold readS;rw [← hq.out,← ht.out];rfl)
    go_wp2_with (fail)
    exact bodyPost_ret (results_cn2 (t:=4) (u:=5) rfl _ rfl qB20) rfl ⟨_,_,by rw [e.out,ev.out];rfl,H2,G⟩
   case pos=>
    have e1:decide (rm<100)=true:=decide_eq_true h2
    cases sb
    case false=>
     have how:owesR c.st rm t=false:=hoo.out.trans (by rw [e1,decide_eq_false h1];rfl)
     clear h1
     refine vR ?_
     refine vV (.string t) ?_
     refine vV (.bool true) ?_ (hrun:=by simp [execOp,go_sem,e0])
     refine vV (bT) ?_
     refine vV (pX w.heap.size 11) ?_
     refine vP pIn_big A 11 [.int .u32 c.iN,.string c.iD,.slice c.pa c.pn c.pc,.int .i64 c.iR] ?_
     refine vK (hr _ (R.since G)) ?_
     intro qw16 qg17
     replace A:=A.since qg17
     replace Z:=Z.since qg17
     replace qB15:=qB15.since qg17
     replace H2:=H2.since qg17
     replace G:=G.trans qg17
     have qg17_s:=qg17.size
     refine vV (.bool true) ?_ (hrun:=by rw [← e1];kernel_rfl)
     refine vV (bT) ?_
     refine vV (bT) ?_
     refine vB cn_big A (cn_size _) ?_
     refine vK (hst _) ?_
     intro qw18 qg19
     replace A:=A.since qg19
     replace Z:=Z.since qg19
     replace qB15:=qB15.since qg19
     replace H2:=H2.since qg19
     replace G:=G.trans qg19
     have qg19_s:=qg19.size
     refine vV (bF) ?_
     refine vE #[.agg (cnCells c),iJ n,pX w.heap.size 0,undef,pX (w.heap.size+1) 0,.string ⟨#[]⟩,pX qw1.heap.size 0,.string t,.agg (cnCells c),.agg (cnCells {c with pa:=some ⟨g,0,none⟩,pc:=c.pn}),.agg (cnCells c),bT,bF,undef,undef,.tuple #[.agg #[uJ c.iN,.string (readD c.iN c.iD c.iR ps n),.slice (some ⟨g2,0,none⟩) c.pn cp2,iJ c.iR],.string t],pX w.heap.size 11,.agg #[uJ c.iN,.string c.iD,.slice c.pa c.pn c.pc,iJ c.iR],iJ n,.tuple #[.agg #[uJ c.iN,.string (readD c.iN c.iD c.iR ps n),.slice (some ⟨g2,0,none⟩) c.pn cp2,iJ c.iR],.string t],.agg #[uJ c.iN,.string (readD c.iN c.iD c.iR ps n),.slice (some ⟨g2,0,none⟩) c.pn cp2,iJ c.iR],.string t,pX qw1.heap.size 11,.string t,bT,bT,pX w.heap.size 11,.agg #[uJ c.iN,.string c.iD,.slice c.pa c.pn c.pc,iJ c.iR],iJ rm,bT,bT,bT,.agg (cnCells c),bF,bF,undef,undef,undef] ?_
     go_upto_region 7 with (fail)
     refine vR ?_
     refine vB cn_big qB15 (cn_size _) ?_
     refine vV (.string t) ?_
     refine sB (cnCells {c with iN:=c.iN,iD:=(readD c.iN c.iD c.iR ps n),pa:=(some ⟨g2,0,none⟩),pn:=c.pn,pc:=cp2,iR:=c.iR}) cn_big Z (cn_size _) (cn_size _) (cn_one _) ?_
     intro qw20 qt21 qB22
     clear Z
     replace A:=A.touch qt21 (by omega)
     replace qB15:=qB15.touch qt21 (by omega)
     replace H2:=H2.touch qt21 (by omega)
     replace G:=since_touch G qt21 (by omega)
     have qt21_s:=qt21.size
     refine vV (.string t) ?_
     refine vE #[.agg (cnCells c),iJ n,pX w.heap.size 0,undef,pX (w.heap.size+1) 0,.string t,pX qw1.heap.size 0,.string t,.agg (cnCells c),.agg (cnCells {c with pa:=some ⟨g,0,none⟩,pc:=c.pn}),.agg (cnCells c),bT,bF,undef,undef,.tuple #[.agg #[uJ c.iN,.string (readD c.iN c.iD c.iR ps n),.slice (some ⟨g2,0,none⟩) c.pn cp2,iJ c.iR],.string t],pX w.heap.size 11,.agg #[uJ c.iN,.string c.iD,.slice c.pa c.pn c.pc,iJ c.iR],iJ n,.tuple #[.agg #[uJ c.iN,.string (readD c.iN c.iD c.iR ps n),.slice (some ⟨g2,0,none⟩) c.pn cp2,iJ c.iR],.string t],.agg #[uJ c.iN,.string (readD c.iN c.iD c.iR ps n),.slice (some ⟨g2,0,none⟩) c.pn cp2,iJ c.iR],.string t,pX qw1.heap.size 11,.string t,bT,bT,pX w.heap.size 11,.agg #[uJ c.iN,.string c.iD,.slice c.pa c.pn c.pc,iJ c.iR],iJ rm,bT,bT,bT,.agg (cnCells c),bF,bF,undef,.agg (cnCells {c with iN:=c.iN,iD:=(readD c.iN c.iD c.iR ps n),pa:=(some ⟨g2,0,none⟩),pn:=c.pn,pc:=cp2,iR:=c.iR}),.string t] ?_
     have e:Hid (d={c with iD:=readD c.iN c.iD c.iR ps n}):=hd.out.trans (by unfold readC;rw [← hq.out,← hrm.out,← ht.out,how];rfl)
     have ev:Hid (v=t):=hv.out.trans (by unfold readS;rw [← hq.out,← ht.out];rfl)
     go_wp2_with (fail)
     exact bodyPost_ret (results_cn2 (t:=4) (u:=5) rfl _ rfl qB22) rfl ⟨_,_,by rw [e.out,ev.out];rfl,H2,G⟩
    case true=>
     have how:owesR c.st rm t=true:=hoo.out.trans (by rw [e1,decide_eq_false h1];rfl)
     clear h1
     refine vR ?_
     refine vV (.string t) ?_
     refine vV (.bool true) ?_ (hrun:=by simp [execOp,go_sem,e0])
     refine vV (bT) ?_
     refine vV (pX w.heap.size 11) ?_
     refine vP pIn_big A 11 [.int .u32 c.iN,.string c.iD,.slice c.pa c.pn c.pc,.int .i64 c.iR] ?_
     refine vK (hr _ (R.since G)) ?_
     intro qw16 qg17
     replace A:=A.since qg17
     replace Z:=Z.since qg17
     replace qB15:=qB15.since qg17
     replace H2:=H2.since qg17
     replace G:=G.trans qg17
     have qg17_s:=qg17.size
     refine vV (.bool true) ?_ (hrun:=by rw [← e1];kernel_rfl)
     refine vV (bT) ?_
     refine vV (bT) ?_
     refine vB cn_big A (cn_size _) ?_
     refine vK (hst _) ?_
     intro qw18 qg19
     replace A:=A.since qg19
     replace Z:=Z.since qg19
     replace qB15:=qB15.since qg19
     replace H2:=H2.since qg19
     replace G:=G.trans qg19
     have qg19_s:=qg19.size
     refine vV (bT) ?_
     refine vE #[.agg (cnCells c),iJ n,pX w.heap.size 0,undef,pX (w.heap.size+1) 0,.string ⟨#[]⟩,pX qw1.heap.size 0,.string t,.agg (cnCells c),.agg (cnCells {c with pa:=some ⟨g,0,none⟩,pc:=c.pn}),.agg (cnCells c),bT,bF,undef,undef,.tuple #[.agg #[uJ c.iN,.string (readD c.iN c.iD c.iR ps n),.slice (some ⟨g2,0,none⟩) c.pn cp2,iJ c.iR],.string t],pX w.heap.size 11,.agg #[uJ c.iN,.string c.iD,.slice c.pa c.pn c.pc,iJ c.iR],iJ n,.tuple #[.agg #[uJ c.iN,.string (readD c.iN c.iD c.iR ps n),.slice (some ⟨g2,0,none⟩) c.pn cp2,iJ c.iR],.string t],.agg #[uJ c.iN,.string (readD c.iN c.iD c.iR ps n),.slice (some ⟨g2,0,none⟩) c.pn cp2,iJ c.iR],.string t,pX qw1.heap.size 11,.string t,bT,bT,pX w.heap.size 11,.agg #[uJ c.iN,.string c.iD,.slice c.pa c.pn c.pc,iJ c.iR],iJ rm,bT,bT,bT,.agg (cnCells c),bT,bT,undef,undef,undef] ?_
     go_upto_region 6 with (fail)
     refine vR ?_
     refine vV (pX qw1.heap.size 36) ?_
     refine sC (cnCells {c with iN:=c.iN,iD:=(readD c.iN c.iD c.iR ps n),pa:=(some ⟨g2,0,none⟩),pn:=c.pn,pc:=cp2,iR:=c.iR,owe:=true}) qB15 36 (.bool true) (cn_size _) ?_
     intro qw20 qt21 qB22
     clear qB15
     replace A:=A.touch qt21 (by omega)
     replace Z:=Z.touch qt21 (by omega)
     replace H2:=H2.touch qt21 (by omega)
     replace G:=since_touch G qt21 (by omega)
     have qt21_s:=qt21.size
     refine vE #[.agg (cnCells c),iJ n,pX w.heap.size 0,undef,pX (w.heap.size+1) 0,.string ⟨#[]⟩,pX qw1.heap.size 0,.string t,.agg (cnCells c),.agg (cnCells {c with pa:=some ⟨g,0,none⟩,pc:=c.pn}),.agg (cnCells c),bT,bF,undef,undef,.tuple #[.agg #[uJ c.iN,.string (readD c.iN c.iD c.iR ps n),.slice (some ⟨g2,0,none⟩) c.pn cp2,iJ c.iR],.string t],pX w.heap.size 11,.agg #[uJ c.iN,.string c.iD,.slice c.pa c.pn c.pc,iJ c.iR],iJ n,.tuple #[.agg #[uJ c.iN,.string (readD c.iN c.iD c.iR ps n),.slice (some ⟨g2,0,none⟩) c.pn cp2,iJ c.iR],.string t],.agg #[uJ c.iN,.string (readD c.iN c.iD c.iR ps n),.slice (some ⟨g2,0,none⟩) c.pn cp2,iJ c.iR],.string t,pX qw1.heap.size 11,.string t,bT,bT,pX w.heap.size 11,.agg #[uJ c.iN,.string c.iD,.slice c.pa c.pn c.pc,iJ c.iR],iJ rm,bT,bT,bT,.agg (cnCells c),bT,bT,pX qw1.heap.size 36,undef,undef] ?_
     go_upto_region 7 with (fail)
     refine vR ?_
     refine vB cn_big qB22 (cn_size _) ?_
     refine vV (.string t) ?_
     refine sB (cnCells {c with iN:=c.iN,iD:=(readD c.iN c.iD c.iR ps n),pa:=(some ⟨g2,0,none⟩),pn:=c.pn,pc:=cp2,iR:=c.iR,owe:=true}) cn_big Z (cn_size _) (cn_size _) (cn_one _) ?_
     intro qw23 qt24 qB25
     clear Z
     replace A:=A.touch qt24 (by omega)
     replace qB22:=qB22.touch qt24 (by omega)
     replace H2:=H2.touch qt24 (by omega)
     replace G:=since_touch G qt24 (by omega)
     have qt24_s:=qt24.size
     refine vV (.string t) ?_
     refine vE #[.agg (cnCells c),iJ n,pX w.heap.size 0,undef,pX (w.heap.size+1) 0,.string t,pX qw1.heap.size 0,.string t,.agg (cnCells c),.agg (cnCells {c with pa:=some ⟨g,0,none⟩,pc:=c.pn}),.agg (cnCells c),bT,bF,undef,undef,.tuple #[.agg #[uJ c.iN,.string (readD c.iN c.iD c.iR ps n),.slice (some ⟨g2,0,none⟩) c.pn cp2,iJ c.iR],.string t],pX w.heap.size 11,.agg #[uJ c.iN,.string c.iD,.slice c.pa c.pn c.pc,iJ c.iR],iJ n,.tuple #[.agg #[uJ c.iN,.string (readD c.iN c.iD c.iR ps n),.slice (some ⟨g2,0,none⟩) c.pn cp2,iJ c.iR],.string t],.agg #[uJ c.iN,.string (readD c.iN c.iD c.iR ps n),.slice (some ⟨g2,0,none⟩) c.pn cp2,iJ c.iR],.string t,pX qw1.heap.size 11,.string t,bT,bT,pX w.heap.size 11,.agg #[uJ c.iN,.string c.iD,.slice c.pa c.pn c.pc,iJ c.iR],iJ rm,bT,bT,bT,.agg (cnCells c),bT,bT,pX qw1.heap.size 36,.agg (cnCells {c with iN:=c.iN,iD:=(readD c.iN c.iD c.iR ps n),pa:=(some ⟨g2,0,none⟩),pn:=c.pn,pc:=cp2,iR:=c.iR,owe:=true}),.string t] ?_
     have e:Hid (d={c with iD:=readD c.iN c.iD c.iR ps n,owe:=true}):=hd.out.trans (by unfold readC;rw [← hq.out,← hrm.out,← ht.out,how];rfl)
     have ev:Hid (v=t):=hv.out.trans (by unfold readS;rw [← hq.out,← ht.out];rfl)
     go_wp2_with (fail)
     exact bodyPost_ret (results_cn2 (t:=4) (u:=5) rfl _ rfl qB25) rfl ⟨_,_,by rw [e.out,ev.out];rfl,H2,G⟩
end Go.Proofs.YtmigalhmlofbkaaGreatDoor
