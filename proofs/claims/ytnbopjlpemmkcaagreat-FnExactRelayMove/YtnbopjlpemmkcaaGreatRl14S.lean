/-
  A turn of both pipes, as spec makes it.
-/
import Derived.Test.YtnbopjlpemmkcaaGreatM21
import Derived.Test.YtnbopjlpemmkcaaGreatMv13S
import Derived.Test.YtnbopjlpemmkcaaGreatM15
import Derived.Deep.DeepCutAuto
namespace Go.Proofs.YtnbopjlpemmkcaaGreat
open Go.ChangeShapes Go.WideShapes Go.ChangeAt Go.RowKit Go.Deep
set_option linter.unusedVariables false
set_option maxRecDepth 10000
set_option linter.unusedSimpArgs false

theorem gave_no {c:Cn} (h:gaveB c=false):c.st≠0∨(c.st=0∧c.why=0):=by
 unfold gaveB at h
 by_cases h0:c.st=0
 ·rw [if_pos h0] at h
  simp at h
  exact .inr ⟨h0,h⟩
 ·exact .inl h0

theorem gave_yes {c:Cn} (h:gaveB c=true):c.st=0∧c.why≠0:=by
 unfold gaveB at h
 split at h
 ·rename_i h0
  simp at h
  exact ⟨h0,h⟩
 ·cases h

set_option maxRecDepth 20000 in
set_option maxHeartbeats 16000000 in
theorem specR0 (r:Int) (d:ByteArray) (e:Bool) (n:Int) (sr:Int) (sd:ByteArray) (se:Bool) (sn:Int) (L:Cn) (ps:List (Int×ByteArray)) (R:Cn) (qs:List (Int×ByteArray)) (gL:GoodC L ps) (gR:GoodC R qs) (hd:d.size≤1048576) (hf:sd.size≤1048576) (q p q2 p2:Nat) (w:World) (RL:Rd shP w (some ⟨q,0,none⟩) L.pn ps) (RR:Rd shP w (some ⟨q2,0,none⟩) R.pn qs) (hno:(pipeOk r d n && (pipeOk sr sd sn && (connOk L ps && connOk R qs)))=false) :
  Calls Tryz.prog 6 #[.agg #[.int .i64 r,.string d,.bool e,.int .i64 n,.int .i64 sr,.string sd,.bool se,.int .i64 sn],.agg (cnCells {L with pa:=some ⟨q,0,none⟩,pc:=p}),.agg (cnCells {R with pa:=some ⟨q2,0,none⟩,pc:=p2})] w fun x w'=>Hid (∃ (A:Rl) (g1 c1 g2 c2 ga ma ca gb mb cb:Nat),A=(rlAns (rlWay r d n sr sd sn L ps R qs) r d e n sr sd se sn L ps R qs)∧x=.returned (.tuple #[.agg #[.int .i64 r,.string A.d,.bool A.e,.int .i64 A.n,.int .i64 sr,.string A.f,.bool A.g,.int .i64 A.m],.agg (cnCells {A.L with pa:=some ⟨g1,0,none⟩,pc:=c1}),.agg (cnCells {A.R with pa:=some ⟨g2,0,none⟩,pc:=c2}),.slice (some ⟨ga,0,none⟩) ma ca,.slice (some ⟨gb,0,none⟩) mb cb])∧Held shP w' w.heap.size g1 L.pn c1 ps∧Held shP w' w.heap.size g2 R.pn c2 qs∧Held shG w' w.heap.size ga ma ca A.xa∧Held shG w' w.heap.size gb mb cb A.xb∧Since w w'):=by
 have hk1:=fun wx=>specPipeOk r d e n wx
 have hk2:=fun wx=>specPipeOk sr sd se sn wx
 unfold ppVal at hk1 hk2
 have hk3:=fun g cp wx Rx=>specOkAt L ps gL g cp wx Rx
 have hk4:=fun g cp wx Rx=>specOkAt R qs gR g cp wx Rx
 have hcL:=fun wx Rx=>sCopy gL q p wx Rx
 have hcR:=fun wx Rx=>sCopy gR q2 p2 wx Rx
 obtain ⟨kw,hkw⟩:∃ k,Hid (k=rlWay r d n sr sd sn L ps R qs):=⟨_,rfl⟩
 rw [← hkw.out]
 have ek:Hid (kw=0):=(by rw [hkw.out];unfold rlWay;rw [hno];rfl:kw=0)
 replace hno:Hid _:=hno
 have G:=Since.refl w
 go_enter Tryz.func6,Tryz.ntmps6
 go_upto_region 0 with (fail)
 refine vR ?_
 refine vW (w.alloc (.cells #[.int .i64 r,.string d,.bool e,.int .i64 n,.int .i64 sr,.string sd,.bool se,.int .i64 sn] 42)) (.pointer (some ⟨w.heap.size,0,none⟩)) ?_
 have qB2:=Blk.new w #[.int .i64 r,.string d,.bool e,.int .i64 n,.int .i64 sr,.string sd,.bool se,.int .i64 sn] 42
 have qg3:=(Since.refl w).alloc (.cells #[.int .i64 r,.string d,.bool e,.int .i64 n,.int .i64 sr,.string sd,.bool se,.int .i64 sn] 42)
 replace G:=G.trans qg3
 generalize w.alloc (.cells #[.int .i64 r,.string d,.bool e,.int .i64 n,.int .i64 sr,.string sd,.bool se,.int .i64 sn] 42)=qw1 at  G qB2 qg3 ⊢
 have qB2_l:=qB2.lt
 have qg3_s:=qg3.size
 refine vW (qw1.alloc (.cells (cnCells {L with pa:=some ⟨q,0,none⟩,pc:=p}) 50)) (.pointer (some ⟨qw1.heap.size,0,none⟩)) ?_
 have qB5:=Blk.new qw1 (cnCells {L with pa:=some ⟨q,0,none⟩,pc:=p}) 50
 have qg6:=(Since.refl qw1).alloc (.cells (cnCells {L with pa:=some ⟨q,0,none⟩,pc:=p}) 50)
 replace qB2:=qB2.since qg6
 replace G:=G.trans qg6
 generalize qw1.alloc (.cells (cnCells {L with pa:=some ⟨q,0,none⟩,pc:=p}) 50)=qw4 at qB2 G qB5 qg6 ⊢
 have qB5_l:=qB5.lt
 have qg6_s:=qg6.size
 refine vW (qw4.alloc (.cells (cnCells {R with pa:=some ⟨q2,0,none⟩,pc:=p2}) 50)) (.pointer (some ⟨qw4.heap.size,0,none⟩)) ?_
 have qB8:=Blk.new qw4 (cnCells {R with pa:=some ⟨q2,0,none⟩,pc:=p2}) 50
 have qg9:=(Since.refl qw4).alloc (.cells (cnCells {R with pa:=some ⟨q2,0,none⟩,pc:=p2}) 50)
 replace qB2:=qB2.since qg9
 replace qB5:=qB5.since qg9
 replace G:=G.trans qg9
 generalize qw4.alloc (.cells (cnCells {R with pa:=some ⟨q2,0,none⟩,pc:=p2}) 50)=qw7 at qB2 qB5 G qB8 qg9 ⊢
 have qB8_l:=qB8.lt
 have qg9_s:=qg9.size
 refine vW (qw7.alloc (.cells #[.int .i64 0,.string ByteArray.empty,.bool false,.int .i64 0,.int .i64 0,.string ByteArray.empty,.bool false,.int .i64 0] 42)) (.pointer (some ⟨qw7.heap.size,0,none⟩)) ?_
 have qB11:=Blk.new qw7 #[.int .i64 0,.string ByteArray.empty,.bool false,.int .i64 0,.int .i64 0,.string ByteArray.empty,.bool false,.int .i64 0] 42
 have qg12:=(Since.refl qw7).alloc (.cells #[.int .i64 0,.string ByteArray.empty,.bool false,.int .i64 0,.int .i64 0,.string ByteArray.empty,.bool false,.int .i64 0] 42)
 replace qB2:=qB2.since qg12
 replace qB5:=qB5.since qg12
 replace qB8:=qB8.since qg12
 replace G:=G.trans qg12
 generalize qw7.alloc (.cells #[.int .i64 0,.string ByteArray.empty,.bool false,.int .i64 0,.int .i64 0,.string ByteArray.empty,.bool false,.int .i64 0] 42)=qw10 at qB2 qB5 qB8 G qB11 qg12 ⊢
 have qB11_l:=qB11.lt
 have qg12_s:=qg12.size
 refine vW (qw10.alloc (.cells (cnCells cnZero) 50)) (.pointer (some ⟨qw10.heap.size,0,none⟩)) ?_
 have qB14:=Blk.new qw10 (cnCells cnZero) 50
 have qg15:=(Since.refl qw10).alloc (.cells (cnCells cnZero) 50)
 replace qB2:=qB2.since qg15
 replace qB5:=qB5.since qg15
 replace qB8:=qB8.since qg15
 replace qB11:=qB11.since qg15
 replace G:=G.trans qg15
 generalize qw10.alloc (.cells (cnCells cnZero) 50)=qw13 at qB2 qB5 qB8 qB11 G qB14 qg15 ⊢
 have qB14_l:=qB14.lt
 have qg15_s:=qg15.size
 refine vW (qw13.alloc (.cells (cnCells cnZero) 50)) (.pointer (some ⟨qw13.heap.size,0,none⟩)) ?_
 have qB17:=Blk.new qw13 (cnCells cnZero) 50
 have qg18:=(Since.refl qw13).alloc (.cells (cnCells cnZero) 50)
 replace qB2:=qB2.since qg18
 replace qB5:=qB5.since qg18
 replace qB8:=qB8.since qg18
 replace qB11:=qB11.since qg18
 replace qB14:=qB14.since qg18
 replace G:=G.trans qg18
 generalize qw13.alloc (.cells (cnCells cnZero) 50)=qw16 at qB2 qB5 qB8 qB11 qB14 G qB17 qg18 ⊢
 have qB17_l:=qB17.lt
 have qg18_s:=qg18.size
 refine vV (.slice none 0 0) ?_
 refine vV (.slice none 0 0) ?_
 refine vE #[.agg #[.int .i64 r,.string d,.bool e,.int .i64 n,.int .i64 sr,.string sd,.bool se,.int .i64 sn],.agg (cnCells {L with pa:=some ⟨q,0,none⟩,pc:=p}),.agg (cnCells {R with pa:=some ⟨q2,0,none⟩,pc:=p2}),pX w.heap.size 0,pX qw1.heap.size 0,pX qw4.heap.size 0,pX qw7.heap.size 0,pX qw10.heap.size 0,pX qw13.heap.size 0,.slice none 0 0,.slice none 0 0,U,U,U,U,U,U,U,U,U,U,U,U,U,U,U,U,U,U,U,U,U,U,U,U,U,U,U,U,U,U,U,U,U,U,U,U,U,U,U,U,U,U,U,U,U,U,U,U,U,U,U,U,U,U,U,U,U,U,U,U,U,U,U,U,U,U,U,U,U,U,U,U,U,U,U,U,U,U,U,U,U,U,U,U,U,U,U,U,U,U,U,U,U,U,U,U,U,U,U,U,U,U,U,U,U] ?_
 generalize (.agg #[.int .i64 r,.string d,.bool e,.int .i64 n,.int .i64 sr,.string sd,.bool se,.int .i64 sn]:Value)=qz19
 generalize (.agg (cnCells {L with pa:=some ⟨q,0,none⟩,pc:=p}):Value)=qz20
 generalize (.agg (cnCells {R with pa:=some ⟨q2,0,none⟩,pc:=p2}):Value)=qz21
 go_upto_region 1 with (fail)
 refine vR ?_
 refine vW (qw16.alloc (.cells #[] 99)) (.slice (some ⟨qw16.heap.size,0,none⟩) 0 0) ?_
 have qL23:=heldG0 qw16
 have qg24:=(Since.refl qw16).alloc (.cells #[] 99)
 replace qB2:=qB2.since qg24
 replace qB5:=qB5.since qg24
 replace qB8:=qB8.since qg24
 replace qB11:=qB11.since qg24
 replace qB14:=qB14.since qg24
 replace qB17:=qB17.since qg24
 replace G:=G.trans qg24
 generalize qw16.alloc (.cells #[] 99)=qw22 at qB2 qB5 qB8 qB11 qB14 qB17 G qL23 qg24 ⊢
 have qg24_s:=qg24.size
 have qL23_g:=G.size
 have qL23_l:=qL23.lt
 replace qL23:=qL23.raise (show w.heap.size≤qw16.heap.size by omega)
 refine vV (.slice (some ⟨qw16.heap.size,0,none⟩) 0 0) ?_
 refine vE #[qz19,qz20,qz21,pX w.heap.size 0,pX qw1.heap.size 0,pX qw4.heap.size 0,pX qw7.heap.size 0,pX qw10.heap.size 0,pX qw13.heap.size 0,.slice none 0 0,.slice none 0 0,.slice (some ⟨qw16.heap.size,0,none⟩) 0 0,U,U,U,U,U,U,U,U,U,U,.slice (some ⟨qw16.heap.size,0,none⟩) 0 0,U,U,U,U,U,U,U,U,U,U,U,U,U,U,U,U,U,U,U,U,U,U,U,U,U,U,U,U,U,U,U,U,U,U,U,U,U,U,U,U,U,U,U,U,U,U,U,U,U,U,U,U,U,U,U,U,U,U,U,U,U,U,U,U,U,U,U,U,U,U,U,U,U,U,U,U,U,U,U,U,U,U,U,U,U,U,U,U,U,U,U,U,U] ?_
 go_upto_region 2 with (fail)
 refine vR ?_
 refine vB cn_big qB5 (cn_size _) ?_
 refine vC (hcL _ (RL.since G)) ?_
 rintro _ qw25 ⟨g1,c1,rfl,H1,qg26⟩
 refine ⟨_,rfl,?_⟩
 replace qB2:=qB2.since qg26
 replace qB5:=qB5.since qg26
 replace qB8:=qB8.since qg26
 replace qB11:=qB11.since qg26
 replace qB14:=qB14.since qg26
 replace qB17:=qB17.since qg26
 replace qL23:=qL23.since qg26
 replace G:=G.trans qg26
 have qg26_s:=qg26.size
 have H1_0:=H1.low'
 replace H1:=H1.raise (show w.heap.size≤g1 by omega)
 have H1_1:=H1.lt
 refine sB (cnCells {L with pa:=some ⟨g1,0,none⟩,pc:=c1}) cn_big qB5 (cn_size _) (cn_size _) (cn_one _) ?_
 intro qw27 qt28 qB29
 clear qB5
 replace qB2:=qB2.touch qt28 (by omega)
 replace qB8:=qB8.touch qt28 (by omega)
 replace qB11:=qB11.touch qt28 (by omega)
 replace qB14:=qB14.touch qt28 (by omega)
 replace qB17:=qB17.touch qt28 (by omega)
 replace qL23:=qL23.touch qt28 (by omega)
 replace H1:=H1.touch qt28 (by omega)
 replace G:=since_touch G qt28 (by omega)
 have qt28_s:=qt28.size
 refine vE #[qz19,qz20,qz21,pX w.heap.size 0,pX qw1.heap.size 0,pX qw4.heap.size 0,pX qw7.heap.size 0,pX qw10.heap.size 0,pX qw13.heap.size 0,.slice none 0 0,.slice none 0 0,.slice (some ⟨qw16.heap.size,0,none⟩) 0 0,U,U,U,U,U,U,U,U,U,U,.slice (some ⟨qw16.heap.size,0,none⟩) 0 0,.agg (cnCells {L with pa:=some ⟨q,0,none⟩,pc:=p}),.agg (cnCells {L with pa:=some ⟨g1,0,none⟩,pc:=c1}),U,U,U,U,U,U,U,U,U,U,U,U,U,U,U,U,U,U,U,U,U,U,U,U,U,U,U,U,U,U,U,U,U,U,U,U,U,U,U,U,U,U,U,U,U,U,U,U,U,U,U,U,U,U,U,U,U,U,U,U,U,U,U,U,U,U,U,U,U,U,U,U,U,U,U,U,U,U,U,U,U,U,U,U,U,U,U,U,U,U,U] ?_
 generalize (.agg (cnCells {L with pa:=some ⟨q,0,none⟩,pc:=p}):Value)=qz30
 generalize (.agg (cnCells {L with pa:=some ⟨g1,0,none⟩,pc:=c1}):Value)=qz31
 go_upto_region 3 with (fail)
 refine vR ?_
 refine vB cn_big qB8 (cn_size _) ?_
 refine vC (hcR _ (RR.since G)) ?_
 rintro _ qw32 ⟨g2,c2,rfl,H2,qg33⟩
 refine ⟨_,rfl,?_⟩
 replace qB2:=qB2.since qg33
 replace qB29:=qB29.since qg33
 replace qB8:=qB8.since qg33
 replace qB11:=qB11.since qg33
 replace qB14:=qB14.since qg33
 replace qB17:=qB17.since qg33
 replace qL23:=qL23.since qg33
 replace H1:=H1.since qg33
 replace G:=G.trans qg33
 have qg33_s:=qg33.size
 have H2_0:=H2.low'
 replace H2:=H2.raise (show w.heap.size≤g2 by omega)
 have H2_1:=H2.lt
 refine sB (cnCells {R with pa:=some ⟨g2,0,none⟩,pc:=c2}) cn_big qB8 (cn_size _) (cn_size _) (cn_one _) ?_
 intro qw34 qt35 qB36
 clear qB8
 replace qB2:=qB2.touch qt35 (by omega)
 replace qB29:=qB29.touch qt35 (by omega)
 replace qB11:=qB11.touch qt35 (by omega)
 replace qB14:=qB14.touch qt35 (by omega)
 replace qB17:=qB17.touch qt35 (by omega)
 replace qL23:=qL23.touch qt35 (by omega)
 replace H1:=H1.touch qt35 (by omega)
 replace H2:=H2.touch qt35 (by omega)
 replace G:=since_touch G qt35 (by omega)
 have qt35_s:=qt35.size
 refine vE #[qz19,qz20,qz21,pX w.heap.size 0,pX qw1.heap.size 0,pX qw4.heap.size 0,pX qw7.heap.size 0,pX qw10.heap.size 0,pX qw13.heap.size 0,.slice none 0 0,.slice none 0 0,.slice (some ⟨qw16.heap.size,0,none⟩) 0 0,U,U,U,U,U,U,U,U,U,U,.slice (some ⟨qw16.heap.size,0,none⟩) 0 0,qz30,qz31,.agg (cnCells {R with pa:=some ⟨q2,0,none⟩,pc:=p2}),.agg (cnCells {R with pa:=some ⟨g2,0,none⟩,pc:=c2}),U,U,U,U,U,U,U,U,U,U,U,U,U,U,U,U,U,U,U,U,U,U,U,U,U,U,U,U,U,U,U,U,U,U,U,U,U,U,U,U,U,U,U,U,U,U,U,U,U,U,U,U,U,U,U,U,U,U,U,U,U,U,U,U,U,U,U,U,U,U,U,U,U,U,U,U,U,U,U,U,U,U,U,U,U,U,U,U,U] ?_
 generalize (.agg (cnCells {R with pa:=some ⟨q2,0,none⟩,pc:=p2}):Value)=qz37
 generalize (.agg (cnCells {R with pa:=some ⟨g2,0,none⟩,pc:=c2}):Value)=qz38
 go_upto_region 4 with (fail)
 refine vR ?_
 refine vKey (T:=Value×Value×Value×Value×Value×Value×Value×Value×Value×Value×Value×Value×Value×Value×Value×Value×Value×Value×Value×Value×Value) (fun t=>#[qz19,qz20,qz21,.pointer (some ⟨w.heap.size,0,none⟩),.pointer (some ⟨qw1.heap.size,0,none⟩),.pointer (some ⟨qw4.heap.size,0,none⟩),.pointer (some ⟨qw7.heap.size,0,none⟩),.pointer (some ⟨qw10.heap.size,0,none⟩),.pointer (some ⟨qw13.heap.size,0,none⟩),.slice none 0 0,.slice none 0 0,.slice (some ⟨qw16.heap.size,0,none⟩) 0 0,undef,undef,undef,undef,undef,undef,undef,undef,undef,undef,.slice (some ⟨qw16.heap.size,0,none⟩) 0 0,qz30,qz31,qz37,qz38,.bool true,t.1,t.2.1,t.2.2.1,t.2.2.2.1,t.2.2.2.2.1,t.2.2.2.2.2.1,t.2.2.2.2.2.2.1,t.2.2.2.2.2.2.2.1,t.2.2.2.2.2.2.2.2.1,t.2.2.2.2.2.2.2.2.2.1,t.2.2.2.2.2.2.2.2.2.2.1,t.2.2.2.2.2.2.2.2.2.2.2.1,t.2.2.2.2.2.2.2.2.2.2.2.2.1,t.2.2.2.2.2.2.2.2.2.2.2.2.2.1,t.2.2.2.2.2.2.2.2.2.2.2.2.2.2.1,t.2.2.2.2.2.2.2.2.2.2.2.2.2.2.2.1,t.2.2.2.2.2.2.2.2.2.2.2.2.2.2.2.2.1,t.2.2.2.2.2.2.2.2.2.2.2.2.2.2.2.2.2.1,t.2.2.2.2.2.2.2.2.2.2.2.2.2.2.2.2.2.2.1,t.2.2.2.2.2.2.2.2.2.2.2.2.2.2.2.2.2.2.2.1,undef,undef,undef,undef,undef,undef,undef,undef,undef,undef,undef,undef,undef,undef,undef,undef,undef,undef,undef,undef,undef,undef,undef,undef,undef,undef,undef,undef,undef,undef,undef,undef,undef,undef,undef,undef,undef,undef,undef,undef,undef,undef,undef,undef,undef,undef,undef,undef,undef,undef,undef,undef,undef,undef,undef,undef,undef,undef,undef,undef,undef,undef,undef,undef,undef,undef,undef,undef]) ?_ (fun key=>?_)
 rotate_left
 ·have G:=Since.refl qw34
  replace key:Hid _:=key
  cases e1:pipeOk r d n
  case false=>
   rw [e1] at hk1
   refine vV (.pointer (some ⟨w.heap.size,0,none⟩)) ?_
   refine vP pp_big qB2 0 [.int .i64 r,.string d,.bool e,.int .i64 n] ?_
   refine vK (hk1 _) ?_
   intro qw39 qg40
   replace qB2:=qB2.since qg40
   replace qB29:=qB29.since qg40
   replace qB36:=qB36.since qg40
   replace H1:=H1.since qg40
   replace H2:=H2.since qg40
   replace G:=G.trans qg40
   have qg40_s:=qg40.size
   refine vV (.bool true) ?_
   refine vV (.bool true) ?_
   refine vS ?_
   refine vS ?_
   refine vS ?_
   refine vS ?_
   refine vV (.bool true) ?_
   refine vV (.bool true) ?_
   refine vS ?_
   refine vS ?_
   refine vS ?_
   refine vV (.bool true) ?_
   refine vV (.bool true) ?_
   refine vS ?_
   refine vS ?_
   refine vS ?_
   refine vV (.bool true) ?_
   refine vV (.bool true) ?_
   refine vF #[qz19,qz20,qz21,.pointer (some ⟨w.heap.size,0,none⟩),.pointer (some ⟨qw1.heap.size,0,none⟩),.pointer (some ⟨qw4.heap.size,0,none⟩),.pointer (some ⟨qw7.heap.size,0,none⟩),.pointer (some ⟨qw10.heap.size,0,none⟩),.pointer (some ⟨qw13.heap.size,0,none⟩),.slice none 0 0,.slice none 0 0,.slice (some ⟨qw16.heap.size,0,none⟩) 0 0,U,U,U,U,U,U,U,U,U,U,.slice (some ⟨qw16.heap.size,0,none⟩) 0 0,qz30,qz31,qz37,qz38,.bool true,.pointer (some ⟨w.heap.size,0,none⟩),.agg #[.int .i64 r,.string d,.bool e,.int .i64 n],.bool false,.bool true,.bool true,U,U,U,U,.bool true,.bool true,U,U,U,.bool true,.bool true,U,U,U,.bool true,U,U,U,U,U,U,U,U,U,U,U,U,U,U,U,U,U,U,U,U,U,U,U,U,U,U,U,U,U,U,U,U,U,U,U,U,U,U,U,U,U,U,U,U,U,U,U,U,U,U,U,U,U,U,U,U,U,U,U,U,U,U,U,U,U,U,U,U] ?_
   exact key.out (.pointer (some ⟨w.heap.size,0,none⟩),.agg #[.int .i64 r,.string d,.bool e,.int .i64 n],.bool false,.bool true,.bool true,undef,undef,undef,undef,.bool true,.bool true,undef,undef,undef,.bool true,.bool true,undef,undef,undef,.bool true,undef) _ G
  case true=>
  rw [e1] at hk1
  cases e2:pipeOk sr sd sn
  case false=>
   rw [e2] at hk2
   refine vV (.pointer (some ⟨w.heap.size,0,none⟩)) ?_
   refine vP pp_big qB2 0 [.int .i64 r,.string d,.bool e,.int .i64 n] ?_
   refine vK (hk1 _) ?_
   intro qw39 qg40
   replace qB2:=qB2.since qg40
   replace qB29:=qB29.since qg40
   replace qB36:=qB36.since qg40
   replace H1:=H1.since qg40
   replace H2:=H2.since qg40
   replace G:=G.trans qg40
   have qg40_s:=qg40.size
   refine vV (.bool false) ?_
   refine vV (.bool false) ?_
   refine vV (.pointer (some ⟨w.heap.size,4,none⟩)) ?_
   refine vP pp_big qB2 4 [.int .i64 sr,.string sd,.bool se,.int .i64 sn] ?_
   refine vK (hk2 _) ?_
   intro qw41 qg42
   replace qB2:=qB2.since qg42
   replace qB29:=qB29.since qg42
   replace qB36:=qB36.since qg42
   replace H1:=H1.since qg42
   replace H2:=H2.since qg42
   replace G:=G.trans qg42
   have qg42_s:=qg42.size
   refine vV (.bool true) ?_
   refine vV (.bool true) ?_
   refine vV (.bool true) ?_
   refine vS ?_
   refine vS ?_
   refine vS ?_
   refine vV (.bool true) ?_
   refine vV (.bool true) ?_
   refine vS ?_
   refine vS ?_
   refine vS ?_
   refine vV (.bool true) ?_
   refine vV (.bool true) ?_
   refine vF #[qz19,qz20,qz21,.pointer (some ⟨w.heap.size,0,none⟩),.pointer (some ⟨qw1.heap.size,0,none⟩),.pointer (some ⟨qw4.heap.size,0,none⟩),.pointer (some ⟨qw7.heap.size,0,none⟩),.pointer (some ⟨qw10.heap.size,0,none⟩),.pointer (some ⟨qw13.heap.size,0,none⟩),.slice none 0 0,.slice none 0 0,.slice (some ⟨qw16.heap.size,0,none⟩) 0 0,U,U,U,U,U,U,U,U,U,U,.slice (some ⟨qw16.heap.size,0,none⟩) 0 0,qz30,qz31,qz37,qz38,.bool true,.pointer (some ⟨w.heap.size,0,none⟩),.agg #[.int .i64 r,.string d,.bool e,.int .i64 n],.bool true,.bool false,.bool false,.pointer (some ⟨w.heap.size,4,none⟩),.agg #[.int .i64 sr,.string sd,.bool se,.int .i64 sn],.bool false,.bool true,.bool true,.bool true,U,U,U,.bool true,.bool true,U,U,U,.bool true,U,U,U,U,U,U,U,U,U,U,U,U,U,U,U,U,U,U,U,U,U,U,U,U,U,U,U,U,U,U,U,U,U,U,U,U,U,U,U,U,U,U,U,U,U,U,U,U,U,U,U,U,U,U,U,U,U,U,U,U,U,U,U,U,U,U,U,U] ?_
   exact key.out (.pointer (some ⟨w.heap.size,0,none⟩),.agg #[.int .i64 r,.string d,.bool e,.int .i64 n],.bool true,.bool false,.bool false,.pointer (some ⟨w.heap.size,4,none⟩),.agg #[.int .i64 sr,.string sd,.bool se,.int .i64 sn],.bool false,.bool true,.bool true,.bool true,undef,undef,undef,.bool true,.bool true,undef,undef,undef,.bool true,undef) _ G
  case true=>
  rw [e2] at hk2
  cases e3:connOk L ps
  case false=>
   rw [e3] at hk3
   refine vV (.pointer (some ⟨w.heap.size,0,none⟩)) ?_
   refine vP pp_big qB2 0 [.int .i64 r,.string d,.bool e,.int .i64 n] ?_
   refine vK (hk1 _) ?_
   intro qw39 qg40
   replace qB2:=qB2.since qg40
   replace qB29:=qB29.since qg40
   replace qB36:=qB36.since qg40
   replace H1:=H1.since qg40
   replace H2:=H2.since qg40
   replace G:=G.trans qg40
   have qg40_s:=qg40.size
   refine vV (.bool false) ?_
   refine vV (.bool false) ?_
   refine vV (.pointer (some ⟨w.heap.size,4,none⟩)) ?_
   refine vP pp_big qB2 4 [.int .i64 sr,.string sd,.bool se,.int .i64 sn] ?_
   refine vK (hk2 _) ?_
   intro qw41 qg42
   replace qB2:=qB2.since qg42
   replace qB29:=qB29.since qg42
   replace qB36:=qB36.since qg42
   replace H1:=H1.since qg42
   replace H2:=H2.since qg42
   replace G:=G.trans qg42
   have qg42_s:=qg42.size
   refine vV (.bool false) ?_
   refine vV (.bool false) ?_
   refine vV (.bool false) ?_
   refine vB cn_big qB29 (cn_size _) ?_
   refine vK (hk3 g1 c1 _ H1.reads) ?_
   intro qw43 qg44
   replace qB2:=qB2.since qg44
   replace qB29:=qB29.since qg44
   replace qB36:=qB36.since qg44
   replace H1:=H1.since qg44
   replace H2:=H2.since qg44
   replace G:=G.trans qg44
   have qg44_s:=qg44.size
   refine vV (.bool true) ?_
   refine vV (.bool true) ?_
   refine vV (.bool true) ?_
   refine vS ?_
   refine vS ?_
   refine vS ?_
   refine vV (.bool true) ?_
   refine vV (.bool true) ?_
   refine vF #[qz19,qz20,qz21,.pointer (some ⟨w.heap.size,0,none⟩),.pointer (some ⟨qw1.heap.size,0,none⟩),.pointer (some ⟨qw4.heap.size,0,none⟩),.pointer (some ⟨qw7.heap.size,0,none⟩),.pointer (some ⟨qw10.heap.size,0,none⟩),.pointer (some ⟨qw13.heap.size,0,none⟩),.slice none 0 0,.slice none 0 0,.slice (some ⟨qw16.heap.size,0,none⟩) 0 0,U,U,U,U,U,U,U,U,U,U,.slice (some ⟨qw16.heap.size,0,none⟩) 0 0,qz30,qz31,qz37,qz38,.bool true,.pointer (some ⟨w.heap.size,0,none⟩),.agg #[.int .i64 r,.string d,.bool e,.int .i64 n],.bool true,.bool false,.bool false,.pointer (some ⟨w.heap.size,4,none⟩),.agg #[.int .i64 sr,.string sd,.bool se,.int .i64 sn],.bool true,.bool false,.bool false,.bool false,.agg (cnCells {L with pa:=some ⟨g1,0,none⟩,pc:=c1}),.bool false,.bool true,.bool true,.bool true,U,U,U,.bool true,U,U,U,U,U,U,U,U,U,U,U,U,U,U,U,U,U,U,U,U,U,U,U,U,U,U,U,U,U,U,U,U,U,U,U,U,U,U,U,U,U,U,U,U,U,U,U,U,U,U,U,U,U,U,U,U,U,U,U,U,U,U,U,U,U,U,U,U] ?_
   exact key.out (.pointer (some ⟨w.heap.size,0,none⟩),.agg #[.int .i64 r,.string d,.bool e,.int .i64 n],.bool true,.bool false,.bool false,.pointer (some ⟨w.heap.size,4,none⟩),.agg #[.int .i64 sr,.string sd,.bool se,.int .i64 sn],.bool true,.bool false,.bool false,.bool false,.agg (cnCells {L with pa:=some ⟨g1,0,none⟩,pc:=c1}),.bool false,.bool true,.bool true,.bool true,undef,undef,undef,.bool true,undef) _ G
  case true=>
  rw [e3] at hk3
  cases e4:connOk R qs
  case false=>
   rw [e4] at hk4
   refine vV (.pointer (some ⟨w.heap.size,0,none⟩)) ?_
   refine vP pp_big qB2 0 [.int .i64 r,.string d,.bool e,.int .i64 n] ?_
   refine vK (hk1 _) ?_
   intro qw39 qg40
   replace qB2:=qB2.since qg40
   replace qB29:=qB29.since qg40
   replace qB36:=qB36.since qg40
   replace H1:=H1.since qg40
   replace H2:=H2.since qg40
   replace G:=G.trans qg40
   have qg40_s:=qg40.size
   refine vV (.bool false) ?_
   refine vV (.bool false) ?_
   refine vV (.pointer (some ⟨w.heap.size,4,none⟩)) ?_
   refine vP pp_big qB2 4 [.int .i64 sr,.string sd,.bool se,.int .i64 sn] ?_
   refine vK (hk2 _) ?_
   intro qw41 qg42
   replace qB2:=qB2.since qg42
   replace qB29:=qB29.since qg42
   replace qB36:=qB36.since qg42
   replace H1:=H1.since qg42
   replace H2:=H2.since qg42
   replace G:=G.trans qg42
   have qg42_s:=qg42.size
   refine vV (.bool false) ?_
   refine vV (.bool false) ?_
   refine vV (.bool false) ?_
   refine vB cn_big qB29 (cn_size _) ?_
   refine vK (hk3 g1 c1 _ H1.reads) ?_
   intro qw43 qg44
   replace qB2:=qB2.since qg44
   replace qB29:=qB29.since qg44
   replace qB36:=qB36.since qg44
   replace H1:=H1.since qg44
   replace H2:=H2.since qg44
   replace G:=G.trans qg44
   have qg44_s:=qg44.size
   refine vV (.bool false) ?_
   refine vV (.bool false) ?_
   refine vV (.bool false) ?_
   refine vB cn_big qB36 (cn_size _) ?_
   refine vK (hk4 g2 c2 _ H2.reads) ?_
   intro qw45 qg46
   replace qB2:=qB2.since qg46
   replace qB29:=qB29.since qg46
   replace qB36:=qB36.since qg46
   replace H1:=H1.since qg46
   replace H2:=H2.since qg46
   replace G:=G.trans qg46
   have qg46_s:=qg46.size
   refine vV (.bool true) ?_
   refine vV (.bool true) ?_
   refine vV (.bool true) ?_
   refine vF #[qz19,qz20,qz21,.pointer (some ⟨w.heap.size,0,none⟩),.pointer (some ⟨qw1.heap.size,0,none⟩),.pointer (some ⟨qw4.heap.size,0,none⟩),.pointer (some ⟨qw7.heap.size,0,none⟩),.pointer (some ⟨qw10.heap.size,0,none⟩),.pointer (some ⟨qw13.heap.size,0,none⟩),.slice none 0 0,.slice none 0 0,.slice (some ⟨qw16.heap.size,0,none⟩) 0 0,U,U,U,U,U,U,U,U,U,U,.slice (some ⟨qw16.heap.size,0,none⟩) 0 0,qz30,qz31,qz37,qz38,.bool true,.pointer (some ⟨w.heap.size,0,none⟩),.agg #[.int .i64 r,.string d,.bool e,.int .i64 n],.bool true,.bool false,.bool false,.pointer (some ⟨w.heap.size,4,none⟩),.agg #[.int .i64 sr,.string sd,.bool se,.int .i64 sn],.bool true,.bool false,.bool false,.bool false,.agg (cnCells {L with pa:=some ⟨g1,0,none⟩,pc:=c1}),.bool true,.bool false,.bool false,.bool false,.agg (cnCells {R with pa:=some ⟨g2,0,none⟩,pc:=c2}),.bool false,.bool true,.bool true,U,U,U,U,U,U,U,U,U,U,U,U,U,U,U,U,U,U,U,U,U,U,U,U,U,U,U,U,U,U,U,U,U,U,U,U,U,U,U,U,U,U,U,U,U,U,U,U,U,U,U,U,U,U,U,U,U,U,U,U,U,U,U,U,U,U,U,U] ?_
   exact key.out (.pointer (some ⟨w.heap.size,0,none⟩),.agg #[.int .i64 r,.string d,.bool e,.int .i64 n],.bool true,.bool false,.bool false,.pointer (some ⟨w.heap.size,4,none⟩),.agg #[.int .i64 sr,.string sd,.bool se,.int .i64 sn],.bool true,.bool false,.bool false,.bool false,.agg (cnCells {L with pa:=some ⟨g1,0,none⟩,pc:=c1}),.bool true,.bool false,.bool false,.bool false,.agg (cnCells {R with pa:=some ⟨g2,0,none⟩,pc:=c2}),.bool false,.bool true,.bool true,undef) _ G
  case true=>
  rw [e4] at hk4
  exact absurd hno.out (by rw [e1,e2,e3,e4];decide)
 intro t qw39 hS
 replace qB2:=qB2.since hS
 replace qB29:=qB29.since hS
 replace qB36:=qB36.since hS
 replace qB11:=qB11.since hS
 replace qB14:=qB14.since hS
 replace qB17:=qB17.since hS
 replace qL23:=qL23.since hS
 replace H1:=H1.since hS
 replace H2:=H2.since hS
 replace G:=G.trans hS
 have hS_s:=hS.size
 clear hS
 obtain ⟨z28,t⟩:=t
 obtain ⟨z29,t⟩:=t
 obtain ⟨z30,t⟩:=t
 obtain ⟨z31,t⟩:=t
 obtain ⟨z32,t⟩:=t
 obtain ⟨z33,t⟩:=t
 obtain ⟨z34,t⟩:=t
 obtain ⟨z35,t⟩:=t
 obtain ⟨z36,t⟩:=t
 obtain ⟨z37,t⟩:=t
 obtain ⟨z38,t⟩:=t
 obtain ⟨z39,t⟩:=t
 obtain ⟨z40,t⟩:=t
 obtain ⟨z41,t⟩:=t
 obtain ⟨z42,t⟩:=t
 obtain ⟨z43,t⟩:=t
 obtain ⟨z44,t⟩:=t
 obtain ⟨z45,t⟩:=t
 obtain ⟨z46,t⟩:=t
 obtain ⟨z47,t⟩:=t
 refine vE #[qz19,qz20,qz21,pX w.heap.size 0,pX qw1.heap.size 0,pX qw4.heap.size 0,pX qw7.heap.size 0,pX qw10.heap.size 0,pX qw13.heap.size 0,.slice none 0 0,.slice none 0 0,.slice (some ⟨qw16.heap.size,0,none⟩) 0 0,U,U,U,U,U,U,U,U,U,U,.slice (some ⟨qw16.heap.size,0,none⟩) 0 0,qz30,qz31,qz37,qz38,.bool true,z28,z29,z30,z31,z32,z33,z34,z35,z36,z37,z38,z39,z40,z41,z42,z43,z44,z45,z46,z47,U,U,U,U,U,U,U,U,U,U,U,U,U,U,U,U,U,U,U,U,U,U,U,U,U,U,U,U,U,U,U,U,U,U,U,U,U,U,U,U,U,U,U,U,U,U,U,U,U,U,U,U,U,U,U,U,U,U,U,U,U,U,U,U,U,U,U,U] ?_
 go_upto_region 5 with (fail)
 have o_w:w.heap.size≤qw7.heap.size:=by omega
 have o_t0:qw7.heap.size<qw10.heap.size:=by omega
 have o_t1:qw10.heap.size<qw13.heap.size:=by omega
 have o_x0:w.heap.size<qw7.heap.size:=by omega
 have o_y0:w.heap.size<qw39.heap.size:=by omega
 have o_x1:qw1.heap.size<qw7.heap.size:=by omega
 have o_y1:qw1.heap.size<qw39.heap.size:=by omega
 have o_x2:qw4.heap.size<qw7.heap.size:=by omega
 have o_y2:qw4.heap.size<qw39.heap.size:=by omega
 have o_x3:qw13.heap.size<qw16.heap.size:=by omega
 have o_y3:qw16.heap.size<qw39.heap.size:=by omega
 have o_x4:qw13.heap.size<g1:=by omega
 have o_y4:g1<qw39.heap.size:=by omega
 have o_x5:qw13.heap.size<g2:=by omega
 have o_y5:g2<qw39.heap.size:=by omega
 have o_n:qw13.heap.size<qw39.heap.size:=by omega
 try clear hne
 try clear hne2
 try clear qB2_l
 try clear qg3_s
 try clear qB5_l
 try clear qg6_s
 try clear qB8_l
 try clear qg9_s
 try clear qB11_l
 try clear qg12_s
 try clear qB14_l
 try clear qg15_s
 try clear qB17_l
 try clear qg18_s
 try clear qg24_s
 try clear qL23_g
 try clear qL23_l
 try clear qg26_s
 try clear H1_0
 try clear H1_1
 try clear qt28_s
 try clear qg33_s
 try clear H2_0
 try clear H2_1
 try clear qt35_s
 try clear qg40_s
 try clear qg42_s
 try clear qg44_s
 try clear qg46_s
 try clear hS_s
 have hN0:0<qw39.heap.size:=by have:=qB2.lt;omega
 refine wp_region_low (Low (fun b=>b<qw39.heap.size)) (fun i x v=>match i with
   | 0=>v=.agg #[.int .i64 r,.string d,.bool e,.int .i64 n,.int .i64 sr,.string sd,.bool se,.int .i64 sn]
   | 1=>v=.agg (cnCells {L with pa:=some ⟨g1,0,none⟩,pc:=c1})
   | 2=>v=.agg (cnCells {R with pa:=some ⟨g2,0,none⟩,pc:=c2})
   | 3=>v=.slice (some ⟨qw16.heap.size,0,none⟩) 0 0
   | 4=>v=.slice (some ⟨qw16.heap.size,0,none⟩) 0 0
   | 5=>True
   | 6=>True
   | 7=>True
   | 8=>v=.slice (some ⟨qw16.heap.size,0,none⟩) 0 0
   | 9=>v=.slice (some ⟨qw16.heap.size,0,none⟩) 0 0
   | _=>True) (fun f vals x=>Blk w.heap.size x #[.int .i64 r,.string d,.bool e,.int .i64 n,.int .i64 sr,.string sd,.bool se,.int .i64 sn]∧Blk qw1.heap.size x (cnCells {L with pa:=some ⟨g1,0,none⟩,pc:=c1})∧Blk qw4.heap.size x (cnCells {R with pa:=some ⟨g2,0,none⟩,pc:=c2})∧Blk qw7.heap.size x (if f 5 then #[.int .i64 r,.string d,.bool e,.int .i64 n,.int .i64 sr,.string sd,.bool se,.int .i64 sn] else #[.int .i64 0,.string ByteArray.empty,.bool false,.int .i64 0,.int .i64 0,.string ByteArray.empty,.bool false,.int .i64 0])∧Blk qw10.heap.size x (if f 6 then (cnCells {L with pa:=some ⟨g1,0,none⟩,pc:=c1}) else (cnCells cnZero))∧Blk qw13.heap.size x (if f 7 then (cnCells {R with pa:=some ⟨g2,0,none⟩,pc:=c2}) else (cnCells cnZero))∧Held shG x w.heap.size (qw16.heap.size) 0 0 ([]:List Sg)∧Held shP x w.heap.size g1 L.pn c1 ps∧Held shP x w.heap.size g2 R.pn c2 qs∧qw39.heap.size≤x.heap.size∧Since w x) (fun v=>{tmps:=#[qz19,qz20,qz21,.pointer (some ⟨w.heap.size,0,none⟩),.pointer (some ⟨qw1.heap.size,0,none⟩),.pointer (some ⟨qw4.heap.size,0,none⟩),.pointer (some ⟨qw7.heap.size,0,none⟩),.pointer (some ⟨qw10.heap.size,0,none⟩),.pointer (some ⟨qw13.heap.size,0,none⟩),v 8,v 9,.slice (some ⟨qw16.heap.size,0,none⟩) 0 0,undef,undef,undef,undef,undef,undef,undef,undef,undef,undef,.slice (some ⟨qw16.heap.size,0,none⟩) 0 0,qz30,qz31,qz37,qz38,.bool true,z28,z29,z30,z31,z32,z33,z34,z35,z36,z37,z38,z39,z40,z41,z42,z43,z44,z45,z46,z47,v 0,v 1,v 2,v 3,v 4,undef,undef,undef,undef,undef,undef,undef,undef,undef,undef,undef,undef,undef,undef,undef,undef,undef,undef,undef,undef,undef,undef,undef,undef,undef,undef,undef,undef,undef,undef,undef,undef,undef,undef,undef,undef,undef,undef,undef,undef,undef,undef,undef,undef,undef,undef,undef,undef,undef,undef,undef,undef,undef,undef,undef,undef,undef,undef,undef,undef,undef,undef,undef],defers:=[]}) (by kernel_rfl) (by kernel_rfl) ?_ ?_ (fun vals=>by kernel_rfl) ?_ ?_
 case refine_1=>
  intro j x y v hl hv
  match j,hv with
  | 0,hv|1,hv|2,hv|3,hv|4,hv|8,hv|9,hv=>exact hv
  | 5,hv|6,hv|7,hv=>trivial
  | n+10,_=>trivial
 case refine_2=>
  intro f vals hf
  refine ⟨qB2.since ((Since.refl _).drew),qB29.since ((Since.refl _).drew),qB36.since ((Since.refl _).drew),(by rw [hf 5];exact qB11.since ((Since.refl _).drew)),(by rw [hf 6];exact qB14.since ((Since.refl _).drew)),(by rw [hf 7];exact qB17.since ((Since.refl _).drew)),qL23.since ((Since.refl _).drew),H1.since ((Since.refl _).drew),H2.since ((Since.refl _).drew),((Since.refl _).drew).size,G.trans ((Since.refl _).drew)⟩
 case refine_3=>
  repeat (first|exact eachLow_nil|refine eachLow_cons ?_ ?_)
  all_goals intro f vals x hf hr hK
  all_goals obtain ⟨k0,k1,k2,k3,k4,k5,k6,k7,k8,k9,k10⟩:=hK
  ·have e4:vals 4=.slice (some ⟨qw16.heap.size,0,none⟩) 0 0:=(hr ⟨4,.data⟩ (by simp) rfl).2
   simp [does,doesUpon,go_sem,e4]
   exact ⟨Low.since (b:=0) (Since.refl _) (hN0),⟨k0,k1,k2,k3,k4,k5,k6,k7,k8,k9,k10⟩⟩
  ·have e3:vals 3=.slice (some ⟨qw16.heap.size,0,none⟩) 0 0:=(hr ⟨3,.data⟩ (by simp) rfl).2
   simp [does,doesUpon,go_sem,e3]
   exact ⟨Low.since (b:=0) (Since.refl _) (hN0),⟨k0,k1,k2,k3,k4,k5,k6,k7,k8,k9,k10⟩⟩
  ·have ev:vals 2=.agg (cnCells {R with pa:=some ⟨g2,0,none⟩,pc:=c2}):=(hr ⟨2,.data⟩ (by simp) rfl).2
   have kz:Blk qw13.heap.size x (cnCells cnZero):=by have:=k5;rw [hf] at this;exact this
   refine does_store cn_big (cn_size _) (Raw.of kz (cn_size _)) (cn_one _) _ _ rfl rfl ev ?_
   intro z t B
   exact ⟨Low.touch t (show qw13.heap.size<qw39.heap.size by omega),⟨k0.touch t (by omega),k1.touch t (by omega),k2.touch t (by omega),k3.touch t (by omega),k4.touch t (by omega),B,k6.touch t (by omega),k7.touch t (by omega),k8.touch t (by omega),Nat.le_trans k9 t.size,since_touch k10 t (by omega)⟩,trivial⟩
  ·have ev:vals 1=.agg (cnCells {L with pa:=some ⟨g1,0,none⟩,pc:=c1}):=(hr ⟨1,.data⟩ (by simp) rfl).2
   have kz:Blk qw10.heap.size x (cnCells cnZero):=by have:=k4;rw [hf] at this;exact this
   refine does_store cn_big (cn_size _) (Raw.of kz (cn_size _)) (cn_one _) _ _ rfl rfl ev ?_
   intro z t B
   exact ⟨Low.touch t (show qw10.heap.size<qw39.heap.size by omega),⟨k0.touch t (by omega),k1.touch t (by omega),k2.touch t (by omega),k3.touch t (by omega),B,k5.touch t (by omega),k6.touch t (by omega),k7.touch t (by omega),k8.touch t (by omega),Nat.le_trans k9 t.size,since_touch k10 t (by omega)⟩,trivial⟩
  ·have ev:vals 0=.agg #[.int .i64 r,.string d,.bool e,.int .i64 n,.int .i64 sr,.string sd,.bool se,.int .i64 sn]:=(hr ⟨0,.data⟩ (by simp) rfl).2
   have kz:Blk qw7.heap.size x #[.int .i64 0,.string ByteArray.empty,.bool false,.int .i64 0,.int .i64 0,.string ByteArray.empty,.bool false,.int .i64 0]:=by have:=k3;rw [hf] at this;exact this
   refine does_store rl_big rfl (Raw.of kz rfl) (by simp [Value.oneCell']) _ _ rfl rfl ev ?_
   intro z t B
   exact ⟨Low.touch t (show qw7.heap.size<qw39.heap.size by omega),⟨k0.touch t (by omega),k1.touch t (by omega),k2.touch t (by omega),B,k4.touch t (by omega),k5.touch t (by omega),k6.touch t (by omega),k7.touch t (by omega),k8.touch t (by omega),Nat.le_trans k9 t.size,since_touch k10 t (by omega)⟩,trivial⟩
  ·skip
   simp [does,doesUpon,go_sem]
   exact ⟨Low.since (b:=0) (Since.refl _) (hN0),⟨k0,k1,k2,k3,k4,k5,k6,k7,k8,k9,k10⟩⟩
  ·skip
   simp [does,doesUpon,go_sem]
   exact ⟨Low.since (b:=0) (Since.refl _) (hN0),⟨k0,k1,k2,k3,k4,k5,k6,k7,k8,k9,k10⟩⟩
  ·exact does_load cn_big (cn_size _) k2 _ rfl rfl ⟨Low.since (b:=0) (Since.refl _) (hN0),⟨k0,k1,k2,k3,k4,k5,k6,k7,k8,k9,k10⟩,rfl⟩
  ·exact does_load cn_big (cn_size _) k1 _ rfl rfl ⟨Low.since (b:=0) (Since.refl _) (hN0),⟨k0,k1,k2,k3,k4,k5,k6,k7,k8,k9,k10⟩,rfl⟩
  ·exact does_load rl_big rfl k0 _ rfl rfl ⟨Low.since (b:=0) (Since.refl _) (hN0),⟨k0,k1,k2,k3,k4,k5,k6,k7,k8,k9,k10⟩,rfl⟩
 intro f qv41 qw40 hK hf hv
 obtain ⟨k0,k1,k2,k3,k4,k5,k6,k7,k8,k9,k10⟩:=hK
 clear qB2 qB29 qB36 qB11 qB14 qB17 qL23 H1 H2 G
 have hv0:qv41 0=_:=hv 0 (by decide)
 have hv1:qv41 1=_:=hv 1 (by decide)
 have hv2:qv41 2=_:=hv 2 (by decide)
 have hv3:qv41 3=_:=hv 3 (by decide)
 have hv4:qv41 4=_:=hv 4 (by decide)
 have hv8:qv41 8=_:=hv 8 (by decide)
 have hv9:qv41 9=_:=hv 9 (by decide)
 clear hv
 simp only [hv0,hv1,hv2,hv3,hv4,hv8,hv9]
 clear hv0 hv1 hv2 hv3 hv4 hv8 hv9
 have qB2:=k0
 clear k0
 have qB29:=k1
 clear k1
 have qB36:=k2
 clear k2
 have qB11:Blk qw7.heap.size qw40 #[.int .i64 r,.string d,.bool e,.int .i64 n,.int .i64 sr,.string sd,.bool se,.int .i64 sn]:=by have:=k3;rw [hf 5 (by decide)] at this;exact this
 clear k3
 have qB14:Blk qw10.heap.size qw40 (cnCells {L with pa:=some ⟨g1,0,none⟩,pc:=c1}):=by have:=k4;rw [hf 6 (by decide)] at this;exact this
 clear k4
 have qB17:Blk qw13.heap.size qw40 (cnCells {R with pa:=some ⟨g2,0,none⟩,pc:=c2}):=by have:=k5;rw [hf 7 (by decide)] at this;exact this
 clear k5
 have qL23:=k6
 clear k6
 have H1:=k7
 clear k7
 have H2:=k8
 clear k8
 have G:=k10
 clear k10
 have qw40_l:=qB17.lt
 have qw40_n:=k9
 clear k9
 go_wp2_with (fail)
 exact bodyPost_ret (results_5 (hs:=rfl) (t:=6) (u:=7) (v:=8) (x:=9) (y:=10) rfl _ rfl rfl rfl qB11 qB14 qB17) rfl (hidI ⟨_,_,_,_,_,_,_,_,_,_,_,rfl,by rw [ek.out];rfl,H1,H2,by rw [ek.out];exact qL23,by rw [ek.out];exact qL23,G⟩)

set_option maxRecDepth 20000 in
set_option maxHeartbeats 16000000 in
theorem specRy (r:Int) (d:ByteArray) (e:Bool) (n:Int) (sr:Int) (sd:ByteArray) (se:Bool) (sn:Int) (L:Cn) (ps:List (Int×ByteArray)) (R:Cn) (qs:List (Int×ByteArray)) (gL:GoodC L ps) (gR:GoodC R qs) (hd:d.size≤1048576) (hf:sd.size≤1048576) (q p q2 p2:Nat) (w:World) (RL:Rd shP w (some ⟨q,0,none⟩) L.pn ps) (RR:Rd shP w (some ⟨q2,0,none⟩) R.pn qs) (e1:pipeOk r d n=true) (e2:pipeOk sr sd sn=true) (e3:connOk L ps=true) (e4:connOk R qs=true) :
  Calls Tryz.prog 6 #[.agg #[.int .i64 r,.string d,.bool e,.int .i64 n,.int .i64 sr,.string sd,.bool se,.int .i64 sn],.agg (cnCells {L with pa:=some ⟨q,0,none⟩,pc:=p}),.agg (cnCells {R with pa:=some ⟨q2,0,none⟩,pc:=p2})] w fun x w'=>Hid (∃ (A:Rl) (g1 c1 g2 c2 ga ma ca gb mb cb:Nat),A=(rlAns (rlWay r d n sr sd sn L ps R qs) r d e n sr sd se sn L ps R qs)∧x=.returned (.tuple #[.agg #[.int .i64 r,.string A.d,.bool A.e,.int .i64 A.n,.int .i64 sr,.string A.f,.bool A.g,.int .i64 A.m],.agg (cnCells {A.L with pa:=some ⟨g1,0,none⟩,pc:=c1}),.agg (cnCells {A.R with pa:=some ⟨g2,0,none⟩,pc:=c2}),.slice (some ⟨ga,0,none⟩) ma ca,.slice (some ⟨gb,0,none⟩) mb cb])∧Held shP w' w.heap.size g1 L.pn c1 ps∧Held shP w' w.heap.size g2 R.pn c2 qs∧Held shG w' w.heap.size ga ma ca A.xa∧Held shG w' w.heap.size gb mb cb A.xb∧Since w w'):=by
 have hk1:=fun wx=>specPipeOk r d e n wx
 have hk2:=fun wx=>specPipeOk sr sd se sn wx
 unfold ppVal at hk1 hk2
 have hk3:=fun g cp wx Rx=>specOkAt L ps gL g cp wx Rx
 have hk4:=fun g cp wx Rx=>specOkAt R qs gR g cp wx Rx
 have hcL:=fun wx Rx=>sCopy gL q p wx Rx
 have hcR:=fun wx Rx=>sCopy gR q2 p2 wx Rx
 obtain ⟨kw,hkw⟩:∃ k,Hid (k=rlWay r d n sr sd sn L ps R qs):=⟨_,rfl⟩
 rw [← hkw.out]
 rw [e1] at hk1
 replace e1:Hid _:=e1
 rw [e2] at hk2
 replace e2:Hid _:=e2
 rw [e3] at hk3
 replace e3:Hid _:=e3
 rw [e4] at hk4
 replace e4:Hid _:=e4
 have G:=Since.refl w
 go_enter Tryz.func6,Tryz.ntmps6
 go_upto_region 0 with (fail)
 refine vR ?_
 refine vW (w.alloc (.cells #[.int .i64 r,.string d,.bool e,.int .i64 n,.int .i64 sr,.string sd,.bool se,.int .i64 sn] 42)) (.pointer (some ⟨w.heap.size,0,none⟩)) ?_
 have qB2:=Blk.new w #[.int .i64 r,.string d,.bool e,.int .i64 n,.int .i64 sr,.string sd,.bool se,.int .i64 sn] 42
 have qg3:=(Since.refl w).alloc (.cells #[.int .i64 r,.string d,.bool e,.int .i64 n,.int .i64 sr,.string sd,.bool se,.int .i64 sn] 42)
 replace G:=G.trans qg3
 generalize w.alloc (.cells #[.int .i64 r,.string d,.bool e,.int .i64 n,.int .i64 sr,.string sd,.bool se,.int .i64 sn] 42)=qw1 at  G qB2 qg3 ⊢
 have qB2_l:=qB2.lt
 have qg3_s:=qg3.size
 refine vW (qw1.alloc (.cells (cnCells {L with pa:=some ⟨q,0,none⟩,pc:=p}) 50)) (.pointer (some ⟨qw1.heap.size,0,none⟩)) ?_
 have qB5:=Blk.new qw1 (cnCells {L with pa:=some ⟨q,0,none⟩,pc:=p}) 50
 have qg6:=(Since.refl qw1).alloc (.cells (cnCells {L with pa:=some ⟨q,0,none⟩,pc:=p}) 50)
 replace qB2:=qB2.since qg6
 replace G:=G.trans qg6
 generalize qw1.alloc (.cells (cnCells {L with pa:=some ⟨q,0,none⟩,pc:=p}) 50)=qw4 at qB2 G qB5 qg6 ⊢
 have qB5_l:=qB5.lt
 have qg6_s:=qg6.size
 refine vW (qw4.alloc (.cells (cnCells {R with pa:=some ⟨q2,0,none⟩,pc:=p2}) 50)) (.pointer (some ⟨qw4.heap.size,0,none⟩)) ?_
 have qB8:=Blk.new qw4 (cnCells {R with pa:=some ⟨q2,0,none⟩,pc:=p2}) 50
 have qg9:=(Since.refl qw4).alloc (.cells (cnCells {R with pa:=some ⟨q2,0,none⟩,pc:=p2}) 50)
 replace qB2:=qB2.since qg9
 replace qB5:=qB5.since qg9
 replace G:=G.trans qg9
 generalize qw4.alloc (.cells (cnCells {R with pa:=some ⟨q2,0,none⟩,pc:=p2}) 50)=qw7 at qB2 qB5 G qB8 qg9 ⊢
 have qB8_l:=qB8.lt
 have qg9_s:=qg9.size
 refine vW (qw7.alloc (.cells #[.int .i64 0,.string ByteArray.empty,.bool false,.int .i64 0,.int .i64 0,.string ByteArray.empty,.bool false,.int .i64 0] 42)) (.pointer (some ⟨qw7.heap.size,0,none⟩)) ?_
 have qB11:=Blk.new qw7 #[.int .i64 0,.string ByteArray.empty,.bool false,.int .i64 0,.int .i64 0,.string ByteArray.empty,.bool false,.int .i64 0] 42
 have qg12:=(Since.refl qw7).alloc (.cells #[.int .i64 0,.string ByteArray.empty,.bool false,.int .i64 0,.int .i64 0,.string ByteArray.empty,.bool false,.int .i64 0] 42)
 replace qB2:=qB2.since qg12
 replace qB5:=qB5.since qg12
 replace qB8:=qB8.since qg12
 replace G:=G.trans qg12
 generalize qw7.alloc (.cells #[.int .i64 0,.string ByteArray.empty,.bool false,.int .i64 0,.int .i64 0,.string ByteArray.empty,.bool false,.int .i64 0] 42)=qw10 at qB2 qB5 qB8 G qB11 qg12 ⊢
 have qB11_l:=qB11.lt
 have qg12_s:=qg12.size
 refine vW (qw10.alloc (.cells (cnCells cnZero) 50)) (.pointer (some ⟨qw10.heap.size,0,none⟩)) ?_
 have qB14:=Blk.new qw10 (cnCells cnZero) 50
 have qg15:=(Since.refl qw10).alloc (.cells (cnCells cnZero) 50)
 replace qB2:=qB2.since qg15
 replace qB5:=qB5.since qg15
 replace qB8:=qB8.since qg15
 replace qB11:=qB11.since qg15
 replace G:=G.trans qg15
 generalize qw10.alloc (.cells (cnCells cnZero) 50)=qw13 at qB2 qB5 qB8 qB11 G qB14 qg15 ⊢
 have qB14_l:=qB14.lt
 have qg15_s:=qg15.size
 refine vW (qw13.alloc (.cells (cnCells cnZero) 50)) (.pointer (some ⟨qw13.heap.size,0,none⟩)) ?_
 have qB17:=Blk.new qw13 (cnCells cnZero) 50
 have qg18:=(Since.refl qw13).alloc (.cells (cnCells cnZero) 50)
 replace qB2:=qB2.since qg18
 replace qB5:=qB5.since qg18
 replace qB8:=qB8.since qg18
 replace qB11:=qB11.since qg18
 replace qB14:=qB14.since qg18
 replace G:=G.trans qg18
 generalize qw13.alloc (.cells (cnCells cnZero) 50)=qw16 at qB2 qB5 qB8 qB11 qB14 G qB17 qg18 ⊢
 have qB17_l:=qB17.lt
 have qg18_s:=qg18.size
 refine vV (.slice none 0 0) ?_
 refine vV (.slice none 0 0) ?_
 refine vE #[.agg #[.int .i64 r,.string d,.bool e,.int .i64 n,.int .i64 sr,.string sd,.bool se,.int .i64 sn],.agg (cnCells {L with pa:=some ⟨q,0,none⟩,pc:=p}),.agg (cnCells {R with pa:=some ⟨q2,0,none⟩,pc:=p2}),pX w.heap.size 0,pX qw1.heap.size 0,pX qw4.heap.size 0,pX qw7.heap.size 0,pX qw10.heap.size 0,pX qw13.heap.size 0,.slice none 0 0,.slice none 0 0,U,U,U,U,U,U,U,U,U,U,U,U,U,U,U,U,U,U,U,U,U,U,U,U,U,U,U,U,U,U,U,U,U,U,U,U,U,U,U,U,U,U,U,U,U,U,U,U,U,U,U,U,U,U,U,U,U,U,U,U,U,U,U,U,U,U,U,U,U,U,U,U,U,U,U,U,U,U,U,U,U,U,U,U,U,U,U,U,U,U,U,U,U,U,U,U,U,U,U,U,U,U,U,U,U] ?_
 generalize (.agg #[.int .i64 r,.string d,.bool e,.int .i64 n,.int .i64 sr,.string sd,.bool se,.int .i64 sn]:Value)=qz19
 generalize (.agg (cnCells {L with pa:=some ⟨q,0,none⟩,pc:=p}):Value)=qz20
 generalize (.agg (cnCells {R with pa:=some ⟨q2,0,none⟩,pc:=p2}):Value)=qz21
 go_upto_region 1 with (fail)
 refine vR ?_
 refine vW (qw16.alloc (.cells #[] 99)) (.slice (some ⟨qw16.heap.size,0,none⟩) 0 0) ?_
 have qL23:=heldG0 qw16
 have qg24:=(Since.refl qw16).alloc (.cells #[] 99)
 replace qB2:=qB2.since qg24
 replace qB5:=qB5.since qg24
 replace qB8:=qB8.since qg24
 replace qB11:=qB11.since qg24
 replace qB14:=qB14.since qg24
 replace qB17:=qB17.since qg24
 replace G:=G.trans qg24
 generalize qw16.alloc (.cells #[] 99)=qw22 at qB2 qB5 qB8 qB11 qB14 qB17 G qL23 qg24 ⊢
 have qg24_s:=qg24.size
 have qL23_g:=G.size
 have qL23_l:=qL23.lt
 replace qL23:=qL23.raise (show w.heap.size≤qw16.heap.size by omega)
 refine vV (.slice (some ⟨qw16.heap.size,0,none⟩) 0 0) ?_
 refine vE #[qz19,qz20,qz21,pX w.heap.size 0,pX qw1.heap.size 0,pX qw4.heap.size 0,pX qw7.heap.size 0,pX qw10.heap.size 0,pX qw13.heap.size 0,.slice none 0 0,.slice none 0 0,.slice (some ⟨qw16.heap.size,0,none⟩) 0 0,U,U,U,U,U,U,U,U,U,U,.slice (some ⟨qw16.heap.size,0,none⟩) 0 0,U,U,U,U,U,U,U,U,U,U,U,U,U,U,U,U,U,U,U,U,U,U,U,U,U,U,U,U,U,U,U,U,U,U,U,U,U,U,U,U,U,U,U,U,U,U,U,U,U,U,U,U,U,U,U,U,U,U,U,U,U,U,U,U,U,U,U,U,U,U,U,U,U,U,U,U,U,U,U,U,U,U,U,U,U,U,U,U,U,U,U,U,U] ?_
 go_upto_region 2 with (fail)
 refine vR ?_
 refine vB cn_big qB5 (cn_size _) ?_
 refine vC (hcL _ (RL.since G)) ?_
 rintro _ qw25 ⟨g1,c1,rfl,H1,qg26⟩
 refine ⟨_,rfl,?_⟩
 replace qB2:=qB2.since qg26
 replace qB5:=qB5.since qg26
 replace qB8:=qB8.since qg26
 replace qB11:=qB11.since qg26
 replace qB14:=qB14.since qg26
 replace qB17:=qB17.since qg26
 replace qL23:=qL23.since qg26
 replace G:=G.trans qg26
 have qg26_s:=qg26.size
 have H1_0:=H1.low'
 replace H1:=H1.raise (show w.heap.size≤g1 by omega)
 have H1_1:=H1.lt
 refine sB (cnCells {L with pa:=some ⟨g1,0,none⟩,pc:=c1}) cn_big qB5 (cn_size _) (cn_size _) (cn_one _) ?_
 intro qw27 qt28 qB29
 clear qB5
 replace qB2:=qB2.touch qt28 (by omega)
 replace qB8:=qB8.touch qt28 (by omega)
 replace qB11:=qB11.touch qt28 (by omega)
 replace qB14:=qB14.touch qt28 (by omega)
 replace qB17:=qB17.touch qt28 (by omega)
 replace qL23:=qL23.touch qt28 (by omega)
 replace H1:=H1.touch qt28 (by omega)
 replace G:=since_touch G qt28 (by omega)
 have qt28_s:=qt28.size
 refine vE #[qz19,qz20,qz21,pX w.heap.size 0,pX qw1.heap.size 0,pX qw4.heap.size 0,pX qw7.heap.size 0,pX qw10.heap.size 0,pX qw13.heap.size 0,.slice none 0 0,.slice none 0 0,.slice (some ⟨qw16.heap.size,0,none⟩) 0 0,U,U,U,U,U,U,U,U,U,U,.slice (some ⟨qw16.heap.size,0,none⟩) 0 0,.agg (cnCells {L with pa:=some ⟨q,0,none⟩,pc:=p}),.agg (cnCells {L with pa:=some ⟨g1,0,none⟩,pc:=c1}),U,U,U,U,U,U,U,U,U,U,U,U,U,U,U,U,U,U,U,U,U,U,U,U,U,U,U,U,U,U,U,U,U,U,U,U,U,U,U,U,U,U,U,U,U,U,U,U,U,U,U,U,U,U,U,U,U,U,U,U,U,U,U,U,U,U,U,U,U,U,U,U,U,U,U,U,U,U,U,U,U,U,U,U,U,U,U,U,U,U,U] ?_
 generalize (.agg (cnCells {L with pa:=some ⟨q,0,none⟩,pc:=p}):Value)=qz30
 generalize (.agg (cnCells {L with pa:=some ⟨g1,0,none⟩,pc:=c1}):Value)=qz31
 go_upto_region 3 with (fail)
 refine vR ?_
 refine vB cn_big qB8 (cn_size _) ?_
 refine vC (hcR _ (RR.since G)) ?_
 rintro _ qw32 ⟨g2,c2,rfl,H2,qg33⟩
 refine ⟨_,rfl,?_⟩
 replace qB2:=qB2.since qg33
 replace qB29:=qB29.since qg33
 replace qB8:=qB8.since qg33
 replace qB11:=qB11.since qg33
 replace qB14:=qB14.since qg33
 replace qB17:=qB17.since qg33
 replace qL23:=qL23.since qg33
 replace H1:=H1.since qg33
 replace G:=G.trans qg33
 have qg33_s:=qg33.size
 have H2_0:=H2.low'
 replace H2:=H2.raise (show w.heap.size≤g2 by omega)
 have H2_1:=H2.lt
 refine sB (cnCells {R with pa:=some ⟨g2,0,none⟩,pc:=c2}) cn_big qB8 (cn_size _) (cn_size _) (cn_one _) ?_
 intro qw34 qt35 qB36
 clear qB8
 replace qB2:=qB2.touch qt35 (by omega)
 replace qB29:=qB29.touch qt35 (by omega)
 replace qB11:=qB11.touch qt35 (by omega)
 replace qB14:=qB14.touch qt35 (by omega)
 replace qB17:=qB17.touch qt35 (by omega)
 replace qL23:=qL23.touch qt35 (by omega)
 replace H1:=H1.touch qt35 (by omega)
 replace H2:=H2.touch qt35 (by omega)
 replace G:=since_touch G qt35 (by omega)
 have qt35_s:=qt35.size
 refine vE #[qz19,qz20,qz21,pX w.heap.size 0,pX qw1.heap.size 0,pX qw4.heap.size 0,pX qw7.heap.size 0,pX qw10.heap.size 0,pX qw13.heap.size 0,.slice none 0 0,.slice none 0 0,.slice (some ⟨qw16.heap.size,0,none⟩) 0 0,U,U,U,U,U,U,U,U,U,U,.slice (some ⟨qw16.heap.size,0,none⟩) 0 0,qz30,qz31,.agg (cnCells {R with pa:=some ⟨q2,0,none⟩,pc:=p2}),.agg (cnCells {R with pa:=some ⟨g2,0,none⟩,pc:=c2}),U,U,U,U,U,U,U,U,U,U,U,U,U,U,U,U,U,U,U,U,U,U,U,U,U,U,U,U,U,U,U,U,U,U,U,U,U,U,U,U,U,U,U,U,U,U,U,U,U,U,U,U,U,U,U,U,U,U,U,U,U,U,U,U,U,U,U,U,U,U,U,U,U,U,U,U,U,U,U,U,U,U,U,U,U,U,U,U,U] ?_
 generalize (.agg (cnCells {R with pa:=some ⟨q2,0,none⟩,pc:=p2}):Value)=qz37
 generalize (.agg (cnCells {R with pa:=some ⟨g2,0,none⟩,pc:=c2}):Value)=qz38
 go_upto_region 4 with (fail)
 refine vR ?_
 refine vV (.pointer (some ⟨w.heap.size,0,none⟩)) ?_
 refine vP pp_big qB2 0 [.int .i64 r,.string d,.bool e,.int .i64 n] ?_
 refine vK (hk1 _) ?_
 intro qw39 qg40
 replace qB2:=qB2.since qg40
 replace qB29:=qB29.since qg40
 replace qB36:=qB36.since qg40
 replace qB11:=qB11.since qg40
 replace qB14:=qB14.since qg40
 replace qB17:=qB17.since qg40
 replace qL23:=qL23.since qg40
 replace H1:=H1.since qg40
 replace H2:=H2.since qg40
 replace G:=G.trans qg40
 have qg40_s:=qg40.size
 refine vV (.bool false) ?_
 refine vV (.bool false) ?_
 refine vV (.pointer (some ⟨w.heap.size,4,none⟩)) ?_
 refine vP pp_big qB2 4 [.int .i64 sr,.string sd,.bool se,.int .i64 sn] ?_
 refine vK (hk2 _) ?_
 intro qw41 qg42
 replace qB2:=qB2.since qg42
 replace qB29:=qB29.since qg42
 replace qB36:=qB36.since qg42
 replace qB11:=qB11.since qg42
 replace qB14:=qB14.since qg42
 replace qB17:=qB17.since qg42
 replace qL23:=qL23.since qg42
 replace H1:=H1.since qg42
 replace H2:=H2.since qg42
 replace G:=G.trans qg42
 have qg42_s:=qg42.size
 refine vV (.bool false) ?_
 refine vV (.bool false) ?_
 refine vV (.bool false) ?_
 refine vB cn_big qB29 (cn_size _) ?_
 refine vK (hk3 g1 c1 _ H1.reads) ?_
 intro qw43 qg44
 replace qB2:=qB2.since qg44
 replace qB29:=qB29.since qg44
 replace qB36:=qB36.since qg44
 replace qB11:=qB11.since qg44
 replace qB14:=qB14.since qg44
 replace qB17:=qB17.since qg44
 replace qL23:=qL23.since qg44
 replace H1:=H1.since qg44
 replace H2:=H2.since qg44
 replace G:=G.trans qg44
 have qg44_s:=qg44.size
 refine vV (.bool false) ?_
 refine vV (.bool false) ?_
 refine vV (.bool false) ?_
 refine vB cn_big qB36 (cn_size _) ?_
 refine vK (hk4 g2 c2 _ H2.reads) ?_
 intro qw45 qg46
 replace qB2:=qB2.since qg46
 replace qB29:=qB29.since qg46
 replace qB36:=qB36.since qg46
 replace qB11:=qB11.since qg46
 replace qB14:=qB14.since qg46
 replace qB17:=qB17.since qg46
 replace qL23:=qL23.since qg46
 replace H1:=H1.since qg46
 replace H2:=H2.since qg46
 replace G:=G.trans qg46
 have qg46_s:=qg46.size
 refine vV (.bool false) ?_
 refine vV (.bool false) ?_
 refine vV (.bool false) ?_
 refine vE #[qz19,qz20,qz21,pX w.heap.size 0,pX qw1.heap.size 0,pX qw4.heap.size 0,pX qw7.heap.size 0,pX qw10.heap.size 0,pX qw13.heap.size 0,.slice none 0 0,.slice none 0 0,.slice (some ⟨qw16.heap.size,0,none⟩) 0 0,U,U,U,U,U,U,U,U,U,U,.slice (some ⟨qw16.heap.size,0,none⟩) 0 0,qz30,qz31,qz37,qz38,.bool false,pX w.heap.size 0,.agg #[.int .i64 r,.string d,.bool e,.int .i64 n],.bool true,.bool false,.bool false,pX w.heap.size 4,.agg #[.int .i64 sr,.string sd,.bool se,.int .i64 sn],.bool true,.bool false,.bool false,.bool false,.agg (cnCells {L with pa:=some ⟨g1,0,none⟩,pc:=c1}),.bool true,.bool false,.bool false,.bool false,.agg (cnCells {R with pa:=some ⟨g2,0,none⟩,pc:=c2}),.bool true,.bool false,.bool false,U,U,U,U,U,U,U,U,U,U,U,U,U,U,U,U,U,U,U,U,U,U,U,U,U,U,U,U,U,U,U,U,U,U,U,U,U,U,U,U,U,U,U,U,U,U,U,U,U,U,U,U,U,U,U,U,U,U,U,U,U,U,U,U,U,U,U,U] ?_
 generalize (.agg #[.int .i64 r,.string d,.bool e,.int .i64 n]:Value)=qz47
 generalize (.agg #[.int .i64 sr,.string sd,.bool se,.int .i64 sn]:Value)=qz48
 generalize (.agg (cnCells {L with pa:=some ⟨g1,0,none⟩,pc:=c1}):Value)=qz49
 generalize (.agg (cnCells {R with pa:=some ⟨g2,0,none⟩,pc:=c2}):Value)=qz50
 go_upto_region 6 with (fail)
 cases hgL:gaveB L
 case true=>
  have ek:Hid (kw=1):=(by rw [hkw.out];unfold rlWay;rw [e1.out,e2.out,e3.out,e4.out,hgL];rfl:kw=1)
  have hab:=fun g cp wx Rx=>sAbort gR g cp wx Rx
  obtain ⟨AC,hAC⟩:∃ x,Hid (x=abortC R qs):=⟨_,rfl⟩
  obtain ⟨LL,hLL⟩:∃ x,Hid (x=abortS R qs):=⟨_,rfl⟩
  rw [← hAC.out,← hLL.out] at hab
  have mL:=gave_yes hgL
  have mL0:Hid ((L.st == 0)=true):=(by simp [mL.1]:(L.st == 0)=true)
  have mL1:Hid ((L.why != 0)=true):=(by simp [mL.2]:(L.why != 0)=true)
  clear mL
  replace hgL:Hid _:=hgL
  refine vR ?_
  refine vV (.pointer (some ⟨qw1.heap.size,0,none⟩)) ?_
  refine vD (.int .i64 L.st) (qB29.cell 0) ?_
  refine vV (.bool true) ?_ (hrun:=by rw [show true=(L.st == 0) from mL0.out.symm];kernel_rfl)
  refine vV (.bool true) ?_
  refine vV (.pointer (some ⟨qw1.heap.size,35,none⟩)) ?_
  refine vD (.int .i64 L.why) (qB29.cell 35) ?_
  refine vV (.bool true) ?_ (hrun:=by rw [show true=(L.why != 0) from mL1.out.symm];kernel_rfl)
  refine vV (.bool true) ?_
  refine vV (.bool true) ?_
  refine vE #[qz19,qz20,qz21,pX w.heap.size 0,pX qw1.heap.size 0,pX qw4.heap.size 0,pX qw7.heap.size 0,pX qw10.heap.size 0,pX qw13.heap.size 0,.slice none 0 0,.slice none 0 0,.slice (some ⟨qw16.heap.size,0,none⟩) 0 0,U,U,U,U,U,U,U,U,U,U,.slice (some ⟨qw16.heap.size,0,none⟩) 0 0,qz30,qz31,qz37,qz38,.bool false,pX w.heap.size 0,qz47,.bool true,.bool false,.bool false,pX w.heap.size 4,qz48,.bool true,.bool false,.bool false,.bool false,qz49,.bool true,.bool false,.bool false,.bool false,qz50,.bool true,.bool false,.bool false,U,U,U,U,U,.bool true,pX qw1.heap.size 0,.int .i64 L.st,.bool true,.bool true,pX qw1.heap.size 35,.int .i64 L.why,.bool true,.bool true,U,U,U,U,U,U,U,U,U,U,U,U,U,U,U,U,U,U,U,U,U,U,U,U,U,U,U,U,U,U,U,U,U,U,U,U,U,U,U,U,U,U,U,U,U,U,U,U,U,U,U,U,U,U] ?_
  go_upto_region 7 with (fail)
  refine vR ?_
  refine vB cn_big qB36 (cn_size _) ?_
  refine vC (hab g2 c2 _ H2.reads) ?_
  rintro _ qw51 ⟨g5,c5,ga,ma,ca,rfl,H5,L5,qg52⟩
  refine ⟨_,rfl,?_⟩
  replace qB2:=qB2.since qg52
  replace qB29:=qB29.since qg52
  replace qB36:=qB36.since qg52
  replace qB11:=qB11.since qg52
  replace qB14:=qB14.since qg52
  replace qB17:=qB17.since qg52
  replace qL23:=qL23.since qg52
  replace H1:=H1.since qg52
  replace H2:=H2.since qg52
  replace G:=G.trans qg52
  have qg52_s:=qg52.size
  have H5_0:=H5.low'
  replace H5:=H5.raise (show w.heap.size≤g5 by omega)
  have H5_1:=H5.lt
  clear H2
  have L5_0:=L5.low'
  replace L5:=L5.raise (show w.heap.size≤ga by omega)
  have L5_1:=L5.lt
  refine vV (.tuple #[.agg (cnCells {AC with pa:=some ⟨g5,0,none⟩,pc:=c5}),.slice (some ⟨ga,0,none⟩) ma ca]) ?_
  refine vV (.agg (cnCells {AC with pa:=some ⟨g5,0,none⟩,pc:=c5})) ?_
  refine vV (.slice (some ⟨ga,0,none⟩) ma ca) ?_
  refine vW (qw51.alloc (.cells (cnCells cnZero) 50)) (.pointer (some ⟨qw51.heap.size,0,none⟩)) ?_
  have qB54:=Blk.new qw51 (cnCells cnZero) 50
  have qg55:=(Since.refl qw51).alloc (.cells (cnCells cnZero) 50)
  replace qB2:=qB2.since qg55
  replace qB29:=qB29.since qg55
  replace qB36:=qB36.since qg55
  replace qB11:=qB11.since qg55
  replace qB14:=qB14.since qg55
  replace qB17:=qB17.since qg55
  replace qL23:=qL23.since qg55
  replace H1:=H1.since qg55
  replace H5:=H5.since qg55
  replace L5:=L5.since qg55
  replace G:=G.trans qg55
  generalize qw51.alloc (.cells (cnCells cnZero) 50)=qw53 at qB2 qB29 qB36 qB11 qB14 qB17 qL23 H1 H5 L5 G qB54 qg55 ⊢
  have qB54_l:=qB54.lt
  have qg55_s:=qg55.size
  refine sB (cnCells {AC with pa:=some ⟨g5,0,none⟩,pc:=c5}) cn_big qB54 (cn_size _) (cn_size _) (cn_one _) ?_
  intro qw56 qt57 qB58
  clear qB54
  replace qB2:=qB2.touch qt57 (by omega)
  replace qB29:=qB29.touch qt57 (by omega)
  replace qB36:=qB36.touch qt57 (by omega)
  replace qB11:=qB11.touch qt57 (by omega)
  replace qB14:=qB14.touch qt57 (by omega)
  replace qB17:=qB17.touch qt57 (by omega)
  replace qL23:=qL23.touch qt57 (by omega)
  replace H1:=H1.touch qt57 (by omega)
  replace H5:=H5.touch qt57 (by omega)
  replace L5:=L5.touch qt57 (by omega)
  replace G:=since_touch G qt57 (by omega)
  have qt57_s:=qt57.size
  refine vV (.slice (some ⟨ga,0,none⟩) ma ca) ?_
  refine vE #[qz19,qz20,qz21,pX w.heap.size 0,pX qw1.heap.size 0,pX qw4.heap.size 0,pX qw7.heap.size 0,pX qw10.heap.size 0,pX qw13.heap.size 0,.slice none 0 0,.slice none 0 0,.slice (some ⟨qw16.heap.size,0,none⟩) 0 0,pX qw51.heap.size 0,.slice (some ⟨ga,0,none⟩) ma ca,U,U,U,U,U,U,U,U,.slice (some ⟨qw16.heap.size,0,none⟩) 0 0,qz30,qz31,qz37,qz38,.bool false,pX w.heap.size 0,qz47,.bool true,.bool false,.bool false,pX w.heap.size 4,qz48,.bool true,.bool false,.bool false,.bool false,qz49,.bool true,.bool false,.bool false,.bool false,qz50,.bool true,.bool false,.bool false,U,U,U,U,U,.bool true,pX qw1.heap.size 0,.int .i64 L.st,.bool true,.bool true,pX qw1.heap.size 35,.int .i64 L.why,.bool true,.bool true,.tuple #[.agg (cnCells {AC with pa:=some ⟨g5,0,none⟩,pc:=c5}),.slice (some ⟨ga,0,none⟩) ma ca],.agg (cnCells {R with pa:=some ⟨g2,0,none⟩,pc:=c2}),.tuple #[.agg (cnCells {AC with pa:=some ⟨g5,0,none⟩,pc:=c5}),.slice (some ⟨ga,0,none⟩) ma ca],.agg (cnCells {AC with pa:=some ⟨g5,0,none⟩,pc:=c5}),.slice (some ⟨ga,0,none⟩) ma ca,U,U,U,U,U,U,U,U,U,U,U,U,U,U,U,U,U,U,U,U,U,U,U,U,U,U,U,U,U,U,U,U,U,U,U,U,U,U,U,U,U,U,U,U,U,U,U,U,U] ?_
  generalize (.tuple #[.agg (cnCells {AC with pa:=some ⟨g5,0,none⟩,pc:=c5}),.slice (some ⟨ga,0,none⟩) ma ca]:Value)=qz59
  generalize (.agg (cnCells {R with pa:=some ⟨g2,0,none⟩,pc:=c2}):Value)=qz60
  generalize (.agg (cnCells {AC with pa:=some ⟨g5,0,none⟩,pc:=c5}):Value)=qz61
  go_upto_region 8 with (fail)
  clear qB36
  have o_w:w.heap.size≤qw7.heap.size:=by omega
  have o_t0:qw7.heap.size<qw10.heap.size:=by omega
  have o_t1:qw10.heap.size<qw13.heap.size:=by omega
  have o_x0:w.heap.size<qw7.heap.size:=by omega
  have o_y0:w.heap.size<qw56.heap.size:=by omega
  have o_x1:qw1.heap.size<qw7.heap.size:=by omega
  have o_y1:qw1.heap.size<qw56.heap.size:=by omega
  have o_x2:qw13.heap.size<qw51.heap.size:=by omega
  have o_y2:qw51.heap.size<qw56.heap.size:=by omega
  have o_x3:qw13.heap.size<qw16.heap.size:=by omega
  have o_y3:qw16.heap.size<qw56.heap.size:=by omega
  have o_x4:qw13.heap.size<ga:=by omega
  have o_y4:ga<qw56.heap.size:=by omega
  have o_x5:qw13.heap.size<g5:=by omega
  have o_y5:g5<qw56.heap.size:=by omega
  have o_x6:qw13.heap.size<g1:=by omega
  have o_y6:g1<qw56.heap.size:=by omega
  have o_n:qw13.heap.size<qw56.heap.size:=by omega
  try clear hne
  try clear hne2
  try clear qB2_l
  try clear qg3_s
  try clear qB5_l
  try clear qg6_s
  try clear qB8_l
  try clear qg9_s
  try clear qB11_l
  try clear qg12_s
  try clear qB14_l
  try clear qg15_s
  try clear qB17_l
  try clear qg18_s
  try clear qg24_s
  try clear qL23_g
  try clear qL23_l
  try clear qg26_s
  try clear H1_0
  try clear H1_1
  try clear qt28_s
  try clear qg33_s
  try clear H2_0
  try clear H2_1
  try clear qt35_s
  try clear qg40_s
  try clear qg42_s
  try clear qg44_s
  try clear qg46_s
  try clear qg52_s
  try clear H5_0
  try clear H5_1
  try clear L5_0
  try clear L5_1
  try clear qB54_l
  try clear qg55_s
  try clear qt57_s
  have hN0:0<qw56.heap.size:=by have:=qB2.lt;omega
  refine wp_region_low (Low (fun b=>b<qw56.heap.size)) (fun i x v=>match i with
    | 0=>v=.agg #[.int .i64 r,.string d,.bool e,.int .i64 n,.int .i64 sr,.string sd,.bool se,.int .i64 sn]
    | 1=>v=.agg (cnCells {L with pa:=some ⟨g1,0,none⟩,pc:=c1})
    | 2=>v=.agg (cnCells {AC with pa:=some ⟨g5,0,none⟩,pc:=c5})
    | 3=>v=.slice (some ⟨qw16.heap.size,0,none⟩) 0 0
    | 4=>v=.slice (some ⟨ga,0,none⟩) ma ca
    | 5=>True
    | 6=>True
    | 7=>True
    | 8=>v=.slice (some ⟨qw16.heap.size,0,none⟩) 0 0
    | 9=>v=.slice (some ⟨ga,0,none⟩) ma ca
    | _=>True) (fun f vals x=>Blk w.heap.size x #[.int .i64 r,.string d,.bool e,.int .i64 n,.int .i64 sr,.string sd,.bool se,.int .i64 sn]∧Blk qw1.heap.size x (cnCells {L with pa:=some ⟨g1,0,none⟩,pc:=c1})∧Blk qw51.heap.size x (cnCells {AC with pa:=some ⟨g5,0,none⟩,pc:=c5})∧Blk qw7.heap.size x (if f 5 then #[.int .i64 r,.string d,.bool e,.int .i64 n,.int .i64 sr,.string sd,.bool se,.int .i64 sn] else #[.int .i64 0,.string ByteArray.empty,.bool false,.int .i64 0,.int .i64 0,.string ByteArray.empty,.bool false,.int .i64 0])∧Blk qw10.heap.size x (if f 6 then (cnCells {L with pa:=some ⟨g1,0,none⟩,pc:=c1}) else (cnCells cnZero))∧Blk qw13.heap.size x (if f 7 then (cnCells {AC with pa:=some ⟨g5,0,none⟩,pc:=c5}) else (cnCells cnZero))∧Held shG x w.heap.size (qw16.heap.size) 0 0 ([]:List Sg)∧Held shP x w.heap.size g1 L.pn c1 ps∧Held shP x w.heap.size g5 R.pn c5 qs∧Held shG x w.heap.size ga ma ca LL∧qw56.heap.size≤x.heap.size∧Since w x) (fun v=>{tmps:=#[qz19,qz20,qz21,.pointer (some ⟨w.heap.size,0,none⟩),.pointer (some ⟨qw1.heap.size,0,none⟩),.pointer (some ⟨qw4.heap.size,0,none⟩),.pointer (some ⟨qw7.heap.size,0,none⟩),.pointer (some ⟨qw10.heap.size,0,none⟩),.pointer (some ⟨qw13.heap.size,0,none⟩),v 8,v 9,.slice (some ⟨qw16.heap.size,0,none⟩) 0 0,.pointer (some ⟨qw51.heap.size,0,none⟩),.slice (some ⟨ga,0,none⟩) ma ca,undef,undef,undef,undef,undef,undef,undef,undef,.slice (some ⟨qw16.heap.size,0,none⟩) 0 0,qz30,qz31,qz37,qz38,.bool false,.pointer (some ⟨w.heap.size,0,none⟩),qz47,.bool true,.bool false,.bool false,.pointer (some ⟨w.heap.size,4,none⟩),qz48,.bool true,.bool false,.bool false,.bool false,qz49,.bool true,.bool false,.bool false,.bool false,qz50,.bool true,.bool false,.bool false,undef,undef,undef,undef,undef,.bool true,.pointer (some ⟨qw1.heap.size,0,none⟩),.int .i64 L.st,.bool true,.bool true,.pointer (some ⟨qw1.heap.size,35,none⟩),.int .i64 L.why,.bool true,.bool true,qz59,qz60,qz59,qz61,.slice (some ⟨ga,0,none⟩) ma ca,v 0,v 1,v 2,v 3,v 4,undef,undef,undef,undef,undef,undef,undef,undef,undef,undef,undef,undef,undef,undef,undef,undef,undef,undef,undef,undef,undef,undef,undef,undef,undef,undef,undef,undef,undef,undef,undef,undef,undef,undef,undef,undef,undef,undef,undef,undef,undef,undef,undef,undef],defers:=[]}) (by kernel_rfl) (by kernel_rfl) ?_ ?_ (fun vals=>by kernel_rfl) ?_ ?_
  case refine_1=>
   intro j x y v hl hv
   match j,hv with
   | 0,hv|1,hv|2,hv|3,hv|4,hv|8,hv|9,hv=>exact hv
   | 5,hv|6,hv|7,hv=>trivial
   | n+10,_=>trivial
  case refine_2=>
   intro f vals hf
   refine ⟨qB2.since ((Since.refl _).drew),qB29.since ((Since.refl _).drew),qB58.since ((Since.refl _).drew),(by rw [hf 5];exact qB11.since ((Since.refl _).drew)),(by rw [hf 6];exact qB14.since ((Since.refl _).drew)),(by rw [hf 7];exact qB17.since ((Since.refl _).drew)),qL23.since ((Since.refl _).drew),H1.since ((Since.refl _).drew),H5.since ((Since.refl _).drew),L5.since ((Since.refl _).drew),((Since.refl _).drew).size,G.trans ((Since.refl _).drew)⟩
  case refine_3=>
   repeat (first|exact eachLow_nil|refine eachLow_cons ?_ ?_)
   all_goals intro f vals x hf hr hK
   all_goals obtain ⟨k0,k1,k2,k3,k4,k5,k6,k7,k8,k9,k10,k11⟩:=hK
   ·have e4:vals 4=.slice (some ⟨ga,0,none⟩) ma ca:=(hr ⟨4,.data⟩ (by simp) rfl).2
    simp [does,doesUpon,go_sem,e4]
    exact ⟨Low.since (b:=0) (Since.refl _) (hN0),⟨k0,k1,k2,k3,k4,k5,k6,k7,k8,k9,k10,k11⟩⟩
   ·have e3:vals 3=.slice (some ⟨qw16.heap.size,0,none⟩) 0 0:=(hr ⟨3,.data⟩ (by simp) rfl).2
    simp [does,doesUpon,go_sem,e3]
    exact ⟨Low.since (b:=0) (Since.refl _) (hN0),⟨k0,k1,k2,k3,k4,k5,k6,k7,k8,k9,k10,k11⟩⟩
   ·have ev:vals 2=.agg (cnCells {AC with pa:=some ⟨g5,0,none⟩,pc:=c5}):=(hr ⟨2,.data⟩ (by simp) rfl).2
    have kz:Blk qw13.heap.size x (cnCells cnZero):=by have:=k5;rw [hf] at this;exact this
    refine does_store cn_big (cn_size _) (Raw.of kz (cn_size _)) (cn_one _) _ _ rfl rfl ev ?_
    intro z t B
    exact ⟨Low.touch t (show qw13.heap.size<qw56.heap.size by omega),⟨k0.touch t (by omega),k1.touch t (by omega),k2.touch t (by omega),k3.touch t (by omega),k4.touch t (by omega),B,k6.touch t (by omega),k7.touch t (by omega),k8.touch t (by omega),k9.touch t (by omega),Nat.le_trans k10 t.size,since_touch k11 t (by omega)⟩,trivial⟩
   ·have ev:vals 1=.agg (cnCells {L with pa:=some ⟨g1,0,none⟩,pc:=c1}):=(hr ⟨1,.data⟩ (by simp) rfl).2
    have kz:Blk qw10.heap.size x (cnCells cnZero):=by have:=k4;rw [hf] at this;exact this
    refine does_store cn_big (cn_size _) (Raw.of kz (cn_size _)) (cn_one _) _ _ rfl rfl ev ?_
    intro z t B
    exact ⟨Low.touch t (show qw10.heap.size<qw56.heap.size by omega),⟨k0.touch t (by omega),k1.touch t (by omega),k2.touch t (by omega),k3.touch t (by omega),B,k5.touch t (by omega),k6.touch t (by omega),k7.touch t (by omega),k8.touch t (by omega),k9.touch t (by omega),Nat.le_trans k10 t.size,since_touch k11 t (by omega)⟩,trivial⟩
   ·have ev:vals 0=.agg #[.int .i64 r,.string d,.bool e,.int .i64 n,.int .i64 sr,.string sd,.bool se,.int .i64 sn]:=(hr ⟨0,.data⟩ (by simp) rfl).2
    have kz:Blk qw7.heap.size x #[.int .i64 0,.string ByteArray.empty,.bool false,.int .i64 0,.int .i64 0,.string ByteArray.empty,.bool false,.int .i64 0]:=by have:=k3;rw [hf] at this;exact this
    refine does_store rl_big rfl (Raw.of kz rfl) (by simp [Value.oneCell']) _ _ rfl rfl ev ?_
    intro z t B
    exact ⟨Low.touch t (show qw7.heap.size<qw56.heap.size by omega),⟨k0.touch t (by omega),k1.touch t (by omega),k2.touch t (by omega),B,k4.touch t (by omega),k5.touch t (by omega),k6.touch t (by omega),k7.touch t (by omega),k8.touch t (by omega),k9.touch t (by omega),Nat.le_trans k10 t.size,since_touch k11 t (by omega)⟩,trivial⟩
   ·skip
    simp [does,doesUpon,go_sem]
    exact ⟨Low.since (b:=0) (Since.refl _) (hN0),⟨k0,k1,k2,k3,k4,k5,k6,k7,k8,k9,k10,k11⟩⟩
   ·skip
    simp [does,doesUpon,go_sem]
    exact ⟨Low.since (b:=0) (Since.refl _) (hN0),⟨k0,k1,k2,k3,k4,k5,k6,k7,k8,k9,k10,k11⟩⟩
   ·exact does_load cn_big (cn_size _) k2 _ rfl rfl ⟨Low.since (b:=0) (Since.refl _) (hN0),⟨k0,k1,k2,k3,k4,k5,k6,k7,k8,k9,k10,k11⟩,rfl⟩
   ·exact does_load cn_big (cn_size _) k1 _ rfl rfl ⟨Low.since (b:=0) (Since.refl _) (hN0),⟨k0,k1,k2,k3,k4,k5,k6,k7,k8,k9,k10,k11⟩,rfl⟩
   ·exact does_load rl_big rfl k0 _ rfl rfl ⟨Low.since (b:=0) (Since.refl _) (hN0),⟨k0,k1,k2,k3,k4,k5,k6,k7,k8,k9,k10,k11⟩,rfl⟩
  intro f qv63 qw62 hK hf hv
  obtain ⟨k0,k1,k2,k3,k4,k5,k6,k7,k8,k9,k10,k11⟩:=hK
  clear qB2 qB29 qB58 qB11 qB14 qB17 qL23 H1 H5 L5 G
  have hv0:qv63 0=_:=hv 0 (by decide)
  have hv1:qv63 1=_:=hv 1 (by decide)
  have hv2:qv63 2=_:=hv 2 (by decide)
  have hv3:qv63 3=_:=hv 3 (by decide)
  have hv4:qv63 4=_:=hv 4 (by decide)
  have hv8:qv63 8=_:=hv 8 (by decide)
  have hv9:qv63 9=_:=hv 9 (by decide)
  clear hv
  simp only [hv0,hv1,hv2,hv3,hv4,hv8,hv9]
  clear hv0 hv1 hv2 hv3 hv4 hv8 hv9
  have qB2:=k0
  clear k0
  have qB29:=k1
  clear k1
  have qB58:=k2
  clear k2
  have qB11:Blk qw7.heap.size qw62 #[.int .i64 r,.string d,.bool e,.int .i64 n,.int .i64 sr,.string sd,.bool se,.int .i64 sn]:=by have:=k3;rw [hf 5 (by decide)] at this;exact this
  clear k3
  have qB14:Blk qw10.heap.size qw62 (cnCells {L with pa:=some ⟨g1,0,none⟩,pc:=c1}):=by have:=k4;rw [hf 6 (by decide)] at this;exact this
  clear k4
  have qB17:Blk qw13.heap.size qw62 (cnCells {AC with pa:=some ⟨g5,0,none⟩,pc:=c5}):=by have:=k5;rw [hf 7 (by decide)] at this;exact this
  clear k5
  have qL23:=k6
  clear k6
  have H1:=k7
  clear k7
  have H5:=k8
  clear k8
  have L5:=k9
  clear k9
  have G:=k11
  clear k11
  have qw62_l:=qB17.lt
  have qw62_n:=k10
  clear k10
  rw [hAC.out] at qB17
  rw [hLL.out] at L5
  go_wp2_with (fail)
  exact bodyPost_ret (results_5 (hs:=rfl) (t:=6) (u:=7) (v:=8) (x:=9) (y:=10) rfl _ rfl rfl rfl qB11 qB14 qB17) rfl (hidI ⟨_,_,_,_,_,_,_,_,_,_,by rw [ek.out];rfl,H1,H5,by rw [ek.out];exact qL23,by rw [ek.out];exact L5,G⟩)
 case false=>
  have hgl:=hgL
  replace hgL:Hid _:=hgL
  refine vR ?_
  refine vAny (T:=Value×Value×Value×Value×Value×Value×Value×Value×Value) (fun t=>#[qz19,qz20,qz21,.pointer (some ⟨w.heap.size,0,none⟩),.pointer (some ⟨qw1.heap.size,0,none⟩),.pointer (some ⟨qw4.heap.size,0,none⟩),.pointer (some ⟨qw7.heap.size,0,none⟩),.pointer (some ⟨qw10.heap.size,0,none⟩),.pointer (some ⟨qw13.heap.size,0,none⟩),.slice none 0 0,.slice none 0 0,.slice (some ⟨qw16.heap.size,0,none⟩) 0 0,undef,undef,undef,undef,undef,undef,undef,undef,undef,undef,.slice (some ⟨qw16.heap.size,0,none⟩) 0 0,qz30,qz31,qz37,qz38,.bool false,.pointer (some ⟨w.heap.size,0,none⟩),qz47,.bool true,.bool false,.bool false,.pointer (some ⟨w.heap.size,4,none⟩),qz48,.bool true,.bool false,.bool false,.bool false,qz49,.bool true,.bool false,.bool false,.bool false,qz50,.bool true,.bool false,.bool false,undef,undef,undef,undef,undef,.bool false,t.1,t.2.1,t.2.2.1,t.2.2.2.1,t.2.2.2.2.1,t.2.2.2.2.2.1,t.2.2.2.2.2.2.1,t.2.2.2.2.2.2.2.1,undef,undef,undef,undef,undef,undef,undef,undef,undef,undef,undef,undef,undef,undef,undef,undef,undef,undef,undef,undef,undef,undef,undef,undef,undef,undef,undef,undef,undef,undef,undef,undef,undef,undef,undef,undef,undef,undef,undef,undef,undef,undef,undef,undef,undef,undef,undef,undef,undef,undef,undef,undef,undef,undef]) ?_ ?_
  rotate_left
  ·rcases gave_no hgL.out with h0|⟨h0,h1⟩
   ·have m0:Hid ((L.st == 0)=false):=(by simp [h0]:(L.st == 0)=false)
    clear h0
    refine ⟨(.pointer (some ⟨qw1.heap.size,0,none⟩),.int .i64 L.st,.bool false,.bool false,undef,undef,undef,.bool false,undef),fun hgo=>?_⟩
    refine vV (.pointer (some ⟨qw1.heap.size,0,none⟩)) ?_
    refine vD (.int .i64 L.st) (qB29.cell 0) ?_
    refine vV (.bool false) ?_ (hrun:=by rw [show false=(L.st == 0) from m0.out.symm];kernel_rfl)
    refine vV (.bool false) ?_
    refine vS ?_
    refine vS ?_
    refine vS ?_
    refine vV (.bool false) ?_
    refine vV (.bool false) ?_
    refine vF #[qz19,qz20,qz21,.pointer (some ⟨w.heap.size,0,none⟩),.pointer (some ⟨qw1.heap.size,0,none⟩),.pointer (some ⟨qw4.heap.size,0,none⟩),.pointer (some ⟨qw7.heap.size,0,none⟩),.pointer (some ⟨qw10.heap.size,0,none⟩),.pointer (some ⟨qw13.heap.size,0,none⟩),.slice none 0 0,.slice none 0 0,.slice (some ⟨qw16.heap.size,0,none⟩) 0 0,U,U,U,U,U,U,U,U,U,U,.slice (some ⟨qw16.heap.size,0,none⟩) 0 0,qz30,qz31,qz37,qz38,.bool false,.pointer (some ⟨w.heap.size,0,none⟩),qz47,.bool true,.bool false,.bool false,.pointer (some ⟨w.heap.size,4,none⟩),qz48,.bool true,.bool false,.bool false,.bool false,qz49,.bool true,.bool false,.bool false,.bool false,qz50,.bool true,.bool false,.bool false,U,U,U,U,U,.bool false,.pointer (some ⟨qw1.heap.size,0,none⟩),.int .i64 L.st,.bool false,.bool false,U,U,U,.bool false,U,U,U,U,U,U,U,U,U,U,U,U,U,U,U,U,U,U,U,U,U,U,U,U,U,U,U,U,U,U,U,U,U,U,U,U,U,U,U,U,U,U,U,U,U,U,U,U,U,U,U,U,U,U] ?_
    exact hgo
   ·have m0:Hid ((L.st == 0)=true):=(by simp [h0]:(L.st == 0)=true)
    have m1:Hid ((L.why != 0)=false):=(by simp [h1]:(L.why != 0)=false)
    clear h0 h1
    refine ⟨(.pointer (some ⟨qw1.heap.size,0,none⟩),.int .i64 L.st,.bool true,.bool true,.pointer (some ⟨qw1.heap.size,35,none⟩),.int .i64 L.why,.bool false,.bool false,undef),fun hgo=>?_⟩
    refine vV (.pointer (some ⟨qw1.heap.size,0,none⟩)) ?_
    refine vD (.int .i64 L.st) (qB29.cell 0) ?_
    refine vV (.bool true) ?_ (hrun:=by rw [show true=(L.st == 0) from m0.out.symm];kernel_rfl)
    refine vV (.bool true) ?_
    refine vV (.pointer (some ⟨qw1.heap.size,35,none⟩)) ?_
    refine vD (.int .i64 L.why) (qB29.cell 35) ?_
    refine vV (.bool false) ?_ (hrun:=by rw [show false=(L.why != 0) from m1.out.symm];kernel_rfl)
    refine vV (.bool false) ?_
    refine vV (.bool false) ?_
    refine vF #[qz19,qz20,qz21,.pointer (some ⟨w.heap.size,0,none⟩),.pointer (some ⟨qw1.heap.size,0,none⟩),.pointer (some ⟨qw4.heap.size,0,none⟩),.pointer (some ⟨qw7.heap.size,0,none⟩),.pointer (some ⟨qw10.heap.size,0,none⟩),.pointer (some ⟨qw13.heap.size,0,none⟩),.slice none 0 0,.slice none 0 0,.slice (some ⟨qw16.heap.size,0,none⟩) 0 0,U,U,U,U,U,U,U,U,U,U,.slice (some ⟨qw16.heap.size,0,none⟩) 0 0,qz30,qz31,qz37,qz38,.bool false,.pointer (some ⟨w.heap.size,0,none⟩),qz47,.bool true,.bool false,.bool false,.pointer (some ⟨w.heap.size,4,none⟩),qz48,.bool true,.bool false,.bool false,.bool false,qz49,.bool true,.bool false,.bool false,.bool false,qz50,.bool true,.bool false,.bool false,U,U,U,U,U,.bool false,.pointer (some ⟨qw1.heap.size,0,none⟩),.int .i64 L.st,.bool true,.bool true,.pointer (some ⟨qw1.heap.size,35,none⟩),.int .i64 L.why,.bool false,.bool false,U,U,U,U,U,U,U,U,U,U,U,U,U,U,U,U,U,U,U,U,U,U,U,U,U,U,U,U,U,U,U,U,U,U,U,U,U,U,U,U,U,U,U,U,U,U,U,U,U,U,U,U,U,U] ?_
    exact hgo
  intro t
  obtain ⟨z54,t⟩:=t
  obtain ⟨z55,t⟩:=t
  obtain ⟨z56,t⟩:=t
  obtain ⟨z57,t⟩:=t
  obtain ⟨z58,t⟩:=t
  obtain ⟨z59,t⟩:=t
  obtain ⟨z60,t⟩:=t
  obtain ⟨z61,t⟩:=t
  refine vE #[qz19,qz20,qz21,pX w.heap.size 0,pX qw1.heap.size 0,pX qw4.heap.size 0,pX qw7.heap.size 0,pX qw10.heap.size 0,pX qw13.heap.size 0,.slice none 0 0,.slice none 0 0,.slice (some ⟨qw16.heap.size,0,none⟩) 0 0,U,U,U,U,U,U,U,U,U,U,.slice (some ⟨qw16.heap.size,0,none⟩) 0 0,qz30,qz31,qz37,qz38,.bool false,pX w.heap.size 0,qz47,.bool true,.bool false,.bool false,pX w.heap.size 4,qz48,.bool true,.bool false,.bool false,.bool false,qz49,.bool true,.bool false,.bool false,.bool false,qz50,.bool true,.bool false,.bool false,U,U,U,U,U,.bool false,z54,z55,z56,z57,z58,z59,z60,z61,U,U,U,U,U,U,U,U,U,U,U,U,U,U,U,U,U,U,U,U,U,U,U,U,U,U,U,U,U,U,U,U,U,U,U,U,U,U,U,U,U,U,U,U,U,U,U,U,U,U,U,U,U,U] ?_
  go_upto_region 9 with (fail)
  cases hgR:gaveB R
  case true=>
   have ek:Hid (kw=2):=(by rw [hkw.out];unfold rlWay;rw [e1.out,e2.out,e3.out,e4.out,hgl,hgR];rfl:kw=2)
   have hab:=fun g cp wx Rx=>sAbort gL g cp wx Rx
   obtain ⟨AC,hAC⟩:∃ x,Hid (x=abortC L ps):=⟨_,rfl⟩
   obtain ⟨LL,hLL⟩:∃ x,Hid (x=abortS L ps):=⟨_,rfl⟩
   rw [← hAC.out,← hLL.out] at hab
   clear hgl
   have mR:=gave_yes hgR
   have mR0:Hid ((R.st == 0)=true):=(by simp [mR.1]:(R.st == 0)=true)
   have mR1:Hid ((R.why != 0)=true):=(by simp [mR.2]:(R.why != 0)=true)
   clear mR
   replace hgR:Hid _:=hgR
   refine vR ?_
   refine vV (.pointer (some ⟨qw4.heap.size,0,none⟩)) ?_
   refine vD (.int .i64 R.st) (qB36.cell 0) ?_
   refine vV (.bool true) ?_ (hrun:=by rw [show true=(R.st == 0) from mR0.out.symm];kernel_rfl)
   refine vV (.bool true) ?_
   refine vV (.pointer (some ⟨qw4.heap.size,35,none⟩)) ?_
   refine vD (.int .i64 R.why) (qB36.cell 35) ?_
   refine vV (.bool true) ?_ (hrun:=by rw [show true=(R.why != 0) from mR1.out.symm];kernel_rfl)
   refine vV (.bool true) ?_
   refine vV (.bool true) ?_
   refine vE #[qz19,qz20,qz21,pX w.heap.size 0,pX qw1.heap.size 0,pX qw4.heap.size 0,pX qw7.heap.size 0,pX qw10.heap.size 0,pX qw13.heap.size 0,.slice none 0 0,.slice none 0 0,.slice (some ⟨qw16.heap.size,0,none⟩) 0 0,U,U,U,U,U,U,U,U,U,U,.slice (some ⟨qw16.heap.size,0,none⟩) 0 0,qz30,qz31,qz37,qz38,.bool false,pX w.heap.size 0,qz47,.bool true,.bool false,.bool false,pX w.heap.size 4,qz48,.bool true,.bool false,.bool false,.bool false,qz49,.bool true,.bool false,.bool false,.bool false,qz50,.bool true,.bool false,.bool false,U,U,U,U,U,.bool false,z54,z55,z56,z57,z58,z59,z60,z61,U,U,U,U,U,U,U,U,U,U,.bool true,pX qw4.heap.size 0,.int .i64 R.st,.bool true,.bool true,pX qw4.heap.size 35,.int .i64 R.why,.bool true,.bool true,U,U,U,U,U,U,U,U,U,U,U,U,U,U,U,U,U,U,U,U,U,U,U,U,U,U,U,U,U,U,U,U,U,U,U] ?_
   go_upto_region 10 with (fail)
   refine vR ?_
   refine vB cn_big qB29 (cn_size _) ?_
   refine vC (hab g1 c1 _ H1.reads) ?_
   rintro _ qw51 ⟨g5,c5,ga,ma,ca,rfl,H5,L5,qg52⟩
   refine ⟨_,rfl,?_⟩
   replace qB2:=qB2.since qg52
   replace qB29:=qB29.since qg52
   replace qB36:=qB36.since qg52
   replace qB11:=qB11.since qg52
   replace qB14:=qB14.since qg52
   replace qB17:=qB17.since qg52
   replace qL23:=qL23.since qg52
   replace H1:=H1.since qg52
   replace H2:=H2.since qg52
   replace G:=G.trans qg52
   have qg52_s:=qg52.size
   have H5_0:=H5.low'
   replace H5:=H5.raise (show w.heap.size≤g5 by omega)
   have H5_1:=H5.lt
   clear H1
   have L5_0:=L5.low'
   replace L5:=L5.raise (show w.heap.size≤ga by omega)
   have L5_1:=L5.lt
   refine vV (.tuple #[.agg (cnCells {AC with pa:=some ⟨g5,0,none⟩,pc:=c5}),.slice (some ⟨ga,0,none⟩) ma ca]) ?_
   refine vV (.agg (cnCells {AC with pa:=some ⟨g5,0,none⟩,pc:=c5})) ?_
   refine vV (.slice (some ⟨ga,0,none⟩) ma ca) ?_
   refine vW (qw51.alloc (.cells (cnCells cnZero) 50)) (.pointer (some ⟨qw51.heap.size,0,none⟩)) ?_
   have qB54:=Blk.new qw51 (cnCells cnZero) 50
   have qg55:=(Since.refl qw51).alloc (.cells (cnCells cnZero) 50)
   replace qB2:=qB2.since qg55
   replace qB29:=qB29.since qg55
   replace qB36:=qB36.since qg55
   replace qB11:=qB11.since qg55
   replace qB14:=qB14.since qg55
   replace qB17:=qB17.since qg55
   replace qL23:=qL23.since qg55
   replace H2:=H2.since qg55
   replace H5:=H5.since qg55
   replace L5:=L5.since qg55
   replace G:=G.trans qg55
   generalize qw51.alloc (.cells (cnCells cnZero) 50)=qw53 at qB2 qB29 qB36 qB11 qB14 qB17 qL23 H2 H5 L5 G qB54 qg55 ⊢
   have qB54_l:=qB54.lt
   have qg55_s:=qg55.size
   refine sB (cnCells {AC with pa:=some ⟨g5,0,none⟩,pc:=c5}) cn_big qB54 (cn_size _) (cn_size _) (cn_one _) ?_
   intro qw56 qt57 qB58
   clear qB54
   replace qB2:=qB2.touch qt57 (by omega)
   replace qB29:=qB29.touch qt57 (by omega)
   replace qB36:=qB36.touch qt57 (by omega)
   replace qB11:=qB11.touch qt57 (by omega)
   replace qB14:=qB14.touch qt57 (by omega)
   replace qB17:=qB17.touch qt57 (by omega)
   replace qL23:=qL23.touch qt57 (by omega)
   replace H2:=H2.touch qt57 (by omega)
   replace H5:=H5.touch qt57 (by omega)
   replace L5:=L5.touch qt57 (by omega)
   replace G:=since_touch G qt57 (by omega)
   have qt57_s:=qt57.size
   refine vV (.slice (some ⟨ga,0,none⟩) ma ca) ?_
   refine vE #[qz19,qz20,qz21,pX w.heap.size 0,pX qw1.heap.size 0,pX qw4.heap.size 0,pX qw7.heap.size 0,pX qw10.heap.size 0,pX qw13.heap.size 0,.slice none 0 0,.slice none 0 0,.slice (some ⟨qw16.heap.size,0,none⟩) 0 0,U,U,pX qw51.heap.size 0,.slice (some ⟨ga,0,none⟩) ma ca,U,U,U,U,U,U,.slice (some ⟨qw16.heap.size,0,none⟩) 0 0,qz30,qz31,qz37,qz38,.bool false,pX w.heap.size 0,qz47,.bool true,.bool false,.bool false,pX w.heap.size 4,qz48,.bool true,.bool false,.bool false,.bool false,qz49,.bool true,.bool false,.bool false,.bool false,qz50,.bool true,.bool false,.bool false,U,U,U,U,U,.bool false,z54,z55,z56,z57,z58,z59,z60,z61,U,U,U,U,U,U,U,U,U,U,.bool true,pX qw4.heap.size 0,.int .i64 R.st,.bool true,.bool true,pX qw4.heap.size 35,.int .i64 R.why,.bool true,.bool true,.tuple #[.agg (cnCells {AC with pa:=some ⟨g5,0,none⟩,pc:=c5}),.slice (some ⟨ga,0,none⟩) ma ca],.agg (cnCells {L with pa:=some ⟨g1,0,none⟩,pc:=c1}),.tuple #[.agg (cnCells {AC with pa:=some ⟨g5,0,none⟩,pc:=c5}),.slice (some ⟨ga,0,none⟩) ma ca],.agg (cnCells {AC with pa:=some ⟨g5,0,none⟩,pc:=c5}),.slice (some ⟨ga,0,none⟩) ma ca,U,U,U,U,U,U,U,U,U,U,U,U,U,U,U,U,U,U,U,U,U,U,U,U,U,U,U,U,U,U] ?_
   generalize (.tuple #[.agg (cnCells {AC with pa:=some ⟨g5,0,none⟩,pc:=c5}),.slice (some ⟨ga,0,none⟩) ma ca]:Value)=qz59
   generalize (.agg (cnCells {L with pa:=some ⟨g1,0,none⟩,pc:=c1}):Value)=qz60
   generalize (.agg (cnCells {AC with pa:=some ⟨g5,0,none⟩,pc:=c5}):Value)=qz61
   go_upto_region 11 with (fail)
   clear qB29
   have o_w:w.heap.size≤qw7.heap.size:=by omega
   have o_t0:qw7.heap.size<qw10.heap.size:=by omega
   have o_t1:qw10.heap.size<qw13.heap.size:=by omega
   have o_x0:w.heap.size<qw7.heap.size:=by omega
   have o_y0:w.heap.size<qw56.heap.size:=by omega
   have o_x1:qw13.heap.size<qw51.heap.size:=by omega
   have o_y1:qw51.heap.size<qw56.heap.size:=by omega
   have o_x2:qw4.heap.size<qw7.heap.size:=by omega
   have o_y2:qw4.heap.size<qw56.heap.size:=by omega
   have o_x3:qw13.heap.size<qw16.heap.size:=by omega
   have o_y3:qw16.heap.size<qw56.heap.size:=by omega
   have o_x4:qw13.heap.size<ga:=by omega
   have o_y4:ga<qw56.heap.size:=by omega
   have o_x5:qw13.heap.size<g5:=by omega
   have o_y5:g5<qw56.heap.size:=by omega
   have o_x6:qw13.heap.size<g2:=by omega
   have o_y6:g2<qw56.heap.size:=by omega
   have o_n:qw13.heap.size<qw56.heap.size:=by omega
   try clear hne
   try clear hne2
   try clear qB2_l
   try clear qg3_s
   try clear qB5_l
   try clear qg6_s
   try clear qB8_l
   try clear qg9_s
   try clear qB11_l
   try clear qg12_s
   try clear qB14_l
   try clear qg15_s
   try clear qB17_l
   try clear qg18_s
   try clear qg24_s
   try clear qL23_g
   try clear qL23_l
   try clear qg26_s
   try clear H1_0
   try clear H1_1
   try clear qt28_s
   try clear qg33_s
   try clear H2_0
   try clear H2_1
   try clear qt35_s
   try clear qg40_s
   try clear qg42_s
   try clear qg44_s
   try clear qg46_s
   try clear qg52_s
   try clear H5_0
   try clear H5_1
   try clear L5_0
   try clear L5_1
   try clear qB54_l
   try clear qg55_s
   try clear qt57_s
   have hN0:0<qw56.heap.size:=by have:=qB2.lt;omega
   refine wp_region_low (Low (fun b=>b<qw56.heap.size)) (fun i x v=>match i with
     | 0=>v=.agg #[.int .i64 r,.string d,.bool e,.int .i64 n,.int .i64 sr,.string sd,.bool se,.int .i64 sn]
     | 1=>v=.agg (cnCells {AC with pa:=some ⟨g5,0,none⟩,pc:=c5})
     | 2=>v=.agg (cnCells {R with pa:=some ⟨g2,0,none⟩,pc:=c2})
     | 3=>v=.slice (some ⟨ga,0,none⟩) ma ca
     | 4=>v=.slice (some ⟨qw16.heap.size,0,none⟩) 0 0
     | 5=>True
     | 6=>True
     | 7=>True
     | 8=>v=.slice (some ⟨ga,0,none⟩) ma ca
     | 9=>v=.slice (some ⟨qw16.heap.size,0,none⟩) 0 0
     | _=>True) (fun f vals x=>Blk w.heap.size x #[.int .i64 r,.string d,.bool e,.int .i64 n,.int .i64 sr,.string sd,.bool se,.int .i64 sn]∧Blk qw51.heap.size x (cnCells {AC with pa:=some ⟨g5,0,none⟩,pc:=c5})∧Blk qw4.heap.size x (cnCells {R with pa:=some ⟨g2,0,none⟩,pc:=c2})∧Blk qw7.heap.size x (if f 5 then #[.int .i64 r,.string d,.bool e,.int .i64 n,.int .i64 sr,.string sd,.bool se,.int .i64 sn] else #[.int .i64 0,.string ByteArray.empty,.bool false,.int .i64 0,.int .i64 0,.string ByteArray.empty,.bool false,.int .i64 0])∧Blk qw10.heap.size x (if f 6 then (cnCells {AC with pa:=some ⟨g5,0,none⟩,pc:=c5}) else (cnCells cnZero))∧Blk qw13.heap.size x (if f 7 then (cnCells {R with pa:=some ⟨g2,0,none⟩,pc:=c2}) else (cnCells cnZero))∧Held shG x w.heap.size (qw16.heap.size) 0 0 ([]:List Sg)∧Held shP x w.heap.size g2 R.pn c2 qs∧Held shP x w.heap.size g5 L.pn c5 ps∧Held shG x w.heap.size ga ma ca LL∧qw56.heap.size≤x.heap.size∧Since w x) (fun v=>{tmps:=#[qz19,qz20,qz21,.pointer (some ⟨w.heap.size,0,none⟩),.pointer (some ⟨qw1.heap.size,0,none⟩),.pointer (some ⟨qw4.heap.size,0,none⟩),.pointer (some ⟨qw7.heap.size,0,none⟩),.pointer (some ⟨qw10.heap.size,0,none⟩),.pointer (some ⟨qw13.heap.size,0,none⟩),v 8,v 9,.slice (some ⟨qw16.heap.size,0,none⟩) 0 0,undef,undef,.pointer (some ⟨qw51.heap.size,0,none⟩),.slice (some ⟨ga,0,none⟩) ma ca,undef,undef,undef,undef,undef,undef,.slice (some ⟨qw16.heap.size,0,none⟩) 0 0,qz30,qz31,qz37,qz38,.bool false,.pointer (some ⟨w.heap.size,0,none⟩),qz47,.bool true,.bool false,.bool false,.pointer (some ⟨w.heap.size,4,none⟩),qz48,.bool true,.bool false,.bool false,.bool false,qz49,.bool true,.bool false,.bool false,.bool false,qz50,.bool true,.bool false,.bool false,undef,undef,undef,undef,undef,.bool false,z54,z55,z56,z57,z58,z59,z60,z61,undef,undef,undef,undef,undef,undef,undef,undef,undef,undef,.bool true,.pointer (some ⟨qw4.heap.size,0,none⟩),.int .i64 R.st,.bool true,.bool true,.pointer (some ⟨qw4.heap.size,35,none⟩),.int .i64 R.why,.bool true,.bool true,qz59,qz60,qz59,qz61,.slice (some ⟨ga,0,none⟩) ma ca,v 0,v 1,v 2,v 3,v 4,undef,undef,undef,undef,undef,undef,undef,undef,undef,undef,undef,undef,undef,undef,undef,undef,undef,undef,undef,undef,undef,undef,undef,undef,undef],defers:=[]}) (by kernel_rfl) (by kernel_rfl) ?_ ?_ (fun vals=>by kernel_rfl) ?_ ?_
   case refine_1=>
    intro j x y v hl hv
    match j,hv with
    | 0,hv|1,hv|2,hv|3,hv|4,hv|8,hv|9,hv=>exact hv
    | 5,hv|6,hv|7,hv=>trivial
    | n+10,_=>trivial
   case refine_2=>
    intro f vals hf
    refine ⟨qB2.since ((Since.refl _).drew),qB58.since ((Since.refl _).drew),qB36.since ((Since.refl _).drew),(by rw [hf 5];exact qB11.since ((Since.refl _).drew)),(by rw [hf 6];exact qB14.since ((Since.refl _).drew)),(by rw [hf 7];exact qB17.since ((Since.refl _).drew)),qL23.since ((Since.refl _).drew),H2.since ((Since.refl _).drew),H5.since ((Since.refl _).drew),L5.since ((Since.refl _).drew),((Since.refl _).drew).size,G.trans ((Since.refl _).drew)⟩
   case refine_3=>
    repeat (first|exact eachLow_nil|refine eachLow_cons ?_ ?_)
    all_goals intro f vals x hf hr hK
    all_goals obtain ⟨k0,k1,k2,k3,k4,k5,k6,k7,k8,k9,k10,k11⟩:=hK
    ·have e4:vals 4=.slice (some ⟨qw16.heap.size,0,none⟩) 0 0:=(hr ⟨4,.data⟩ (by simp) rfl).2
     simp [does,doesUpon,go_sem,e4]
     exact ⟨Low.since (b:=0) (Since.refl _) (hN0),⟨k0,k1,k2,k3,k4,k5,k6,k7,k8,k9,k10,k11⟩⟩
    ·have e3:vals 3=.slice (some ⟨ga,0,none⟩) ma ca:=(hr ⟨3,.data⟩ (by simp) rfl).2
     simp [does,doesUpon,go_sem,e3]
     exact ⟨Low.since (b:=0) (Since.refl _) (hN0),⟨k0,k1,k2,k3,k4,k5,k6,k7,k8,k9,k10,k11⟩⟩
    ·have ev:vals 2=.agg (cnCells {R with pa:=some ⟨g2,0,none⟩,pc:=c2}):=(hr ⟨2,.data⟩ (by simp) rfl).2
     have kz:Blk qw13.heap.size x (cnCells cnZero):=by have:=k5;rw [hf] at this;exact this
     refine does_store cn_big (cn_size _) (Raw.of kz (cn_size _)) (cn_one _) _ _ rfl rfl ev ?_
     intro z t B
     exact ⟨Low.touch t (show qw13.heap.size<qw56.heap.size by omega),⟨k0.touch t (by omega),k1.touch t (by omega),k2.touch t (by omega),k3.touch t (by omega),k4.touch t (by omega),B,k6.touch t (by omega),k7.touch t (by omega),k8.touch t (by omega),k9.touch t (by omega),Nat.le_trans k10 t.size,since_touch k11 t (by omega)⟩,trivial⟩
    ·have ev:vals 1=.agg (cnCells {AC with pa:=some ⟨g5,0,none⟩,pc:=c5}):=(hr ⟨1,.data⟩ (by simp) rfl).2
     have kz:Blk qw10.heap.size x (cnCells cnZero):=by have:=k4;rw [hf] at this;exact this
     refine does_store cn_big (cn_size _) (Raw.of kz (cn_size _)) (cn_one _) _ _ rfl rfl ev ?_
     intro z t B
     exact ⟨Low.touch t (show qw10.heap.size<qw56.heap.size by omega),⟨k0.touch t (by omega),k1.touch t (by omega),k2.touch t (by omega),k3.touch t (by omega),B,k5.touch t (by omega),k6.touch t (by omega),k7.touch t (by omega),k8.touch t (by omega),k9.touch t (by omega),Nat.le_trans k10 t.size,since_touch k11 t (by omega)⟩,trivial⟩
    ·have ev:vals 0=.agg #[.int .i64 r,.string d,.bool e,.int .i64 n,.int .i64 sr,.string sd,.bool se,.int .i64 sn]:=(hr ⟨0,.data⟩ (by simp) rfl).2
     have kz:Blk qw7.heap.size x #[.int .i64 0,.string ByteArray.empty,.bool false,.int .i64 0,.int .i64 0,.string ByteArray.empty,.bool false,.int .i64 0]:=by have:=k3;rw [hf] at this;exact this
     refine does_store rl_big rfl (Raw.of kz rfl) (by simp [Value.oneCell']) _ _ rfl rfl ev ?_
     intro z t B
     exact ⟨Low.touch t (show qw7.heap.size<qw56.heap.size by omega),⟨k0.touch t (by omega),k1.touch t (by omega),k2.touch t (by omega),B,k4.touch t (by omega),k5.touch t (by omega),k6.touch t (by omega),k7.touch t (by omega),k8.touch t (by omega),k9.touch t (by omega),Nat.le_trans k10 t.size,since_touch k11 t (by omega)⟩,trivial⟩
    ·skip
     simp [does,doesUpon,go_sem]
     exact ⟨Low.since (b:=0) (Since.refl _) (hN0),⟨k0,k1,k2,k3,k4,k5,k6,k7,k8,k9,k10,k11⟩⟩
    ·skip
     simp [does,doesUpon,go_sem]
     exact ⟨Low.since (b:=0) (Since.refl _) (hN0),⟨k0,k1,k2,k3,k4,k5,k6,k7,k8,k9,k10,k11⟩⟩
    ·exact does_load cn_big (cn_size _) k2 _ rfl rfl ⟨Low.since (b:=0) (Since.refl _) (hN0),⟨k0,k1,k2,k3,k4,k5,k6,k7,k8,k9,k10,k11⟩,rfl⟩
    ·exact does_load cn_big (cn_size _) k1 _ rfl rfl ⟨Low.since (b:=0) (Since.refl _) (hN0),⟨k0,k1,k2,k3,k4,k5,k6,k7,k8,k9,k10,k11⟩,rfl⟩
    ·exact does_load rl_big rfl k0 _ rfl rfl ⟨Low.since (b:=0) (Since.refl _) (hN0),⟨k0,k1,k2,k3,k4,k5,k6,k7,k8,k9,k10,k11⟩,rfl⟩
   intro f qv63 qw62 hK hf hv
   obtain ⟨k0,k1,k2,k3,k4,k5,k6,k7,k8,k9,k10,k11⟩:=hK
   clear qB2 qB58 qB36 qB11 qB14 qB17 qL23 H2 H5 L5 G
   have hv0:qv63 0=_:=hv 0 (by decide)
   have hv1:qv63 1=_:=hv 1 (by decide)
   have hv2:qv63 2=_:=hv 2 (by decide)
   have hv3:qv63 3=_:=hv 3 (by decide)
   have hv4:qv63 4=_:=hv 4 (by decide)
   have hv8:qv63 8=_:=hv 8 (by decide)
   have hv9:qv63 9=_:=hv 9 (by decide)
   clear hv
   simp only [hv0,hv1,hv2,hv3,hv4,hv8,hv9]
   clear hv0 hv1 hv2 hv3 hv4 hv8 hv9
   have qB2:=k0
   clear k0
   have qB58:=k1
   clear k1
   have qB36:=k2
   clear k2
   have qB11:Blk qw7.heap.size qw62 #[.int .i64 r,.string d,.bool e,.int .i64 n,.int .i64 sr,.string sd,.bool se,.int .i64 sn]:=by have:=k3;rw [hf 5 (by decide)] at this;exact this
   clear k3
   have qB14:Blk qw10.heap.size qw62 (cnCells {AC with pa:=some ⟨g5,0,none⟩,pc:=c5}):=by have:=k4;rw [hf 6 (by decide)] at this;exact this
   clear k4
   have qB17:Blk qw13.heap.size qw62 (cnCells {R with pa:=some ⟨g2,0,none⟩,pc:=c2}):=by have:=k5;rw [hf 7 (by decide)] at this;exact this
   clear k5
   have qL23:=k6
   clear k6
   have H2:=k7
   clear k7
   have H5:=k8
   clear k8
   have L5:=k9
   clear k9
   have G:=k11
   clear k11
   have qw62_l:=qB17.lt
   have qw62_n:=k10
   clear k10
   rw [hAC.out] at qB14
   rw [hLL.out] at L5
   go_wp2_with (fail)
   exact bodyPost_ret (results_5 (hs:=rfl) (t:=6) (u:=7) (v:=8) (x:=9) (y:=10) rfl _ rfl rfl rfl qB11 qB14 qB17) rfl (hidI ⟨_,_,_,_,_,_,_,_,_,_,by rw [ek.out];rfl,H5,H2,by rw [ek.out];exact L5,by rw [ek.out];exact qL23,G⟩)
  case false=>
   have ek:Hid (kw=3):=(by rw [hkw.out];unfold rlWay;rw [e1.out,e2.out,e3.out,e4.out,hgl,hgR];rfl:kw=3)
   have hm1:=fun g1 c1 g2 c2 wx Rx Ry=>specMove r d e n L ps R qs gL gR hd g1 c1 g2 c2 wx Rx Ry
   obtain ⟨xd,hxd⟩:∃ x,Hid (x=mvD r d n L ps R qs):=⟨_,rfl⟩
   obtain ⟨xe,hxe⟩:∃ x,Hid (x=mvE r d e n L ps R qs):=⟨_,rfl⟩
   obtain ⟨xn,hxn⟩:∃ x,Hid (x=mvN r d n L ps R qs):=⟨_,rfl⟩
   obtain ⟨xF,hxF⟩:∃ x,Hid (x=mvF r d n L ps R qs):=⟨_,rfl⟩
   obtain ⟨xT,hxT⟩:∃ x,Hid (x=mvT r d e n L ps R qs):=⟨_,rfl⟩
   rw [← hxd.out,← hxe.out,← hxn.out,← hxF.out,← hxT.out] at hm1
   have gF:GoodC xF ps:=by rw [hxF.out];exact good_mvF gL
   have gT:GoodC xT qs:=by rw [hxT.out];exact good_mvT gR
   have pF:xF.pn=L.pn:=by rw [hxF.out];exact mvF_pn' _ _ _ _ _ _ _
   have pT:xT.pn=R.pn:=by rw [hxT.out];exact mvT_pn' _ _ _ _ _ _ _ _
   have hm2:=fun g3 c3 g4 c4 wx (Rx:Rd shP wx (some ⟨g3,0,none⟩) R.pn qs) (Ry:Rd shP wx (some ⟨g4,0,none⟩) L.pn ps)=>specMove sr sd se sn xT qs xF ps gT gF hf g3 c3 g4 c4 wx (by rw [pT];exact Rx) (by rw [pF];exact Ry)
   obtain ⟨yd,hyd⟩:∃ x,Hid (x=mvD sr sd sn xT qs xF ps):=⟨_,rfl⟩
   obtain ⟨ye,hye⟩:∃ x,Hid (x=mvE sr sd se sn xT qs xF ps):=⟨_,rfl⟩
   obtain ⟨yn,hyn⟩:∃ x,Hid (x=mvN sr sd sn xT qs xF ps):=⟨_,rfl⟩
   obtain ⟨yF,hyF⟩:∃ x,Hid (x=mvF sr sd sn xT qs xF ps):=⟨_,rfl⟩
   obtain ⟨yT,hyT⟩:∃ x,Hid (x=mvT sr sd se sn xT qs xF ps):=⟨_,rfl⟩
   rw [← hyd.out,← hye.out,← hyn.out,← hyF.out,← hyT.out] at hm2
   clear hgl
   replace hgR:Hid _:=hgR
   refine vR ?_
   refine vAny (T:=Value×Value×Value×Value×Value×Value×Value×Value×Value) (fun t=>#[qz19,qz20,qz21,.pointer (some ⟨w.heap.size,0,none⟩),.pointer (some ⟨qw1.heap.size,0,none⟩),.pointer (some ⟨qw4.heap.size,0,none⟩),.pointer (some ⟨qw7.heap.size,0,none⟩),.pointer (some ⟨qw10.heap.size,0,none⟩),.pointer (some ⟨qw13.heap.size,0,none⟩),.slice none 0 0,.slice none 0 0,.slice (some ⟨qw16.heap.size,0,none⟩) 0 0,undef,undef,undef,undef,undef,undef,undef,undef,undef,undef,.slice (some ⟨qw16.heap.size,0,none⟩) 0 0,qz30,qz31,qz37,qz38,.bool false,.pointer (some ⟨w.heap.size,0,none⟩),qz47,.bool true,.bool false,.bool false,.pointer (some ⟨w.heap.size,4,none⟩),qz48,.bool true,.bool false,.bool false,.bool false,qz49,.bool true,.bool false,.bool false,.bool false,qz50,.bool true,.bool false,.bool false,undef,undef,undef,undef,undef,.bool false,z54,z55,z56,z57,z58,z59,z60,z61,undef,undef,undef,undef,undef,undef,undef,undef,undef,undef,.bool false,t.1,t.2.1,t.2.2.1,t.2.2.2.1,t.2.2.2.2.1,t.2.2.2.2.2.1,t.2.2.2.2.2.2.1,t.2.2.2.2.2.2.2.1,undef,undef,undef,undef,undef,undef,undef,undef,undef,undef,undef,undef,undef,undef,undef,undef,undef,undef,undef,undef,undef,undef,undef,undef,undef,undef,undef,undef,undef,undef,undef,undef,undef,undef,undef]) ?_ ?_
   rotate_left
   ·rcases gave_no hgR.out with h0|⟨h0,h1⟩
    ·have m0:Hid ((R.st == 0)=false):=(by simp [h0]:(R.st == 0)=false)
     clear h0
     refine ⟨(.pointer (some ⟨qw4.heap.size,0,none⟩),.int .i64 R.st,.bool false,.bool false,undef,undef,undef,.bool false,undef),fun hgo=>?_⟩
     refine vV (.pointer (some ⟨qw4.heap.size,0,none⟩)) ?_
     refine vD (.int .i64 R.st) (qB36.cell 0) ?_
     refine vV (.bool false) ?_ (hrun:=by rw [show false=(R.st == 0) from m0.out.symm];kernel_rfl)
     refine vV (.bool false) ?_
     refine vS ?_
     refine vS ?_
     refine vS ?_
     refine vV (.bool false) ?_
     refine vV (.bool false) ?_
     refine vF #[qz19,qz20,qz21,.pointer (some ⟨w.heap.size,0,none⟩),.pointer (some ⟨qw1.heap.size,0,none⟩),.pointer (some ⟨qw4.heap.size,0,none⟩),.pointer (some ⟨qw7.heap.size,0,none⟩),.pointer (some ⟨qw10.heap.size,0,none⟩),.pointer (some ⟨qw13.heap.size,0,none⟩),.slice none 0 0,.slice none 0 0,.slice (some ⟨qw16.heap.size,0,none⟩) 0 0,U,U,U,U,U,U,U,U,U,U,.slice (some ⟨qw16.heap.size,0,none⟩) 0 0,qz30,qz31,qz37,qz38,.bool false,.pointer (some ⟨w.heap.size,0,none⟩),qz47,.bool true,.bool false,.bool false,.pointer (some ⟨w.heap.size,4,none⟩),qz48,.bool true,.bool false,.bool false,.bool false,qz49,.bool true,.bool false,.bool false,.bool false,qz50,.bool true,.bool false,.bool false,U,U,U,U,U,.bool false,z54,z55,z56,z57,z58,z59,z60,z61,U,U,U,U,U,U,U,U,U,U,.bool false,.pointer (some ⟨qw4.heap.size,0,none⟩),.int .i64 R.st,.bool false,.bool false,U,U,U,.bool false,U,U,U,U,U,U,U,U,U,U,U,U,U,U,U,U,U,U,U,U,U,U,U,U,U,U,U,U,U,U,U,U,U,U,U] ?_
     exact hgo
    ·have m0:Hid ((R.st == 0)=true):=(by simp [h0]:(R.st == 0)=true)
     have m1:Hid ((R.why != 0)=false):=(by simp [h1]:(R.why != 0)=false)
     clear h0 h1
     refine ⟨(.pointer (some ⟨qw4.heap.size,0,none⟩),.int .i64 R.st,.bool true,.bool true,.pointer (some ⟨qw4.heap.size,35,none⟩),.int .i64 R.why,.bool false,.bool false,undef),fun hgo=>?_⟩
     refine vV (.pointer (some ⟨qw4.heap.size,0,none⟩)) ?_
     refine vD (.int .i64 R.st) (qB36.cell 0) ?_
     refine vV (.bool true) ?_ (hrun:=by rw [show true=(R.st == 0) from m0.out.symm];kernel_rfl)
     refine vV (.bool true) ?_
     refine vV (.pointer (some ⟨qw4.heap.size,35,none⟩)) ?_
     refine vD (.int .i64 R.why) (qB36.cell 35) ?_
     refine vV (.bool false) ?_ (hrun:=by rw [show false=(R.why != 0) from m1.out.symm];kernel_rfl)
     refine vV (.bool false) ?_
     refine vV (.bool false) ?_
     refine vF #[qz19,qz20,qz21,.pointer (some ⟨w.heap.size,0,none⟩),.pointer (some ⟨qw1.heap.size,0,none⟩),.pointer (some ⟨qw4.heap.size,0,none⟩),.pointer (some ⟨qw7.heap.size,0,none⟩),.pointer (some ⟨qw10.heap.size,0,none⟩),.pointer (some ⟨qw13.heap.size,0,none⟩),.slice none 0 0,.slice none 0 0,.slice (some ⟨qw16.heap.size,0,none⟩) 0 0,U,U,U,U,U,U,U,U,U,U,.slice (some ⟨qw16.heap.size,0,none⟩) 0 0,qz30,qz31,qz37,qz38,.bool false,.pointer (some ⟨w.heap.size,0,none⟩),qz47,.bool true,.bool false,.bool false,.pointer (some ⟨w.heap.size,4,none⟩),qz48,.bool true,.bool false,.bool false,.bool false,qz49,.bool true,.bool false,.bool false,.bool false,qz50,.bool true,.bool false,.bool false,U,U,U,U,U,.bool false,z54,z55,z56,z57,z58,z59,z60,z61,U,U,U,U,U,U,U,U,U,U,.bool false,.pointer (some ⟨qw4.heap.size,0,none⟩),.int .i64 R.st,.bool true,.bool true,.pointer (some ⟨qw4.heap.size,35,none⟩),.int .i64 R.why,.bool false,.bool false,U,U,U,U,U,U,U,U,U,U,U,U,U,U,U,U,U,U,U,U,U,U,U,U,U,U,U,U,U,U,U,U,U,U,U] ?_
     exact hgo
   intro t
   obtain ⟨z73,t⟩:=t
   obtain ⟨z74,t⟩:=t
   obtain ⟨z75,t⟩:=t
   obtain ⟨z76,t⟩:=t
   obtain ⟨z77,t⟩:=t
   obtain ⟨z78,t⟩:=t
   obtain ⟨z79,t⟩:=t
   obtain ⟨z80,t⟩:=t
   refine vE #[qz19,qz20,qz21,pX w.heap.size 0,pX qw1.heap.size 0,pX qw4.heap.size 0,pX qw7.heap.size 0,pX qw10.heap.size 0,pX qw13.heap.size 0,.slice none 0 0,.slice none 0 0,.slice (some ⟨qw16.heap.size,0,none⟩) 0 0,U,U,U,U,U,U,U,U,U,U,.slice (some ⟨qw16.heap.size,0,none⟩) 0 0,qz30,qz31,qz37,qz38,.bool false,pX w.heap.size 0,qz47,.bool true,.bool false,.bool false,pX w.heap.size 4,qz48,.bool true,.bool false,.bool false,.bool false,qz49,.bool true,.bool false,.bool false,.bool false,qz50,.bool true,.bool false,.bool false,U,U,U,U,U,.bool false,z54,z55,z56,z57,z58,z59,z60,z61,U,U,U,U,U,U,U,U,U,U,.bool false,z73,z74,z75,z76,z77,z78,z79,z80,U,U,U,U,U,U,U,U,U,U,U,U,U,U,U,U,U,U,U,U,U,U,U,U,U,U,U,U,U,U,U,U,U,U,U] ?_
   go_upto_region 12 with (fail)
   refine vR ?_
   refine vV (.pointer (some ⟨w.heap.size,0,none⟩)) ?_
   refine vP pp_big qB2 0 [.int .i64 r,.string d,.bool e,.int .i64 n] ?_
   refine vB cn_big qB29 (cn_size _) ?_
   refine vB cn_big qB36 (cn_size _) ?_
   refine vC (hm1 g1 c1 g2 c2 _ H1.reads H2.reads) ?_
   rintro _ qw51 ⟨g3,c3,g4,c4,rfl,H3,H4,hne,qg52⟩
   refine ⟨_,rfl,?_⟩
   replace qB2:=qB2.since qg52
   replace qB29:=qB29.since qg52
   replace qB36:=qB36.since qg52
   replace qB11:=qB11.since qg52
   replace qB14:=qB14.since qg52
   replace qB17:=qB17.since qg52
   replace qL23:=qL23.since qg52
   replace H1:=H1.since qg52
   replace H2:=H2.since qg52
   replace G:=G.trans qg52
   have qg52_s:=qg52.size
   have H3_0:=H3.low'
   replace H3:=H3.raise (show w.heap.size≤g3 by omega)
   have H3_1:=H3.lt
   clear H1
   have H4_0:=H4.low'
   replace H4:=H4.raise (show w.heap.size≤g4 by omega)
   have H4_1:=H4.lt
   clear H2
   refine vV (.tuple #[.agg #[.int .i64 r,.string xd,.bool xe,.int .i64 xn],.agg (cnCells {xF with pa:=some ⟨g3,0,none⟩,pc:=c3}),.agg (cnCells {xT with pa:=some ⟨g4,0,none⟩,pc:=c4})]) ?_
   refine vV (.agg #[.int .i64 r,.string xd,.bool xe,.int .i64 xn]) ?_
   refine vV (.agg (cnCells {xF with pa:=some ⟨g3,0,none⟩,pc:=c3})) ?_
   refine vV (.agg (cnCells {xT with pa:=some ⟨g4,0,none⟩,pc:=c4})) ?_
   refine vW (qw51.alloc (.cells #[.int .i64 0,.string ByteArray.empty,.bool false,.int .i64 0] 40)) (.pointer (some ⟨qw51.heap.size,0,none⟩)) ?_
   have qB54:=Blk.new qw51 #[.int .i64 0,.string ByteArray.empty,.bool false,.int .i64 0] 40
   have qg55:=(Since.refl qw51).alloc (.cells #[.int .i64 0,.string ByteArray.empty,.bool false,.int .i64 0] 40)
   replace qB2:=qB2.since qg55
   replace qB29:=qB29.since qg55
   replace qB36:=qB36.since qg55
   replace qB11:=qB11.since qg55
   replace qB14:=qB14.since qg55
   replace qB17:=qB17.since qg55
   replace qL23:=qL23.since qg55
   replace H3:=H3.since qg55
   replace H4:=H4.since qg55
   replace G:=G.trans qg55
   generalize qw51.alloc (.cells #[.int .i64 0,.string ByteArray.empty,.bool false,.int .i64 0] 40)=qw53 at qB2 qB29 qB36 qB11 qB14 qB17 qL23 H3 H4 G qB54 qg55 ⊢
   have qB54_l:=qB54.lt
   have qg55_s:=qg55.size
   refine vW (qw53.alloc (.cells (cnCells cnZero) 50)) (.pointer (some ⟨qw53.heap.size,0,none⟩)) ?_
   have qB57:=Blk.new qw53 (cnCells cnZero) 50
   have qg58:=(Since.refl qw53).alloc (.cells (cnCells cnZero) 50)
   replace qB2:=qB2.since qg58
   replace qB29:=qB29.since qg58
   replace qB36:=qB36.since qg58
   replace qB11:=qB11.since qg58
   replace qB14:=qB14.since qg58
   replace qB17:=qB17.since qg58
   replace qB54:=qB54.since qg58
   replace qL23:=qL23.since qg58
   replace H3:=H3.since qg58
   replace H4:=H4.since qg58
   replace G:=G.trans qg58
   generalize qw53.alloc (.cells (cnCells cnZero) 50)=qw56 at qB2 qB29 qB36 qB11 qB14 qB17 qB54 qL23 H3 H4 G qB57 qg58 ⊢
   have qB57_l:=qB57.lt
   have qg58_s:=qg58.size
   refine vW (qw56.alloc (.cells (cnCells cnZero) 50)) (.pointer (some ⟨qw56.heap.size,0,none⟩)) ?_
   have qB60:=Blk.new qw56 (cnCells cnZero) 50
   have qg61:=(Since.refl qw56).alloc (.cells (cnCells cnZero) 50)
   replace qB2:=qB2.since qg61
   replace qB29:=qB29.since qg61
   replace qB36:=qB36.since qg61
   replace qB11:=qB11.since qg61
   replace qB14:=qB14.since qg61
   replace qB17:=qB17.since qg61
   replace qB54:=qB54.since qg61
   replace qB57:=qB57.since qg61
   replace qL23:=qL23.since qg61
   replace H3:=H3.since qg61
   replace H4:=H4.since qg61
   replace G:=G.trans qg61
   generalize qw56.alloc (.cells (cnCells cnZero) 50)=qw59 at qB2 qB29 qB36 qB11 qB14 qB17 qB54 qB57 qL23 H3 H4 G qB60 qg61 ⊢
   have qB60_l:=qB60.lt
   have qg61_s:=qg61.size
   refine sB #[.int .i64 r,.string xd,.bool xe,.int .i64 xn] pp_big qB54 rfl rfl (by simp [Value.oneCell']) ?_
   intro qw62 qt63 qB64
   clear qB54
   replace qB2:=qB2.touch qt63 (by omega)
   replace qB29:=qB29.touch qt63 (by omega)
   replace qB36:=qB36.touch qt63 (by omega)
   replace qB11:=qB11.touch qt63 (by omega)
   replace qB14:=qB14.touch qt63 (by omega)
   replace qB17:=qB17.touch qt63 (by omega)
   replace qB57:=qB57.touch qt63 (by omega)
   replace qB60:=qB60.touch qt63 (by omega)
   replace qL23:=qL23.touch qt63 (by omega)
   replace H3:=H3.touch qt63 (by omega)
   replace H4:=H4.touch qt63 (by omega)
   replace G:=since_touch G qt63 (by omega)
   have qt63_s:=qt63.size
   refine sB (cnCells {xF with pa:=some ⟨g3,0,none⟩,pc:=c3}) cn_big qB57 (cn_size _) (cn_size _) (cn_one _) ?_
   intro qw65 qt66 qB67
   clear qB57
   replace qB2:=qB2.touch qt66 (by omega)
   replace qB29:=qB29.touch qt66 (by omega)
   replace qB36:=qB36.touch qt66 (by omega)
   replace qB11:=qB11.touch qt66 (by omega)
   replace qB14:=qB14.touch qt66 (by omega)
   replace qB17:=qB17.touch qt66 (by omega)
   replace qB64:=qB64.touch qt66 (by omega)
   replace qB60:=qB60.touch qt66 (by omega)
   replace qL23:=qL23.touch qt66 (by omega)
   replace H3:=H3.touch qt66 (by omega)
   replace H4:=H4.touch qt66 (by omega)
   replace G:=since_touch G qt66 (by omega)
   have qt66_s:=qt66.size
   refine sB (cnCells {xT with pa:=some ⟨g4,0,none⟩,pc:=c4}) cn_big qB60 (cn_size _) (cn_size _) (cn_one _) ?_
   intro qw68 qt69 qB70
   clear qB60
   replace qB2:=qB2.touch qt69 (by omega)
   replace qB29:=qB29.touch qt69 (by omega)
   replace qB36:=qB36.touch qt69 (by omega)
   replace qB11:=qB11.touch qt69 (by omega)
   replace qB14:=qB14.touch qt69 (by omega)
   replace qB17:=qB17.touch qt69 (by omega)
   replace qB64:=qB64.touch qt69 (by omega)
   replace qB67:=qB67.touch qt69 (by omega)
   replace qL23:=qL23.touch qt69 (by omega)
   replace H3:=H3.touch qt69 (by omega)
   replace H4:=H4.touch qt69 (by omega)
   replace G:=since_touch G qt69 (by omega)
   have qt69_s:=qt69.size
   refine vE #[qz19,qz20,qz21,pX w.heap.size 0,pX qw1.heap.size 0,pX qw4.heap.size 0,pX qw7.heap.size 0,pX qw10.heap.size 0,pX qw13.heap.size 0,.slice none 0 0,.slice none 0 0,.slice (some ⟨qw16.heap.size,0,none⟩) 0 0,U,U,U,U,pX qw51.heap.size 0,pX qw53.heap.size 0,pX qw56.heap.size 0,U,U,U,.slice (some ⟨qw16.heap.size,0,none⟩) 0 0,qz30,qz31,qz37,qz38,.bool false,pX w.heap.size 0,qz47,.bool true,.bool false,.bool false,pX w.heap.size 4,qz48,.bool true,.bool false,.bool false,.bool false,qz49,.bool true,.bool false,.bool false,.bool false,qz50,.bool true,.bool false,.bool false,U,U,U,U,U,.bool false,z54,z55,z56,z57,z58,z59,z60,z61,U,U,U,U,U,U,U,U,U,U,.bool false,z73,z74,z75,z76,z77,z78,z79,z80,U,U,U,U,U,U,U,U,U,U,.tuple #[.agg #[.int .i64 r,.string xd,.bool xe,.int .i64 xn],.agg (cnCells {xF with pa:=some ⟨g3,0,none⟩,pc:=c3}),.agg (cnCells {xT with pa:=some ⟨g4,0,none⟩,pc:=c4})],pX w.heap.size 0,.agg #[.int .i64 r,.string d,.bool e,.int .i64 n],.agg (cnCells {L with pa:=some ⟨g1,0,none⟩,pc:=c1}),.agg (cnCells {R with pa:=some ⟨g2,0,none⟩,pc:=c2}),.tuple #[.agg #[.int .i64 r,.string xd,.bool xe,.int .i64 xn],.agg (cnCells {xF with pa:=some ⟨g3,0,none⟩,pc:=c3}),.agg (cnCells {xT with pa:=some ⟨g4,0,none⟩,pc:=c4})],.agg #[.int .i64 r,.string xd,.bool xe,.int .i64 xn],.agg (cnCells {xF with pa:=some ⟨g3,0,none⟩,pc:=c3}),.agg (cnCells {xT with pa:=some ⟨g4,0,none⟩,pc:=c4}),U,U,U,U,U,U,U,U,U,U,U,U,U,U,U,U] ?_
   generalize (.tuple #[.agg #[.int .i64 r,.string xd,.bool xe,.int .i64 xn],.agg (cnCells {xF with pa:=some ⟨g3,0,none⟩,pc:=c3}),.agg (cnCells {xT with pa:=some ⟨g4,0,none⟩,pc:=c4})]:Value)=qz71
   generalize (.agg #[.int .i64 r,.string d,.bool e,.int .i64 n]:Value)=qz72
   generalize (.agg (cnCells {L with pa:=some ⟨g1,0,none⟩,pc:=c1}):Value)=qz73
   generalize (.agg (cnCells {R with pa:=some ⟨g2,0,none⟩,pc:=c2}):Value)=qz74
   generalize (.agg #[.int .i64 r,.string xd,.bool xe,.int .i64 xn]:Value)=qz75
   generalize (.agg (cnCells {xF with pa:=some ⟨g3,0,none⟩,pc:=c3}):Value)=qz76
   generalize (.agg (cnCells {xT with pa:=some ⟨g4,0,none⟩,pc:=c4}):Value)=qz77
   go_upto_region 13 with (fail)
   refine vR ?_
   refine vV (.pointer (some ⟨w.heap.size,4,none⟩)) ?_
   refine vP pp_big qB2 4 [.int .i64 sr,.string sd,.bool se,.int .i64 sn] ?_
   refine vB cn_big qB70 (cn_size _) ?_
   refine vB cn_big qB67 (cn_size _) ?_
   refine vC (hm2 g4 c4 g3 c3 _ H4.reads H3.reads) ?_
   rintro _ qw78 ⟨g5,c5,g6,c6,rfl,H5,H6,hne2,qg79⟩
   refine ⟨_,rfl,?_⟩
   replace qB2:=qB2.since qg79
   replace qB29:=qB29.since qg79
   replace qB36:=qB36.since qg79
   replace qB11:=qB11.since qg79
   replace qB14:=qB14.since qg79
   replace qB17:=qB17.since qg79
   replace qB64:=qB64.since qg79
   replace qB67:=qB67.since qg79
   replace qB70:=qB70.since qg79
   replace qL23:=qL23.since qg79
   replace H3:=H3.since qg79
   replace H4:=H4.since qg79
   replace G:=G.trans qg79
   have qg79_s:=qg79.size
   have H5_0:=H5.low'
   replace H5:=H5.raise (show w.heap.size≤g5 by omega)
   have H5_1:=H5.lt
   clear H4
   have H6_0:=H6.low'
   replace H6:=H6.raise (show w.heap.size≤g6 by omega)
   have H6_1:=H6.lt
   clear H3
   refine vV (.tuple #[.agg #[.int .i64 sr,.string yd,.bool ye,.int .i64 yn],.agg (cnCells {yF with pa:=some ⟨g5,0,none⟩,pc:=c5}),.agg (cnCells {yT with pa:=some ⟨g6,0,none⟩,pc:=c6})]) ?_
   refine vV (.agg #[.int .i64 sr,.string yd,.bool ye,.int .i64 yn]) ?_
   refine vV (.agg (cnCells {yF with pa:=some ⟨g5,0,none⟩,pc:=c5})) ?_
   refine vV (.agg (cnCells {yT with pa:=some ⟨g6,0,none⟩,pc:=c6})) ?_
   refine vW (qw78.alloc (.cells #[.int .i64 0,.string ByteArray.empty,.bool false,.int .i64 0] 40)) (.pointer (some ⟨qw78.heap.size,0,none⟩)) ?_
   have qB81:=Blk.new qw78 #[.int .i64 0,.string ByteArray.empty,.bool false,.int .i64 0] 40
   have qg82:=(Since.refl qw78).alloc (.cells #[.int .i64 0,.string ByteArray.empty,.bool false,.int .i64 0] 40)
   replace qB2:=qB2.since qg82
   replace qB29:=qB29.since qg82
   replace qB36:=qB36.since qg82
   replace qB11:=qB11.since qg82
   replace qB14:=qB14.since qg82
   replace qB17:=qB17.since qg82
   replace qB64:=qB64.since qg82
   replace qB67:=qB67.since qg82
   replace qB70:=qB70.since qg82
   replace qL23:=qL23.since qg82
   replace H5:=H5.since qg82
   replace H6:=H6.since qg82
   replace G:=G.trans qg82
   generalize qw78.alloc (.cells #[.int .i64 0,.string ByteArray.empty,.bool false,.int .i64 0] 40)=qw80 at qB2 qB29 qB36 qB11 qB14 qB17 qB64 qB67 qB70 qL23 H5 H6 G qB81 qg82 ⊢
   have qB81_l:=qB81.lt
   have qg82_s:=qg82.size
   refine vW (qw80.alloc (.cells (cnCells cnZero) 50)) (.pointer (some ⟨qw80.heap.size,0,none⟩)) ?_
   have qB84:=Blk.new qw80 (cnCells cnZero) 50
   have qg85:=(Since.refl qw80).alloc (.cells (cnCells cnZero) 50)
   replace qB2:=qB2.since qg85
   replace qB29:=qB29.since qg85
   replace qB36:=qB36.since qg85
   replace qB11:=qB11.since qg85
   replace qB14:=qB14.since qg85
   replace qB17:=qB17.since qg85
   replace qB64:=qB64.since qg85
   replace qB67:=qB67.since qg85
   replace qB70:=qB70.since qg85
   replace qB81:=qB81.since qg85
   replace qL23:=qL23.since qg85
   replace H5:=H5.since qg85
   replace H6:=H6.since qg85
   replace G:=G.trans qg85
   generalize qw80.alloc (.cells (cnCells cnZero) 50)=qw83 at qB2 qB29 qB36 qB11 qB14 qB17 qB64 qB67 qB70 qB81 qL23 H5 H6 G qB84 qg85 ⊢
   have qB84_l:=qB84.lt
   have qg85_s:=qg85.size
   refine vW (qw83.alloc (.cells (cnCells cnZero) 50)) (.pointer (some ⟨qw83.heap.size,0,none⟩)) ?_
   have qB87:=Blk.new qw83 (cnCells cnZero) 50
   have qg88:=(Since.refl qw83).alloc (.cells (cnCells cnZero) 50)
   replace qB2:=qB2.since qg88
   replace qB29:=qB29.since qg88
   replace qB36:=qB36.since qg88
   replace qB11:=qB11.since qg88
   replace qB14:=qB14.since qg88
   replace qB17:=qB17.since qg88
   replace qB64:=qB64.since qg88
   replace qB67:=qB67.since qg88
   replace qB70:=qB70.since qg88
   replace qB81:=qB81.since qg88
   replace qB84:=qB84.since qg88
   replace qL23:=qL23.since qg88
   replace H5:=H5.since qg88
   replace H6:=H6.since qg88
   replace G:=G.trans qg88
   generalize qw83.alloc (.cells (cnCells cnZero) 50)=qw86 at qB2 qB29 qB36 qB11 qB14 qB17 qB64 qB67 qB70 qB81 qB84 qL23 H5 H6 G qB87 qg88 ⊢
   have qB87_l:=qB87.lt
   have qg88_s:=qg88.size
   refine sB #[.int .i64 sr,.string yd,.bool ye,.int .i64 yn] pp_big qB81 rfl rfl (by simp [Value.oneCell']) ?_
   intro qw89 qt90 qB91
   clear qB81
   replace qB2:=qB2.touch qt90 (by omega)
   replace qB29:=qB29.touch qt90 (by omega)
   replace qB36:=qB36.touch qt90 (by omega)
   replace qB11:=qB11.touch qt90 (by omega)
   replace qB14:=qB14.touch qt90 (by omega)
   replace qB17:=qB17.touch qt90 (by omega)
   replace qB64:=qB64.touch qt90 (by omega)
   replace qB67:=qB67.touch qt90 (by omega)
   replace qB70:=qB70.touch qt90 (by omega)
   replace qB84:=qB84.touch qt90 (by omega)
   replace qB87:=qB87.touch qt90 (by omega)
   replace qL23:=qL23.touch qt90 (by omega)
   replace H5:=H5.touch qt90 (by omega)
   replace H6:=H6.touch qt90 (by omega)
   replace G:=since_touch G qt90 (by omega)
   have qt90_s:=qt90.size
   refine sB (cnCells {yF with pa:=some ⟨g5,0,none⟩,pc:=c5}) cn_big qB84 (cn_size _) (cn_size _) (cn_one _) ?_
   intro qw92 qt93 qB94
   clear qB84
   replace qB2:=qB2.touch qt93 (by omega)
   replace qB29:=qB29.touch qt93 (by omega)
   replace qB36:=qB36.touch qt93 (by omega)
   replace qB11:=qB11.touch qt93 (by omega)
   replace qB14:=qB14.touch qt93 (by omega)
   replace qB17:=qB17.touch qt93 (by omega)
   replace qB64:=qB64.touch qt93 (by omega)
   replace qB67:=qB67.touch qt93 (by omega)
   replace qB70:=qB70.touch qt93 (by omega)
   replace qB91:=qB91.touch qt93 (by omega)
   replace qB87:=qB87.touch qt93 (by omega)
   replace qL23:=qL23.touch qt93 (by omega)
   replace H5:=H5.touch qt93 (by omega)
   replace H6:=H6.touch qt93 (by omega)
   replace G:=since_touch G qt93 (by omega)
   have qt93_s:=qt93.size
   refine sB (cnCells {yT with pa:=some ⟨g6,0,none⟩,pc:=c6}) cn_big qB87 (cn_size _) (cn_size _) (cn_one _) ?_
   intro qw95 qt96 qB97
   clear qB87
   replace qB2:=qB2.touch qt96 (by omega)
   replace qB29:=qB29.touch qt96 (by omega)
   replace qB36:=qB36.touch qt96 (by omega)
   replace qB11:=qB11.touch qt96 (by omega)
   replace qB14:=qB14.touch qt96 (by omega)
   replace qB17:=qB17.touch qt96 (by omega)
   replace qB64:=qB64.touch qt96 (by omega)
   replace qB67:=qB67.touch qt96 (by omega)
   replace qB70:=qB70.touch qt96 (by omega)
   replace qB91:=qB91.touch qt96 (by omega)
   replace qB94:=qB94.touch qt96 (by omega)
   replace qL23:=qL23.touch qt96 (by omega)
   replace H5:=H5.touch qt96 (by omega)
   replace H6:=H6.touch qt96 (by omega)
   replace G:=since_touch G qt96 (by omega)
   have qt96_s:=qt96.size
   refine vE #[qz19,qz20,qz21,pX w.heap.size 0,pX qw1.heap.size 0,pX qw4.heap.size 0,pX qw7.heap.size 0,pX qw10.heap.size 0,pX qw13.heap.size 0,.slice none 0 0,.slice none 0 0,.slice (some ⟨qw16.heap.size,0,none⟩) 0 0,U,U,U,U,pX qw51.heap.size 0,pX qw53.heap.size 0,pX qw56.heap.size 0,pX qw78.heap.size 0,pX qw80.heap.size 0,pX qw83.heap.size 0,.slice (some ⟨qw16.heap.size,0,none⟩) 0 0,qz30,qz31,qz37,qz38,.bool false,pX w.heap.size 0,qz47,.bool true,.bool false,.bool false,pX w.heap.size 4,qz48,.bool true,.bool false,.bool false,.bool false,qz49,.bool true,.bool false,.bool false,.bool false,qz50,.bool true,.bool false,.bool false,U,U,U,U,U,.bool false,z54,z55,z56,z57,z58,z59,z60,z61,U,U,U,U,U,U,U,U,U,U,.bool false,z73,z74,z75,z76,z77,z78,z79,z80,U,U,U,U,U,U,U,U,U,U,qz71,pX w.heap.size 0,qz72,qz73,qz74,qz71,qz75,qz76,qz77,.tuple #[.agg #[.int .i64 sr,.string yd,.bool ye,.int .i64 yn],.agg (cnCells {yF with pa:=some ⟨g5,0,none⟩,pc:=c5}),.agg (cnCells {yT with pa:=some ⟨g6,0,none⟩,pc:=c6})],pX w.heap.size 4,.agg #[.int .i64 sr,.string sd,.bool se,.int .i64 sn],.agg (cnCells {xT with pa:=some ⟨g4,0,none⟩,pc:=c4}),.agg (cnCells {xF with pa:=some ⟨g3,0,none⟩,pc:=c3}),.tuple #[.agg #[.int .i64 sr,.string yd,.bool ye,.int .i64 yn],.agg (cnCells {yF with pa:=some ⟨g5,0,none⟩,pc:=c5}),.agg (cnCells {yT with pa:=some ⟨g6,0,none⟩,pc:=c6})],.agg #[.int .i64 sr,.string yd,.bool ye,.int .i64 yn],.agg (cnCells {yF with pa:=some ⟨g5,0,none⟩,pc:=c5}),.agg (cnCells {yT with pa:=some ⟨g6,0,none⟩,pc:=c6}),U,U,U,U,U,U,U] ?_
   generalize (.tuple #[.agg #[.int .i64 sr,.string yd,.bool ye,.int .i64 yn],.agg (cnCells {yF with pa:=some ⟨g5,0,none⟩,pc:=c5}),.agg (cnCells {yT with pa:=some ⟨g6,0,none⟩,pc:=c6})]:Value)=qz98
   generalize (.agg #[.int .i64 sr,.string sd,.bool se,.int .i64 sn]:Value)=qz99
   generalize (.agg (cnCells {xT with pa:=some ⟨g4,0,none⟩,pc:=c4}):Value)=qz100
   generalize (.agg (cnCells {xF with pa:=some ⟨g3,0,none⟩,pc:=c3}):Value)=qz101
   generalize (.agg #[.int .i64 sr,.string yd,.bool ye,.int .i64 yn]:Value)=qz102
   generalize (.agg (cnCells {yF with pa:=some ⟨g5,0,none⟩,pc:=c5}):Value)=qz103
   generalize (.agg (cnCells {yT with pa:=some ⟨g6,0,none⟩,pc:=c6}):Value)=qz104
   go_upto_region 14 with (fail)
   clear qB2 qB29 qB36 qB67 qB70
   have o_w:w.heap.size≤qw7.heap.size:=by omega
   have o_t0:qw7.heap.size<qw10.heap.size:=by omega
   have o_t1:qw10.heap.size<qw13.heap.size:=by omega
   have o_x0:qw13.heap.size<qw51.heap.size:=by omega
   have o_y0:qw51.heap.size<qw95.heap.size:=by omega
   have o_x1:qw13.heap.size<qw78.heap.size:=by omega
   have o_y1:qw78.heap.size<qw95.heap.size:=by omega
   have o_x2:qw13.heap.size<qw80.heap.size:=by omega
   have o_y2:qw80.heap.size<qw95.heap.size:=by omega
   have o_x3:qw13.heap.size<qw83.heap.size:=by omega
   have o_y3:qw83.heap.size<qw95.heap.size:=by omega
   have o_x4:qw13.heap.size<qw16.heap.size:=by omega
   have o_y4:qw16.heap.size<qw95.heap.size:=by omega
   have o_x5:qw13.heap.size<g5:=by omega
   have o_y5:g5<qw95.heap.size:=by omega
   have o_x6:qw13.heap.size<g6:=by omega
   have o_y6:g6<qw95.heap.size:=by omega
   have o_n:qw13.heap.size<qw95.heap.size:=by omega
   try clear hne
   try clear hne2
   try clear qB2_l
   try clear qg3_s
   try clear qB5_l
   try clear qg6_s
   try clear qB8_l
   try clear qg9_s
   try clear qB11_l
   try clear qg12_s
   try clear qB14_l
   try clear qg15_s
   try clear qB17_l
   try clear qg18_s
   try clear qg24_s
   try clear qL23_g
   try clear qL23_l
   try clear qg26_s
   try clear H1_0
   try clear H1_1
   try clear qt28_s
   try clear qg33_s
   try clear H2_0
   try clear H2_1
   try clear qt35_s
   try clear qg40_s
   try clear qg42_s
   try clear qg44_s
   try clear qg46_s
   try clear qg52_s
   try clear H3_0
   try clear H3_1
   try clear H4_0
   try clear H4_1
   try clear qB54_l
   try clear qg55_s
   try clear qB57_l
   try clear qg58_s
   try clear qB60_l
   try clear qg61_s
   try clear qt63_s
   try clear qt66_s
   try clear qt69_s
   try clear qg79_s
   try clear H5_0
   try clear H5_1
   try clear H6_0
   try clear H6_1
   try clear qB81_l
   try clear qg82_s
   try clear qB84_l
   try clear qg85_s
   try clear qB87_l
   try clear qg88_s
   try clear qt90_s
   try clear qt93_s
   try clear qt96_s
   have hN0:0<qw95.heap.size:=by have:=qB64.lt;omega
   refine wp_region_low (Low (fun b=>b<qw95.heap.size)) (fun i x v=>match i with
     | 0=>v=.agg #[.int .i64 r,.string xd,.bool xe,.int .i64 xn]
     | 1=>v=.agg #[.int .i64 sr,.string yd,.bool ye,.int .i64 yn]
     | 2=>v=.agg #[.int .i64 r,.string xd,.bool xe,.int .i64 xn,.int .i64 sr,.string yd,.bool ye,.int .i64 yn]
     | 3=>v=.agg (cnCells {yT with pa:=some ⟨g6,0,none⟩,pc:=c6})
     | 4=>v=.agg (cnCells {yF with pa:=some ⟨g5,0,none⟩,pc:=c5})
     | 5=>v=.slice (some ⟨qw16.heap.size,0,none⟩) 0 0
     | 6=>v=.slice (some ⟨qw16.heap.size,0,none⟩) 0 0
     | 7=>True
     | 8=>True
     | 9=>True
     | 10=>v=.slice (some ⟨qw16.heap.size,0,none⟩) 0 0
     | 11=>v=.slice (some ⟨qw16.heap.size,0,none⟩) 0 0
     | _=>True) (fun f vals x=>Blk qw51.heap.size x #[.int .i64 r,.string xd,.bool xe,.int .i64 xn]∧Blk qw78.heap.size x #[.int .i64 sr,.string yd,.bool ye,.int .i64 yn]∧Blk qw80.heap.size x (cnCells {yF with pa:=some ⟨g5,0,none⟩,pc:=c5})∧Blk qw83.heap.size x (cnCells {yT with pa:=some ⟨g6,0,none⟩,pc:=c6})∧Blk qw7.heap.size x (if f 7 then #[.int .i64 r,.string xd,.bool xe,.int .i64 xn,.int .i64 sr,.string yd,.bool ye,.int .i64 yn] else #[.int .i64 0,.string ByteArray.empty,.bool false,.int .i64 0,.int .i64 0,.string ByteArray.empty,.bool false,.int .i64 0])∧Blk qw10.heap.size x (if f 8 then (cnCells {yT with pa:=some ⟨g6,0,none⟩,pc:=c6}) else (cnCells cnZero))∧Blk qw13.heap.size x (if f 9 then (cnCells {yF with pa:=some ⟨g5,0,none⟩,pc:=c5}) else (cnCells cnZero))∧Held shG x w.heap.size (qw16.heap.size) 0 0 ([]:List Sg)∧Held shP x w.heap.size g5 xT.pn c5 qs∧Held shP x w.heap.size g6 xF.pn c6 ps∧qw95.heap.size≤x.heap.size∧Since w x) (fun v=>{tmps:=#[qz19,qz20,qz21,.pointer (some ⟨w.heap.size,0,none⟩),.pointer (some ⟨qw1.heap.size,0,none⟩),.pointer (some ⟨qw4.heap.size,0,none⟩),.pointer (some ⟨qw7.heap.size,0,none⟩),.pointer (some ⟨qw10.heap.size,0,none⟩),.pointer (some ⟨qw13.heap.size,0,none⟩),v 10,v 11,.slice (some ⟨qw16.heap.size,0,none⟩) 0 0,undef,undef,undef,undef,.pointer (some ⟨qw51.heap.size,0,none⟩),.pointer (some ⟨qw53.heap.size,0,none⟩),.pointer (some ⟨qw56.heap.size,0,none⟩),.pointer (some ⟨qw78.heap.size,0,none⟩),.pointer (some ⟨qw80.heap.size,0,none⟩),.pointer (some ⟨qw83.heap.size,0,none⟩),.slice (some ⟨qw16.heap.size,0,none⟩) 0 0,qz30,qz31,qz37,qz38,.bool false,.pointer (some ⟨w.heap.size,0,none⟩),qz47,.bool true,.bool false,.bool false,.pointer (some ⟨w.heap.size,4,none⟩),qz48,.bool true,.bool false,.bool false,.bool false,qz49,.bool true,.bool false,.bool false,.bool false,qz50,.bool true,.bool false,.bool false,undef,undef,undef,undef,undef,.bool false,z54,z55,z56,z57,z58,z59,z60,z61,undef,undef,undef,undef,undef,undef,undef,undef,undef,undef,.bool false,z73,z74,z75,z76,z77,z78,z79,z80,undef,undef,undef,undef,undef,undef,undef,undef,undef,undef,qz71,.pointer (some ⟨w.heap.size,0,none⟩),qz72,qz73,qz74,qz71,qz75,qz76,qz77,qz98,.pointer (some ⟨w.heap.size,4,none⟩),qz99,qz100,qz101,qz98,qz102,qz103,qz104,v 0,v 1,v 2,v 3,v 4,v 5,v 6],defers:=[]}) (by kernel_rfl) (by kernel_rfl) ?_ ?_ (fun vals=>by kernel_rfl) ?_ ?_
   case refine_1=>
    intro j x y v hl hv
    match j,hv with
    | 0,hv|1,hv|2,hv|3,hv|4,hv|5,hv|6,hv|10,hv|11,hv=>exact hv
    | 7,hv|8,hv|9,hv=>trivial
    | n+12,_=>trivial
   case refine_2=>
    intro f vals hf
    refine ⟨qB64.since ((Since.refl _).drew),qB91.since ((Since.refl _).drew),qB94.since ((Since.refl _).drew),qB97.since ((Since.refl _).drew),(by rw [hf 7];exact qB11.since ((Since.refl _).drew)),(by rw [hf 8];exact qB14.since ((Since.refl _).drew)),(by rw [hf 9];exact qB17.since ((Since.refl _).drew)),qL23.since ((Since.refl _).drew),H5.since ((Since.refl _).drew),H6.since ((Since.refl _).drew),((Since.refl _).drew).size,G.trans ((Since.refl _).drew)⟩
   case refine_3=>
    repeat (first|exact eachLow_nil|refine eachLow_cons ?_ ?_)
    all_goals intro f vals x hf hr hK
    all_goals obtain ⟨k0,k1,k2,k3,k4,k5,k6,k7,k8,k9,k10,k11⟩:=hK
    ·have e6:vals 6=.slice (some ⟨qw16.heap.size,0,none⟩) 0 0:=(hr ⟨6,.data⟩ (by simp) rfl).2
     simp [does,doesUpon,go_sem,e6]
     exact ⟨Low.since (b:=0) (Since.refl _) (hN0),⟨k0,k1,k2,k3,k4,k5,k6,k7,k8,k9,k10,k11⟩⟩
    ·have e5:vals 5=.slice (some ⟨qw16.heap.size,0,none⟩) 0 0:=(hr ⟨5,.data⟩ (by simp) rfl).2
     simp [does,doesUpon,go_sem,e5]
     exact ⟨Low.since (b:=0) (Since.refl _) (hN0),⟨k0,k1,k2,k3,k4,k5,k6,k7,k8,k9,k10,k11⟩⟩
    ·have ev:vals 4=.agg (cnCells {yF with pa:=some ⟨g5,0,none⟩,pc:=c5}):=(hr ⟨4,.data⟩ (by simp) rfl).2
     have kz:Blk qw13.heap.size x (cnCells cnZero):=by have:=k6;rw [hf] at this;exact this
     refine does_store cn_big (cn_size _) (Raw.of kz (cn_size _)) (cn_one _) _ _ rfl rfl ev ?_
     intro z t B
     exact ⟨Low.touch t (show qw13.heap.size<qw95.heap.size by omega),⟨k0.touch t (by omega),k1.touch t (by omega),k2.touch t (by omega),k3.touch t (by omega),k4.touch t (by omega),k5.touch t (by omega),B,k7.touch t (by omega),k8.touch t (by omega),k9.touch t (by omega),Nat.le_trans k10 t.size,since_touch k11 t (by omega)⟩,trivial⟩
    ·have ev:vals 3=.agg (cnCells {yT with pa:=some ⟨g6,0,none⟩,pc:=c6}):=(hr ⟨3,.data⟩ (by simp) rfl).2
     have kz:Blk qw10.heap.size x (cnCells cnZero):=by have:=k5;rw [hf] at this;exact this
     refine does_store cn_big (cn_size _) (Raw.of kz (cn_size _)) (cn_one _) _ _ rfl rfl ev ?_
     intro z t B
     exact ⟨Low.touch t (show qw10.heap.size<qw95.heap.size by omega),⟨k0.touch t (by omega),k1.touch t (by omega),k2.touch t (by omega),k3.touch t (by omega),k4.touch t (by omega),B,k6.touch t (by omega),k7.touch t (by omega),k8.touch t (by omega),k9.touch t (by omega),Nat.le_trans k10 t.size,since_touch k11 t (by omega)⟩,trivial⟩
    ·have ev:vals 2=.agg #[.int .i64 r,.string xd,.bool xe,.int .i64 xn,.int .i64 sr,.string yd,.bool ye,.int .i64 yn]:=(hr ⟨2,.data⟩ (by simp) rfl).2
     have kz:Blk qw7.heap.size x #[.int .i64 0,.string ByteArray.empty,.bool false,.int .i64 0,.int .i64 0,.string ByteArray.empty,.bool false,.int .i64 0]:=by have:=k4;rw [hf] at this;exact this
     refine does_store rl_big rfl (Raw.of kz rfl) (by simp [Value.oneCell']) _ _ rfl rfl ev ?_
     intro z t B
     exact ⟨Low.touch t (show qw7.heap.size<qw95.heap.size by omega),⟨k0.touch t (by omega),k1.touch t (by omega),k2.touch t (by omega),k3.touch t (by omega),B,k5.touch t (by omega),k6.touch t (by omega),k7.touch t (by omega),k8.touch t (by omega),k9.touch t (by omega),Nat.le_trans k10 t.size,since_touch k11 t (by omega)⟩,trivial⟩
    ·skip
     simp [does,doesUpon,go_sem]
     exact ⟨Low.since (b:=0) (Since.refl _) (hN0),⟨k0,k1,k2,k3,k4,k5,k6,k7,k8,k9,k10,k11⟩⟩
    ·skip
     simp [does,doesUpon,go_sem]
     exact ⟨Low.since (b:=0) (Since.refl _) (hN0),⟨k0,k1,k2,k3,k4,k5,k6,k7,k8,k9,k10,k11⟩⟩
    ·exact does_load cn_big (cn_size _) k2 _ rfl rfl ⟨Low.since (b:=0) (Since.refl _) (hN0),⟨k0,k1,k2,k3,k4,k5,k6,k7,k8,k9,k10,k11⟩,rfl⟩
    ·exact does_load cn_big (cn_size _) k3 _ rfl rfl ⟨Low.since (b:=0) (Since.refl _) (hN0),⟨k0,k1,k2,k3,k4,k5,k6,k7,k8,k9,k10,k11⟩,rfl⟩
    ·skip
     have e0:vals 0=.agg #[.int .i64 r,.string xd,.bool xe,.int .i64 xn]:=(hr ⟨0,.data⟩ (by simp) rfl).2
     have e1:vals 1=.agg #[.int .i64 sr,.string yd,.bool ye,.int .i64 yn]:=(hr ⟨1,.data⟩ (by simp) rfl).2
     simp [does,doesUpon,go_sem,e0,e1]
     exact ⟨Low.since (b:=0) (Since.refl _) (hN0),⟨k0,k1,k2,k3,k4,k5,k6,k7,k8,k9,k10,k11⟩⟩
    ·exact does_load pp_big rfl k1 _ rfl rfl ⟨Low.since (b:=0) (Since.refl _) (hN0),⟨k0,k1,k2,k3,k4,k5,k6,k7,k8,k9,k10,k11⟩,rfl⟩
    ·exact does_load pp_big rfl k0 _ rfl rfl ⟨Low.since (b:=0) (Since.refl _) (hN0),⟨k0,k1,k2,k3,k4,k5,k6,k7,k8,k9,k10,k11⟩,rfl⟩
   intro f qv106 qw105 hK hf hv
   obtain ⟨k0,k1,k2,k3,k4,k5,k6,k7,k8,k9,k10,k11⟩:=hK
   clear qB64 qB91 qB94 qB97 qB11 qB14 qB17 qL23 H5 H6 G
   have hv0:qv106 0=_:=hv 0 (by decide)
   have hv1:qv106 1=_:=hv 1 (by decide)
   have hv2:qv106 2=_:=hv 2 (by decide)
   have hv3:qv106 3=_:=hv 3 (by decide)
   have hv4:qv106 4=_:=hv 4 (by decide)
   have hv5:qv106 5=_:=hv 5 (by decide)
   have hv6:qv106 6=_:=hv 6 (by decide)
   have hv10:qv106 10=_:=hv 10 (by decide)
   have hv11:qv106 11=_:=hv 11 (by decide)
   clear hv
   simp only [hv0,hv1,hv2,hv3,hv4,hv5,hv6,hv10,hv11]
   clear hv0 hv1 hv2 hv3 hv4 hv5 hv6 hv10 hv11
   have qB64:=k0
   clear k0
   have qB91:=k1
   clear k1
   have qB94:=k2
   clear k2
   have qB97:=k3
   clear k3
   have qB11:Blk qw7.heap.size qw105 #[.int .i64 r,.string xd,.bool xe,.int .i64 xn,.int .i64 sr,.string yd,.bool ye,.int .i64 yn]:=by have:=k4;rw [hf 7 (by decide)] at this;exact this
   clear k4
   have qB14:Blk qw10.heap.size qw105 (cnCells {yT with pa:=some ⟨g6,0,none⟩,pc:=c6}):=by have:=k5;rw [hf 8 (by decide)] at this;exact this
   clear k5
   have qB17:Blk qw13.heap.size qw105 (cnCells {yF with pa:=some ⟨g5,0,none⟩,pc:=c5}):=by have:=k6;rw [hf 9 (by decide)] at this;exact this
   clear k6
   have qL23:=k7
   clear k7
   have H5:=k8
   clear k8
   have H6:=k9
   clear k9
   have G:=k11
   clear k11
   have qw105_l:=qB17.lt
   have qw105_n:=k10
   clear k10
   have H6b:Held shP qw105 w.heap.size g6 L.pn c6 ps:=by rw [← pF];exact H6
   have H5b:Held shP qw105 w.heap.size g5 R.pn c5 qs:=by rw [← pT];exact H5
   go_wp2_with (fail)
   exact bodyPost_ret (results_5 (hs:=rfl) (t:=6) (u:=7) (v:=8) (x:=9) (y:=10) rfl _ rfl rfl rfl qB11 qB14 qB17) rfl (hidI ⟨_,_,_,_,_,_,_,_,_,_,by rw [ek.out,hyd.out,hye.out,hyn.out,hyF.out,hyT.out,hxd.out,hxe.out,hxn.out,hxF.out,hxT.out];rfl,H6b,H5b,by rw [ek.out];exact qL23,by rw [ek.out];exact qL23,G⟩)

set_option maxRecDepth 20000 in
set_option maxHeartbeats 16000000 in
theorem specRelay (r:Int) (d:ByteArray) (e:Bool) (n:Int) (sr:Int) (sd:ByteArray) (se:Bool) (sn:Int) (L:Cn) (ps:List (Int×ByteArray)) (R:Cn) (qs:List (Int×ByteArray)) (gL:GoodC L ps) (gR:GoodC R qs) (hd:d.size≤1048576) (hf:sd.size≤1048576) (q p q2 p2:Nat) (w:World) (RL:Rd shP w (some ⟨q,0,none⟩) L.pn ps) (RR:Rd shP w (some ⟨q2,0,none⟩) R.pn qs)  :
  Calls Tryz.prog 6 #[.agg #[.int .i64 r,.string d,.bool e,.int .i64 n,.int .i64 sr,.string sd,.bool se,.int .i64 sn],.agg (cnCells {L with pa:=some ⟨q,0,none⟩,pc:=p}),.agg (cnCells {R with pa:=some ⟨q2,0,none⟩,pc:=p2})] w fun x w'=>Hid (∃ (A:Rl) (g1 c1 g2 c2 ga ma ca gb mb cb:Nat),A=(rlAns (rlWay r d n sr sd sn L ps R qs) r d e n sr sd se sn L ps R qs)∧x=.returned (.tuple #[.agg #[.int .i64 r,.string A.d,.bool A.e,.int .i64 A.n,.int .i64 sr,.string A.f,.bool A.g,.int .i64 A.m],.agg (cnCells {A.L with pa:=some ⟨g1,0,none⟩,pc:=c1}),.agg (cnCells {A.R with pa:=some ⟨g2,0,none⟩,pc:=c2}),.slice (some ⟨ga,0,none⟩) ma ca,.slice (some ⟨gb,0,none⟩) mb cb])∧Held shP w' w.heap.size g1 L.pn c1 ps∧Held shP w' w.heap.size g2 R.pn c2 qs∧Held shG w' w.heap.size ga ma ca A.xa∧Held shG w' w.heap.size gb mb cb A.xb∧Since w w'):=by
 cases hno:(pipeOk r d n && (pipeOk sr sd sn && (connOk L ps && connOk R qs)))
 case false=>exact specR0 r d e n sr sd se sn L ps R qs gL gR hd hf q p q2 p2 w RL RR hno
 case true=>
 simp only [Bool.and_eq_true] at hno
 obtain ⟨e1,e2,e3,e4⟩:=hno
 exact specRy r d e n sr sd se sn L ps R qs gL gR hd hf q p q2 p2 w RL RR e1 e2 e3 e4
end Go.Proofs.YtnbopjlpemmkcaaGreat
