/-
  A turn of a pipe, as spec makes it.
-/
import Derived.Test.YtnbopjlpemmkcaaGreatM23
import Derived.Test.YtnbopjlpemmkcaaGreatM21
import Derived.Deep.DeepCutAuto
namespace Go.Proofs.YtnbopjlpemmkcaaGreat
open Go.ChangeShapes Go.WideShapes Go.ChangeAt Go.RowKit
set_option linter.unusedVariables false
set_option maxRecDepth 10000

set_option maxRecDepth 20000 in
set_option maxHeartbeats 16000000 in
theorem specMove (r:Int) (d:ByteArray) (e:Bool) (n:Int) (F:Cn) (ps:List (Int×ByteArray)) (T:Cn) (qs:List (Int×ByteArray)) (gF:GoodC F ps) (gT:GoodC T qs) (hd:d.size≤1048576) (q p q2 p2:Nat) (w:World) (R:Rd shP w (some ⟨q,0,none⟩) F.pn ps) (R2:Rd shP w (some ⟨q2,0,none⟩) T.pn qs) :
  Calls Tryz.prog 24 #[.agg #[.int .i64 r,.string d,.bool e,.int .i64 n],.agg (cnCells {F with pa:=some ⟨q,0,none⟩,pc:=p}),.agg (cnCells {T with pa:=some ⟨q2,0,none⟩,pc:=p2})] w fun x w'=>∃ g cp g2 cp2,x=.returned (.tuple #[.agg #[.int .i64 r,.string (mvD r d n F ps T qs),.bool (mvE r d e n F ps T qs),.int .i64 (mvN r d n F ps T qs)],.agg (cnCells {mvF r d n F ps T qs with pa:=some ⟨g,0,none⟩,pc:=cp}),.agg (cnCells {mvT r d e n F ps T qs with pa:=some ⟨g2,0,none⟩,pc:=cp2})])∧Held shP w' w.heap.size g F.pn cp ps∧Held shP w' w.heap.size g2 T.pn cp2 qs∧g≠g2∧Since w w':=by
 obtain ⟨xD,hxD⟩:∃ x,Hid (x=mvD r d n F ps T qs):=⟨_,rfl⟩
 obtain ⟨xE,hxE⟩:∃ x,Hid (x=mvE r d e n F ps T qs):=⟨_,rfl⟩
 obtain ⟨xN,hxN⟩:∃ x,Hid (x=mvN r d n F ps T qs):=⟨_,rfl⟩
 obtain ⟨xF,hxF⟩:∃ x,Hid (x=mvF r d n F ps T qs):=⟨_,rfl⟩
 obtain ⟨xT,hxT⟩:∃ x,Hid (x=mvT r d e n F ps T qs):=⟨_,rfl⟩
 rw [← hxD.out,← hxE.out,← hxN.out,← hxF.out,← hxT.out]
 obtain ⟨b1,hb1⟩:∃ b,Hid (b=pipeOk r d n):=⟨_,rfl⟩
 obtain ⟨b2,hb2⟩:∃ b,Hid (b=connOk F ps):=⟨_,rfl⟩
 obtain ⟨b3,hb3⟩:∃ b,Hid (b=connOk T qs):=⟨_,rfl⟩
 have hk1:=fun wx=>specPipeOk r d e n wx
 unfold ppVal at hk1
 rw [← hb1.out] at hk1
 have hk2:=fun g cp wx Rx=>specOkAt F ps gF g cp wx Rx
 rw [← hb2.out] at hk2
 have hk3:=fun g cp wx Rx=>specOkAt T qs gT g cp wx Rx
 rw [← hb3.out] at hk3
 have hcF:=fun wx Rx=>sCopy gF q p wx Rx
 have hcT:=fun wx Rx=>sCopy gT q2 p2 wx Rx
 have G:=Since.refl w
 go_enter Tryz.func24,Tryz.ntmps24
 go_upto_region 0 with (fail)
 refine vR ?_
 refine vW (w.alloc (.cells #[.int .i64 r,.string d,.bool e,.int .i64 n] 40)) (.pointer (some ⟨w.heap.size,0,none⟩)) ?_
 have qB2:=Blk.new w #[.int .i64 r,.string d,.bool e,.int .i64 n] 40
 have qg3:=(Since.refl w).alloc (.cells #[.int .i64 r,.string d,.bool e,.int .i64 n] 40)
 replace G:=G.trans qg3
 generalize w.alloc (.cells #[.int .i64 r,.string d,.bool e,.int .i64 n] 40)=qw1 at  G qB2 qg3 ⊢
 have qB2_l:=qB2.lt
 have qg3_s:=qg3.size
 refine vW (qw1.alloc (.cells (cnCells {F with pa:=some ⟨q,0,none⟩,pc:=p}) 50)) (.pointer (some ⟨qw1.heap.size,0,none⟩)) ?_
 have qB5:=Blk.new qw1 (cnCells {F with pa:=some ⟨q,0,none⟩,pc:=p}) 50
 have qg6:=(Since.refl qw1).alloc (.cells (cnCells {F with pa:=some ⟨q,0,none⟩,pc:=p}) 50)
 replace qB2:=qB2.since qg6
 replace G:=G.trans qg6
 generalize qw1.alloc (.cells (cnCells {F with pa:=some ⟨q,0,none⟩,pc:=p}) 50)=qw4 at qB2 G qB5 qg6 ⊢
 have qB5_l:=qB5.lt
 have qg6_s:=qg6.size
 refine vW (qw4.alloc (.cells (cnCells {T with pa:=some ⟨q2,0,none⟩,pc:=p2}) 50)) (.pointer (some ⟨qw4.heap.size,0,none⟩)) ?_
 have qB8:=Blk.new qw4 (cnCells {T with pa:=some ⟨q2,0,none⟩,pc:=p2}) 50
 have qg9:=(Since.refl qw4).alloc (.cells (cnCells {T with pa:=some ⟨q2,0,none⟩,pc:=p2}) 50)
 replace qB2:=qB2.since qg9
 replace qB5:=qB5.since qg9
 replace G:=G.trans qg9
 generalize qw4.alloc (.cells (cnCells {T with pa:=some ⟨q2,0,none⟩,pc:=p2}) 50)=qw7 at qB2 qB5 G qB8 qg9 ⊢
 have qB8_l:=qB8.lt
 have qg9_s:=qg9.size
 refine vW (qw7.alloc (.cells #[.int .i64 0,.string ByteArray.empty,.bool false,.int .i64 0] 40)) (.pointer (some ⟨qw7.heap.size,0,none⟩)) ?_
 have qB11:=Blk.new qw7 #[.int .i64 0,.string ByteArray.empty,.bool false,.int .i64 0] 40
 have qg12:=(Since.refl qw7).alloc (.cells #[.int .i64 0,.string ByteArray.empty,.bool false,.int .i64 0] 40)
 replace qB2:=qB2.since qg12
 replace qB5:=qB5.since qg12
 replace qB8:=qB8.since qg12
 replace G:=G.trans qg12
 generalize qw7.alloc (.cells #[.int .i64 0,.string ByteArray.empty,.bool false,.int .i64 0] 40)=qw10 at qB2 qB5 qB8 G qB11 qg12 ⊢
 have qB11_l:=qB11.lt
 have qg12_s:=qg12.size
 refine vW (qw10.alloc (.cells (cnCells cnZero) 50)) (.pointer (some ⟨qw10.heap.size,0,none⟩)) ?_
 have qB14:=Blk.new qw10 (cnCells cnZero) 50
 have qg15:=(Since.refl qw10).alloc (.cells (cnCells cnZero) 50)
 replace qB2:=qB2.since qg15
 replace qB5:=qB5.since qg15
 replace qB8:=qB8.since qg15
 replace qB11:=qB11.since qg15
 replace G:=G.trans qg15
 generalize qw10.alloc (.cells (cnCells cnZero) 50)=qw13 at qB2 qB5 qB8 qB11 G qB14 qg15 ⊢
 have qB14_l:=qB14.lt
 have qg15_s:=qg15.size
 refine vW (qw13.alloc (.cells (cnCells cnZero) 50)) (.pointer (some ⟨qw13.heap.size,0,none⟩)) ?_
 have qB17:=Blk.new qw13 (cnCells cnZero) 50
 have qg18:=(Since.refl qw13).alloc (.cells (cnCells cnZero) 50)
 replace qB2:=qB2.since qg18
 replace qB5:=qB5.since qg18
 replace qB8:=qB8.since qg18
 replace qB11:=qB11.since qg18
 replace qB14:=qB14.since qg18
 replace G:=G.trans qg18
 generalize qw13.alloc (.cells (cnCells cnZero) 50)=qw16 at qB2 qB5 qB8 qB11 qB14 G qB17 qg18 ⊢
 have qB17_l:=qB17.lt
 have qg18_s:=qg18.size
 refine vE #[.agg #[.int .i64 r,.string d,.bool e,.int .i64 n],.agg (cnCells {F with pa:=some ⟨q,0,none⟩,pc:=p}),.agg (cnCells {T with pa:=some ⟨q2,0,none⟩,pc:=p2}),pX w.heap.size 0,pX qw1.heap.size 0,pX qw4.heap.size 0,pX qw7.heap.size 0,pX qw10.heap.size 0,pX qw13.heap.size 0,U,U,U,U,U,U,U,U,U,U,U,U,U,U,U,U,U,U,U,U,U,U,U,U,U,U,U,U,U,U,U,U,U,U,U,U,U,U,U,U,U,U,U,U,U,U,U,U,U,U,U,U,U,U,U,U,U,U,U,U,U,U,U,U,U,U,U,U,U,U,U,U,U,U,U,U,U,U,U] ?_
 generalize (.agg #[.int .i64 r,.string d,.bool e,.int .i64 n]:Value)=qz19
 generalize (.agg (cnCells {F with pa:=some ⟨q,0,none⟩,pc:=p}):Value)=qz20
 generalize (.agg (cnCells {T with pa:=some ⟨q2,0,none⟩,pc:=p2}):Value)=qz21
 go_upto_region 1 with (fail)
 refine vR ?_
 refine vB cn_big qB5 (cn_size _) ?_
 refine vC (hcF _ (R.since G)) ?_
 rintro _ qw22 ⟨g,cp,rfl,H,qg23⟩
 refine ⟨_,rfl,?_⟩
 replace qB2:=qB2.since qg23
 replace qB5:=qB5.since qg23
 replace qB8:=qB8.since qg23
 replace qB11:=qB11.since qg23
 replace qB14:=qB14.since qg23
 replace qB17:=qB17.since qg23
 replace G:=G.trans qg23
 have qg23_s:=qg23.size
 have H_0:=H.low'
 replace H:=H.raise (show w.heap.size≤g by omega)
 have H_1:=H.lt
 refine sB (cnCells {F with pa:=some ⟨g,0,none⟩,pc:=cp}) cn_big qB5 (cn_size _) (cn_size _) (cn_one _) ?_
 intro qw24 qt25 qB26
 clear qB5
 replace qB2:=qB2.touch qt25 (by omega)
 replace qB8:=qB8.touch qt25 (by omega)
 replace qB11:=qB11.touch qt25 (by omega)
 replace qB14:=qB14.touch qt25 (by omega)
 replace qB17:=qB17.touch qt25 (by omega)
 replace H:=H.touch qt25 (by omega)
 replace G:=since_touch G qt25 (by omega)
 have qt25_s:=qt25.size
 refine vE #[qz19,qz20,qz21,pX w.heap.size 0,pX qw1.heap.size 0,pX qw4.heap.size 0,pX qw7.heap.size 0,pX qw10.heap.size 0,pX qw13.heap.size 0,U,U,U,U,.agg (cnCells {F with pa:=some ⟨q,0,none⟩,pc:=p}),.agg (cnCells {F with pa:=some ⟨g,0,none⟩,pc:=cp}),U,U,U,U,U,U,U,U,U,U,U,U,U,U,U,U,U,U,U,U,U,U,U,U,U,U,U,U,U,U,U,U,U,U,U,U,U,U,U,U,U,U,U,U,U,U,U,U,U,U,U,U,U,U,U,U,U,U,U,U,U,U,U,U,U,U,U,U,U,U,U,U,U] ?_
 generalize (.agg (cnCells {F with pa:=some ⟨q,0,none⟩,pc:=p}):Value)=qz27
 generalize (.agg (cnCells {F with pa:=some ⟨g,0,none⟩,pc:=cp}):Value)=qz28
 go_upto_region 2 with (fail)
 refine vR ?_
 refine vB cn_big qB8 (cn_size _) ?_
 refine vC (hcT _ (R2.since G)) ?_
 rintro _ qw29 ⟨g2,cp2,rfl,H2,qg30⟩
 refine ⟨_,rfl,?_⟩
 replace qB2:=qB2.since qg30
 replace qB26:=qB26.since qg30
 replace qB8:=qB8.since qg30
 replace qB11:=qB11.since qg30
 replace qB14:=qB14.since qg30
 replace qB17:=qB17.since qg30
 replace H:=H.since qg30
 replace G:=G.trans qg30
 have qg30_s:=qg30.size
 have H2_0:=H2.low'
 replace H2:=H2.raise (show w.heap.size≤g2 by omega)
 have H2_1:=H2.lt
 refine sB (cnCells {T with pa:=some ⟨g2,0,none⟩,pc:=cp2}) cn_big qB8 (cn_size _) (cn_size _) (cn_one _) ?_
 intro qw31 qt32 qB33
 clear qB8
 replace qB2:=qB2.touch qt32 (by omega)
 replace qB26:=qB26.touch qt32 (by omega)
 replace qB11:=qB11.touch qt32 (by omega)
 replace qB14:=qB14.touch qt32 (by omega)
 replace qB17:=qB17.touch qt32 (by omega)
 replace H:=H.touch qt32 (by omega)
 replace H2:=H2.touch qt32 (by omega)
 replace G:=since_touch G qt32 (by omega)
 have qt32_s:=qt32.size
 refine vE #[qz19,qz20,qz21,pX w.heap.size 0,pX qw1.heap.size 0,pX qw4.heap.size 0,pX qw7.heap.size 0,pX qw10.heap.size 0,pX qw13.heap.size 0,U,U,U,U,qz27,qz28,.agg (cnCells {T with pa:=some ⟨q2,0,none⟩,pc:=p2}),.agg (cnCells {T with pa:=some ⟨g2,0,none⟩,pc:=cp2}),U,U,U,U,U,U,U,U,U,U,U,U,U,U,U,U,U,U,U,U,U,U,U,U,U,U,U,U,U,U,U,U,U,U,U,U,U,U,U,U,U,U,U,U,U,U,U,U,U,U,U,U,U,U,U,U,U,U,U,U,U,U,U,U,U,U,U,U,U,U,U] ?_
 generalize (.agg (cnCells {T with pa:=some ⟨q2,0,none⟩,pc:=p2}):Value)=qz34
 generalize (.agg (cnCells {T with pa:=some ⟨g2,0,none⟩,pc:=cp2}):Value)=qz35
 go_upto_region 3 with (fail)
 cases hno:(b1 && (b2 && b3))
 case false=>
  replace hno:Hid _:=hno
  have hmk:mvOk r d n F ps T qs=false:=by unfold mvOk;rw [← hb1.out,← hb2.out,← hb3.out];exact hno.out
  have eX:Hid (xD=d):=(by rw [hxD.out];unfold mvD;rw [hmk];rfl:xD=d)
  have eE:Hid (xE=e):=(by rw [hxE.out];unfold mvE;rw [hmk];rfl:xE=e)
  have eC:Hid (xN=n):=(by rw [hxN.out];unfold mvN;rw [hmk];rfl:xN=n)
  have eF:Hid (xF=F):=(by rw [hxF.out];unfold mvF;rw [hmk];rfl:xF=F)
  have eT:Hid (xT=T):=(by rw [hxT.out];unfold mvT;rw [hmk];rfl:xT=T)
  clear hmk
  refine vR ?_
  refine vKey (T:=Value×Value×Value×Value×Value×Value×Value×Value×Value×Value×Value×Value×Value) (fun t=>#[qz19,qz20,qz21,.pointer (some ⟨w.heap.size,0,none⟩),.pointer (some ⟨qw1.heap.size,0,none⟩),.pointer (some ⟨qw4.heap.size,0,none⟩),.pointer (some ⟨qw7.heap.size,0,none⟩),.pointer (some ⟨qw10.heap.size,0,none⟩),.pointer (some ⟨qw13.heap.size,0,none⟩),undef,undef,undef,undef,qz27,qz28,qz34,qz35,t.1,t.2.1,t.2.2.1,t.2.2.2.1,t.2.2.2.2.1,t.2.2.2.2.2.1,t.2.2.2.2.2.2.1,t.2.2.2.2.2.2.2.1,t.2.2.2.2.2.2.2.2.1,t.2.2.2.2.2.2.2.2.2.1,t.2.2.2.2.2.2.2.2.2.2.1,t.2.2.2.2.2.2.2.2.2.2.2.1,.bool true,undef,undef,undef,undef,undef,undef,undef,undef,undef,undef,undef,undef,undef,undef,undef,undef,undef,undef,undef,undef,undef,undef,undef,undef,undef,undef,undef,undef,undef,undef,undef,undef,undef,undef,undef,undef,undef,undef,undef,undef,undef,undef,undef,undef,undef,undef,undef,undef,undef,undef,undef,undef,undef,undef,undef,undef,undef,undef]) ?_ (fun key=>?_)
  rotate_left
  ·have G:=Since.refl qw31
   replace key:Hid _:=key
   cases b1
   case false=>
    refine vB pp_big qB2 rfl ?_
    refine vK (hk1 _) ?_
    intro qw36 qg37
    replace qB2:=qB2.since qg37
    replace qB26:=qB26.since qg37
    replace qB33:=qB33.since qg37
    replace qB11:=qB11.since qg37
    replace qB14:=qB14.since qg37
    replace qB17:=qB17.since qg37
    replace H:=H.since qg37
    replace H2:=H2.since qg37
    replace G:=G.trans qg37
    have qg37_s:=qg37.size
    refine vV (.bool true) ?_
    refine vV (.bool true) ?_
    refine vS ?_
    refine vS ?_
    refine vS ?_
    refine vV (.bool true) ?_
    refine vV (.bool true) ?_
    refine vS ?_
    refine vS ?_
    refine vS ?_
    refine vV (.bool true) ?_
    refine vF #[qz19,qz20,qz21,.pointer (some ⟨w.heap.size,0,none⟩),.pointer (some ⟨qw1.heap.size,0,none⟩),.pointer (some ⟨qw4.heap.size,0,none⟩),.pointer (some ⟨qw7.heap.size,0,none⟩),.pointer (some ⟨qw10.heap.size,0,none⟩),.pointer (some ⟨qw13.heap.size,0,none⟩),U,U,U,U,qz27,qz28,qz34,qz35,.agg #[.int .i64 r,.string d,.bool e,.int .i64 n],.bool false,.bool true,.bool true,U,U,U,.bool true,.bool true,U,U,U,.bool true,U,U,U,U,U,U,U,U,U,U,U,U,U,U,U,U,U,U,U,U,U,U,U,U,U,U,U,U,U,U,U,U,U,U,U,U,U,U,U,U,U,U,U,U,U,U,U,U,U,U,U,U,U,U,U,U,U,U] ?_
    exact key.out (.agg #[.int .i64 r,.string d,.bool e,.int .i64 n],.bool false,.bool true,.bool true,undef,undef,undef,.bool true,.bool true,undef,undef,undef,undef) _ G
   case true=>
   cases b2
   case false=>
    refine vB pp_big qB2 rfl ?_
    refine vK (hk1 _) ?_
    intro qw36 qg37
    replace qB2:=qB2.since qg37
    replace qB26:=qB26.since qg37
    replace qB33:=qB33.since qg37
    replace qB11:=qB11.since qg37
    replace qB14:=qB14.since qg37
    replace qB17:=qB17.since qg37
    replace H:=H.since qg37
    replace H2:=H2.since qg37
    replace G:=G.trans qg37
    have qg37_s:=qg37.size
    refine vV (.bool false) ?_
    refine vV (.bool false) ?_
    refine vB cn_big qB26 (cn_size _) ?_
    refine vK (hk2 g cp _ H.reads) ?_
    intro qw38 qg39
    replace qB2:=qB2.since qg39
    replace qB26:=qB26.since qg39
    replace qB33:=qB33.since qg39
    replace qB11:=qB11.since qg39
    replace qB14:=qB14.since qg39
    replace qB17:=qB17.since qg39
    replace H:=H.since qg39
    replace H2:=H2.since qg39
    replace G:=G.trans qg39
    have qg39_s:=qg39.size
    refine vV (.bool true) ?_
    refine vV (.bool true) ?_
    refine vV (.bool true) ?_
    refine vS ?_
    refine vS ?_
    refine vS ?_
    refine vV (.bool true) ?_
    refine vF #[qz19,qz20,qz21,.pointer (some ⟨w.heap.size,0,none⟩),.pointer (some ⟨qw1.heap.size,0,none⟩),.pointer (some ⟨qw4.heap.size,0,none⟩),.pointer (some ⟨qw7.heap.size,0,none⟩),.pointer (some ⟨qw10.heap.size,0,none⟩),.pointer (some ⟨qw13.heap.size,0,none⟩),U,U,U,U,qz27,qz28,qz34,qz35,.agg #[.int .i64 r,.string d,.bool e,.int .i64 n],.bool true,.bool false,.bool false,.agg (cnCells {F with pa:=some ⟨g,0,none⟩,pc:=cp}),.bool false,.bool true,.bool true,.bool true,U,U,U,.bool true,U,U,U,U,U,U,U,U,U,U,U,U,U,U,U,U,U,U,U,U,U,U,U,U,U,U,U,U,U,U,U,U,U,U,U,U,U,U,U,U,U,U,U,U,U,U,U,U,U,U,U,U,U,U,U,U,U,U] ?_
    exact key.out (.agg #[.int .i64 r,.string d,.bool e,.int .i64 n],.bool true,.bool false,.bool false,.agg (cnCells {F with pa:=some ⟨g,0,none⟩,pc:=cp}),.bool false,.bool true,.bool true,.bool true,undef,undef,undef,undef) _ G
   case true=>
   cases b3
   case false=>
    refine vB pp_big qB2 rfl ?_
    refine vK (hk1 _) ?_
    intro qw36 qg37
    replace qB2:=qB2.since qg37
    replace qB26:=qB26.since qg37
    replace qB33:=qB33.since qg37
    replace qB11:=qB11.since qg37
    replace qB14:=qB14.since qg37
    replace qB17:=qB17.since qg37
    replace H:=H.since qg37
    replace H2:=H2.since qg37
    replace G:=G.trans qg37
    have qg37_s:=qg37.size
    refine vV (.bool false) ?_
    refine vV (.bool false) ?_
    refine vB cn_big qB26 (cn_size _) ?_
    refine vK (hk2 g cp _ H.reads) ?_
    intro qw38 qg39
    replace qB2:=qB2.since qg39
    replace qB26:=qB26.since qg39
    replace qB33:=qB33.since qg39
    replace qB11:=qB11.since qg39
    replace qB14:=qB14.since qg39
    replace qB17:=qB17.since qg39
    replace H:=H.since qg39
    replace H2:=H2.since qg39
    replace G:=G.trans qg39
    have qg39_s:=qg39.size
    refine vV (.bool false) ?_
    refine vV (.bool false) ?_
    refine vV (.bool false) ?_
    refine vB cn_big qB33 (cn_size _) ?_
    refine vK (hk3 g2 cp2 _ H2.reads) ?_
    intro qw40 qg41
    replace qB2:=qB2.since qg41
    replace qB26:=qB26.since qg41
    replace qB33:=qB33.since qg41
    replace qB11:=qB11.since qg41
    replace qB14:=qB14.since qg41
    replace qB17:=qB17.since qg41
    replace H:=H.since qg41
    replace H2:=H2.since qg41
    replace G:=G.trans qg41
    have qg41_s:=qg41.size
    refine vV (.bool true) ?_
    refine vV (.bool true) ?_
    refine vF #[qz19,qz20,qz21,.pointer (some ⟨w.heap.size,0,none⟩),.pointer (some ⟨qw1.heap.size,0,none⟩),.pointer (some ⟨qw4.heap.size,0,none⟩),.pointer (some ⟨qw7.heap.size,0,none⟩),.pointer (some ⟨qw10.heap.size,0,none⟩),.pointer (some ⟨qw13.heap.size,0,none⟩),U,U,U,U,qz27,qz28,qz34,qz35,.agg #[.int .i64 r,.string d,.bool e,.int .i64 n],.bool true,.bool false,.bool false,.agg (cnCells {F with pa:=some ⟨g,0,none⟩,pc:=cp}),.bool true,.bool false,.bool false,.bool false,.agg (cnCells {T with pa:=some ⟨g2,0,none⟩,pc:=cp2}),.bool false,.bool true,.bool true,U,U,U,U,U,U,U,U,U,U,U,U,U,U,U,U,U,U,U,U,U,U,U,U,U,U,U,U,U,U,U,U,U,U,U,U,U,U,U,U,U,U,U,U,U,U,U,U,U,U,U,U,U,U,U,U,U,U] ?_
    exact key.out (.agg #[.int .i64 r,.string d,.bool e,.int .i64 n],.bool true,.bool false,.bool false,.agg (cnCells {F with pa:=some ⟨g,0,none⟩,pc:=cp}),.bool true,.bool false,.bool false,.bool false,.agg (cnCells {T with pa:=some ⟨g2,0,none⟩,pc:=cp2}),.bool false,.bool true,undef) _ G
   case true=>exact absurd hno.out (by decide)
  intro t qw36 hS
  replace qB2:=qB2.since hS
  replace qB26:=qB26.since hS
  replace qB33:=qB33.since hS
  replace qB11:=qB11.since hS
  replace qB14:=qB14.since hS
  replace qB17:=qB17.since hS
  replace H:=H.since hS
  replace H2:=H2.since hS
  replace G:=G.trans hS
  have hS_s:=hS.size
  clear hS
  obtain ⟨z17,t⟩:=t
  obtain ⟨z18,t⟩:=t
  obtain ⟨z19,t⟩:=t
  obtain ⟨z20,t⟩:=t
  obtain ⟨z21,t⟩:=t
  obtain ⟨z22,t⟩:=t
  obtain ⟨z23,t⟩:=t
  obtain ⟨z24,t⟩:=t
  obtain ⟨z25,t⟩:=t
  obtain ⟨z26,t⟩:=t
  obtain ⟨z27,t⟩:=t
  obtain ⟨z28,t⟩:=t
  refine vE #[qz19,qz20,qz21,pX w.heap.size 0,pX qw1.heap.size 0,pX qw4.heap.size 0,pX qw7.heap.size 0,pX qw10.heap.size 0,pX qw13.heap.size 0,U,U,U,U,qz27,qz28,qz34,qz35,z17,z18,z19,z20,z21,z22,z23,z24,z25,z26,z27,z28,.bool true,U,U,U,U,U,U,U,U,U,U,U,U,U,U,U,U,U,U,U,U,U,U,U,U,U,U,U,U,U,U,U,U,U,U,U,U,U,U,U,U,U,U,U,U,U,U,U,U,U,U,U,U,U,U,U,U,U,U] ?_
  go_upto_region 4 with (fail)
  have hN0:0<qw36.heap.size:=by have:=qB2.lt;omega
  refine wp_region_low (Low (fun b=>b<qw36.heap.size)) (fun i x v=>match i with
    | 0=>v=.agg #[.int .i64 r,.string d,.bool e,.int .i64 n]
    | 1=>v=.agg (cnCells {F with pa:=some ⟨g,0,none⟩,pc:=cp})
    | 2=>v=.agg (cnCells {T with pa:=some ⟨g2,0,none⟩,pc:=cp2})
    | 3=>True
    | 4=>True
    | 5=>True
    | _=>True) (fun f vals x=>Blk w.heap.size x #[.int .i64 r,.string d,.bool e,.int .i64 n]∧Blk qw1.heap.size x (cnCells {F with pa:=some ⟨g,0,none⟩,pc:=cp})∧Blk qw4.heap.size x (cnCells {T with pa:=some ⟨g2,0,none⟩,pc:=cp2})∧Blk qw7.heap.size x (if f 3 then #[.int .i64 r,.string d,.bool e,.int .i64 n] else #[.int .i64 0,.string ByteArray.empty,.bool false,.int .i64 0])∧Blk qw10.heap.size x (if f 4 then (cnCells {F with pa:=some ⟨g,0,none⟩,pc:=cp}) else (cnCells cnZero))∧Blk qw13.heap.size x (if f 5 then (cnCells {T with pa:=some ⟨g2,0,none⟩,pc:=cp2}) else (cnCells cnZero))∧Held shP x w.heap.size g F.pn cp ps∧Held shP x w.heap.size g2 T.pn cp2 qs∧qw36.heap.size≤x.heap.size∧Since w x) (fun v=>{tmps:=#[qz19,qz20,qz21,.pointer (some ⟨w.heap.size,0,none⟩),.pointer (some ⟨qw1.heap.size,0,none⟩),.pointer (some ⟨qw4.heap.size,0,none⟩),.pointer (some ⟨qw7.heap.size,0,none⟩),.pointer (some ⟨qw10.heap.size,0,none⟩),.pointer (some ⟨qw13.heap.size,0,none⟩),undef,undef,undef,undef,qz27,qz28,qz34,qz35,z17,z18,z19,z20,z21,z22,z23,z24,z25,z26,z27,z28,.bool true,v 0,v 1,v 2,undef,undef,undef,undef,undef,undef,undef,undef,undef,undef,undef,undef,undef,undef,undef,undef,undef,undef,undef,undef,undef,undef,undef,undef,undef,undef,undef,undef,undef,undef,undef,undef,undef,undef,undef,undef,undef,undef,undef,undef,undef,undef,undef,undef,undef,undef,undef,undef,undef,undef,undef,undef,undef,undef,undef],defers:=[]}) (by kernel_rfl) (by kernel_rfl) ?_ ?_ (fun vals=>by kernel_rfl) ?_ ?_
  case refine_1=>
   intro j x y v hl hv
   match j,hv with
   | 0,hv|1,hv|2,hv=>exact hv
   | 3,hv|4,hv|5,hv=>trivial
   | n+6,_=>trivial
  case refine_2=>
   intro f vals hf
   refine ⟨qB2.since ((Since.refl _).drew),qB26.since ((Since.refl _).drew),qB33.since ((Since.refl _).drew),(by rw [hf 3];exact qB11.since ((Since.refl _).drew)),(by rw [hf 4];exact qB14.since ((Since.refl _).drew)),(by rw [hf 5];exact qB17.since ((Since.refl _).drew)),H.since ((Since.refl _).drew),H2.since ((Since.refl _).drew),((Since.refl _).drew).size,G.trans ((Since.refl _).drew)⟩
  case refine_3=>
   repeat (first|exact eachLow_nil|refine eachLow_cons ?_ ?_)
   all_goals intro f vals x hf hr hK
   all_goals obtain ⟨k0,k1,k2,k3,k4,k5,k6,k7,k8,k9⟩:=hK
   ·have ev:vals 2=.agg (cnCells {T with pa:=some ⟨g2,0,none⟩,pc:=cp2}):=(hr ⟨2,.data⟩ (by simp) rfl).2
    have kz:Blk qw13.heap.size x (cnCells cnZero):=by have:=k5;rw [hf] at this;exact this
    refine does_store cn_big (cn_size _) (Raw.of kz (cn_size _)) (cn_one _) _ _ rfl rfl ev ?_
    intro z t B
    exact ⟨Low.touch t (show qw13.heap.size<qw36.heap.size by omega),⟨k0.touch t (by omega),k1.touch t (by omega),k2.touch t (by omega),k3.touch t (by omega),k4.touch t (by omega),B,k6.touch t (by omega),k7.touch t (by omega),Nat.le_trans k8 t.size,since_touch k9 t (by omega)⟩,trivial⟩
   ·have ev:vals 1=.agg (cnCells {F with pa:=some ⟨g,0,none⟩,pc:=cp}):=(hr ⟨1,.data⟩ (by simp) rfl).2
    have kz:Blk qw10.heap.size x (cnCells cnZero):=by have:=k4;rw [hf] at this;exact this
    refine does_store cn_big (cn_size _) (Raw.of kz (cn_size _)) (cn_one _) _ _ rfl rfl ev ?_
    intro z t B
    exact ⟨Low.touch t (show qw10.heap.size<qw36.heap.size by omega),⟨k0.touch t (by omega),k1.touch t (by omega),k2.touch t (by omega),k3.touch t (by omega),B,k5.touch t (by omega),k6.touch t (by omega),k7.touch t (by omega),Nat.le_trans k8 t.size,since_touch k9 t (by omega)⟩,trivial⟩
   ·have ev:vals 0=.agg #[.int .i64 r,.string d,.bool e,.int .i64 n]:=(hr ⟨0,.data⟩ (by simp) rfl).2
    have kz:Blk qw7.heap.size x #[.int .i64 0,.string ByteArray.empty,.bool false,.int .i64 0]:=by have:=k3;rw [hf] at this;exact this
    refine does_store pp_big rfl (Raw.of kz rfl) (by simp [Value.oneCell']) _ _ rfl rfl ev ?_
    intro z t B
    exact ⟨Low.touch t (show qw7.heap.size<qw36.heap.size by omega),⟨k0.touch t (by omega),k1.touch t (by omega),k2.touch t (by omega),B,k4.touch t (by omega),k5.touch t (by omega),k6.touch t (by omega),k7.touch t (by omega),Nat.le_trans k8 t.size,since_touch k9 t (by omega)⟩,trivial⟩
   ·exact does_load cn_big (cn_size _) k2 _ rfl rfl ⟨Low.since (b:=0) (Since.refl _) (hN0),⟨k0,k1,k2,k3,k4,k5,k6,k7,k8,k9⟩,rfl⟩
   ·exact does_load cn_big (cn_size _) k1 _ rfl rfl ⟨Low.since (b:=0) (Since.refl _) (hN0),⟨k0,k1,k2,k3,k4,k5,k6,k7,k8,k9⟩,rfl⟩
   ·exact does_load pp_big rfl k0 _ rfl rfl ⟨Low.since (b:=0) (Since.refl _) (hN0),⟨k0,k1,k2,k3,k4,k5,k6,k7,k8,k9⟩,rfl⟩
  intro f qv38 qw37 hK hf hv
  obtain ⟨k0,k1,k2,k3,k4,k5,k6,k7,k8,k9⟩:=hK
  clear qB2 qB26 qB33 qB11 qB14 qB17 H H2 G
  have hv0:qv38 0=_:=hv 0 (by decide)
  have hv1:qv38 1=_:=hv 1 (by decide)
  have hv2:qv38 2=_:=hv 2 (by decide)
  clear hv
  simp only [hv0,hv1,hv2]
  clear hv0 hv1 hv2
  have qB2:=k0
  clear k0
  have qB26:=k1
  clear k1
  have qB33:=k2
  clear k2
  have qB11:Blk qw7.heap.size qw37 #[.int .i64 r,.string d,.bool e,.int .i64 n]:=by have:=k3;rw [hf 3 (by decide)] at this;exact this
  clear k3
  have qB14:Blk qw10.heap.size qw37 (cnCells {F with pa:=some ⟨g,0,none⟩,pc:=cp}):=by have:=k4;rw [hf 4 (by decide)] at this;exact this
  clear k4
  have qB17:Blk qw13.heap.size qw37 (cnCells {T with pa:=some ⟨g2,0,none⟩,pc:=cp2}):=by have:=k5;rw [hf 5 (by decide)] at this;exact this
  clear k5
  have H:=k6
  clear k6
  have H2:=k7
  clear k7
  have G:=k9
  clear k9
  have qw37_l:=qB17.lt
  have qw37_n:=k8
  clear k8
  go_wp2_with (fail)
  exact bodyPost_ret (results_3 (hs:=rfl) (t:=6) (u:=7) (v:=8) rfl _ rfl rfl rfl qB11 qB14 qB17) rfl ⟨_,_,_,_,by rw [eX.out,eE.out,eC.out,eF.out,eT.out],H,H2,by omega,G⟩
 case true=>
  obtain ⟨rfl,rfl,rfl⟩:b1=true∧b2=true∧b3=true:=by simpa using hno
  clear hno
  have hmk:Hid (mvOk r d n F ps T qs=true):=(by unfold mvOk;rw [← hb1.out,← hb2.out,← hb3.out];rfl:mvOk r d n F ps T qs=true)
  have hpk:=(pipeOk_iff r d n).1 hb1.out.symm
  have hrd:IsInt (r - d.size):=by unfold IsInt;omega
  have ewr:IntKind.i64.wrap (r - (d.size:Int))=r - (d.size:Int):=by rw [IntWalk.i64_left];exact IntWalk.wrap64_in _ ⟨by omega,by omega⟩
  have hSz:=readS_size F ps (r - d.size)
  have hD1:(gotD r d F ps).size≤1048576:=gotD_size F ps (by omega)
  have hM:=writeM_le T qs (gotD r d F ps)
  obtain ⟨F1,hF1⟩:∃ x,Hid (x=readC F ps (r - d.size)):=⟨_,rfl⟩
  obtain ⟨S1,hS1⟩:∃ x,Hid (x=readS F ps (r - d.size)):=⟨_,rfl⟩
  obtain ⟨D1,hD1e⟩:∃ x,Hid (x=gotD r d F ps):=⟨_,rfl⟩
  rw [← hD1e.out] at hD1 hM
  obtain ⟨T1,hT1⟩:∃ x,Hid (x=writeC T qs D1):=⟨_,rfl⟩
  obtain ⟨M,hMe⟩:∃ x,Hid (x=writeM T qs D1):=⟨_,rfl⟩
  rw [← hMe.out] at hM
  have eD:Hid (d++S1=D1):=(by rw [hD1e.out,hS1.out];rfl:d++S1=D1)
  rw [← hS1.out] at hSz
  have ewn:IntKind.i64.wrap (n+(M:Int))=n+(M:Int):=by rw [IntWalk.i64_left];exact IntWalk.wrap64_in _ ⟨by omega,by omega⟩
  have gT1:GoodC T1 qs:=by rw [hT1.out];exact good_write gT _
  have pT1:T1.pn=T.pn:=by rw [hT1.out];exact write_pn _ _ _
  have pF1:F1.pn=F.pn:=by rw [hF1.out];exact read_pn _ _ _
  replace pF1:Hid _:=pF1
  obtain ⟨c1,hc1⟩:∃ b,Hid (b=emp F1.iD):=⟨_,rfl⟩
  obtain ⟨D2,hD2⟩:∃ x,Hid (x=D1.extract M D1.size):=⟨_,rfl⟩
  obtain ⟨c2,hc2⟩:∃ b,Hid (b=emp D2):=⟨_,rfl⟩
  have eL:Hid (leftD r d F ps T qs=D2):=(by unfold leftD;rw [← hD1e.out,← hMe.out,hD2.out]:leftD r d F ps T qs=D2)
  have eC:Hid (capP n M=xN):=(by rw [hxN.out];unfold mvN;rw [hmk.out,hMe.out,hD1e.out];rfl:capP n M=xN)
  have eF:Hid (xF=F1):=(by rw [hxF.out,hF1.out];unfold mvF;rw [hmk.out];rfl:xF=F1)
  have eX:Hid (xD=D2):=(by rw [hxD.out];unfold mvD;rw [hmk.out,← eL.out];rfl:xD=D2)
  have hr1:=fun g cp wx Rx=>sRead gF (r - d.size) hrd g cp wx Rx
  rw [← hF1.out,← hS1.out] at hr1
  have hw1:=fun g cp wx Rx=>sWrite gT D1 hD1 g cp wx Rx
  rw [← hT1.out,← hMe.out] at hw1
  have hs1:=fun (g cp:Nat) (wx:World) (Rx:Rd shP wx (some ⟨g,0,none⟩) T.pn qs)=>sClose gT1 g cp wx (by rw [pT1];exact Rx)
  obtain ⟨T2,hT2⟩:∃ x,Hid (x=closeC T1 qs):=⟨_,rfl⟩
  rw [← hT2.out] at hs1
  have hcl:=fun wx=>specClip (n+(M:Int)) 0 1000000000 (by omega) wx
  have eM:min (max (n+(M:Int)) 0) 1000000000=xN:=by rw [← eC.out];unfold capP;split<;>omega
  rw [eM] at hcl
  clear eM
  refine vR ?_
  refine vB pp_big qB2 rfl ?_
  refine vK (hk1 _) ?_
  intro qw36 qg37
  replace qB2:=qB2.since qg37
  replace qB26:=qB26.since qg37
  replace qB33:=qB33.since qg37
  replace qB11:=qB11.since qg37
  replace qB14:=qB14.since qg37
  replace qB17:=qB17.since qg37
  replace H:=H.since qg37
  replace H2:=H2.since qg37
  replace G:=G.trans qg37
  have qg37_s:=qg37.size
  refine vV (.bool false) ?_
  refine vV (.bool false) ?_
  refine vB cn_big qB26 (cn_size _) ?_
  refine vK (hk2 g cp _ H.reads) ?_
  intro qw38 qg39
  replace qB2:=qB2.since qg39
  replace qB26:=qB26.since qg39
  replace qB33:=qB33.since qg39
  replace qB11:=qB11.since qg39
  replace qB14:=qB14.since qg39
  replace qB17:=qB17.since qg39
  replace H:=H.since qg39
  replace H2:=H2.since qg39
  replace G:=G.trans qg39
  have qg39_s:=qg39.size
  refine vV (.bool false) ?_
  refine vV (.bool false) ?_
  refine vV (.bool false) ?_
  refine vB cn_big qB33 (cn_size _) ?_
  refine vK (hk3 g2 cp2 _ H2.reads) ?_
  intro qw40 qg41
  replace qB2:=qB2.since qg41
  replace qB26:=qB26.since qg41
  replace qB33:=qB33.since qg41
  replace qB11:=qB11.since qg41
  replace qB14:=qB14.since qg41
  replace qB17:=qB17.since qg41
  replace H:=H.since qg41
  replace H2:=H2.since qg41
  replace G:=G.trans qg41
  have qg41_s:=qg41.size
  refine vV (.bool false) ?_
  refine vV (.bool false) ?_
  refine vE #[qz19,qz20,qz21,pX w.heap.size 0,pX qw1.heap.size 0,pX qw4.heap.size 0,pX qw7.heap.size 0,pX qw10.heap.size 0,pX qw13.heap.size 0,U,U,U,U,qz27,qz28,qz34,qz35,.agg #[.int .i64 r,.string d,.bool e,.int .i64 n],.bool true,.bool false,.bool false,.agg (cnCells {F with pa:=some ⟨g,0,none⟩,pc:=cp}),.bool true,.bool false,.bool false,.bool false,.agg (cnCells {T with pa:=some ⟨g2,0,none⟩,pc:=cp2}),.bool true,.bool false,.bool false,U,U,U,U,U,U,U,U,U,U,U,U,U,U,U,U,U,U,U,U,U,U,U,U,U,U,U,U,U,U,U,U,U,U,U,U,U,U,U,U,U,U,U,U,U,U,U,U,U,U,U,U,U,U,U,U,U,U] ?_
  generalize (.agg #[.int .i64 r,.string d,.bool e,.int .i64 n]:Value)=qz42
  generalize (.agg (cnCells {F with pa:=some ⟨g,0,none⟩,pc:=cp}):Value)=qz43
  generalize (.agg (cnCells {T with pa:=some ⟨g2,0,none⟩,pc:=cp2}):Value)=qz44
  go_upto_region 5 with (fail)
  refine vR ?_
  refine vB cn_big qB26 (cn_size _) ?_
  refine vV (.pointer (some ⟨w.heap.size,0,none⟩)) ?_
  refine vD (.int .i64 r) (qB2.cell 0) ?_
  refine vV (.pointer (some ⟨w.heap.size,1,none⟩)) ?_
  refine vD (.string d) (qB2.cell 1) ?_
  refine vV (.int .i64 (d.size:Int)) ?_
  refine vV (.int .i64 (r - (d.size:Int))) ?_ (hrun:=by rw [← ewr];kernel_rfl)
  refine vC (hr1 g cp _ H.reads) ?_
  rintro _ qw45 ⟨g3,cp3,rfl,H3,qg46⟩
  refine ⟨_,rfl,?_⟩
  replace qB2:=qB2.since qg46
  replace qB26:=qB26.since qg46
  replace qB33:=qB33.since qg46
  replace qB11:=qB11.since qg46
  replace qB14:=qB14.since qg46
  replace qB17:=qB17.since qg46
  replace H:=H.since qg46
  replace H2:=H2.since qg46
  replace G:=G.trans qg46
  have qg46_s:=qg46.size
  have H3_0:=H3.low'
  replace H3:=H3.raise (show w.heap.size≤g3 by omega)
  have H3_1:=H3.lt
  clear H
  refine vV (.tuple #[.agg (cnCells {F1 with pa:=some ⟨g3,0,none⟩,pc:=cp3}),.string S1]) ?_
  refine vV (.agg (cnCells {F1 with pa:=some ⟨g3,0,none⟩,pc:=cp3})) ?_
  refine vV (.string S1) ?_
  refine vW (qw45.alloc (.cells (cnCells cnZero) 50)) (.pointer (some ⟨qw45.heap.size,0,none⟩)) ?_
  have qB48:=Blk.new qw45 (cnCells cnZero) 50
  have qg49:=(Since.refl qw45).alloc (.cells (cnCells cnZero) 50)
  replace qB2:=qB2.since qg49
  replace qB26:=qB26.since qg49
  replace qB33:=qB33.since qg49
  replace qB11:=qB11.since qg49
  replace qB14:=qB14.since qg49
  replace qB17:=qB17.since qg49
  replace H2:=H2.since qg49
  replace H3:=H3.since qg49
  replace G:=G.trans qg49
  generalize qw45.alloc (.cells (cnCells cnZero) 50)=qw47 at qB2 qB26 qB33 qB11 qB14 qB17 H2 H3 G qB48 qg49 ⊢
  have qB48_l:=qB48.lt
  have qg49_s:=qg49.size
  refine sB (cnCells {F1 with pa:=some ⟨g3,0,none⟩,pc:=cp3}) cn_big qB48 (cn_size _) (cn_size _) (cn_one _) ?_
  intro qw50 qt51 qB52
  clear qB48
  replace qB2:=qB2.touch qt51 (by omega)
  replace qB26:=qB26.touch qt51 (by omega)
  replace qB33:=qB33.touch qt51 (by omega)
  replace qB11:=qB11.touch qt51 (by omega)
  replace qB14:=qB14.touch qt51 (by omega)
  replace qB17:=qB17.touch qt51 (by omega)
  replace H2:=H2.touch qt51 (by omega)
  replace H3:=H3.touch qt51 (by omega)
  replace G:=since_touch G qt51 (by omega)
  have qt51_s:=qt51.size
  refine vV (.string S1) ?_
  refine vE #[qz19,qz20,qz21,pX w.heap.size 0,pX qw1.heap.size 0,pX qw4.heap.size 0,pX qw7.heap.size 0,pX qw10.heap.size 0,pX qw13.heap.size 0,pX qw45.heap.size 0,.string S1,U,U,qz27,qz28,qz34,qz35,qz42,.bool true,.bool false,.bool false,qz43,.bool true,.bool false,.bool false,.bool false,qz44,.bool true,.bool false,.bool false,U,U,U,.tuple #[.agg (cnCells {F1 with pa:=some ⟨g3,0,none⟩,pc:=cp3}),.string S1],.agg (cnCells {F with pa:=some ⟨g,0,none⟩,pc:=cp}),pX w.heap.size 0,.int .i64 r,pX w.heap.size 1,.string d,.int .i64 (d.size:Int),.int .i64 (r - (d.size:Int)),.tuple #[.agg (cnCells {F1 with pa:=some ⟨g3,0,none⟩,pc:=cp3}),.string S1],.agg (cnCells {F1 with pa:=some ⟨g3,0,none⟩,pc:=cp3}),.string S1,U,U,U,U,U,U,U,U,U,U,U,U,U,U,U,U,U,U,U,U,U,U,U,U,U,U,U,U,U,U,U,U,U,U,U,U,U,U,U,U,U,U,U,U] ?_
  generalize (.tuple #[.agg (cnCells {F1 with pa:=some ⟨g3,0,none⟩,pc:=cp3}),.string S1]:Value)=qz53
  generalize (.agg (cnCells {F with pa:=some ⟨g,0,none⟩,pc:=cp}):Value)=qz54
  generalize (.agg (cnCells {F1 with pa:=some ⟨g3,0,none⟩,pc:=cp3}):Value)=qz55
  go_upto_region 6 with (fail)
  refine vR ?_
  refine vV (.pointer (some ⟨w.heap.size,1,none⟩)) ?_
  refine vD (.string d) (qB2.cell 1) ?_
  refine vV (.string S1) ?_
  refine vAdd d S1 (by omega) ?_
  rw [eD.out]
  refine vV (.pointer (some ⟨w.heap.size,1,none⟩)) ?_
  refine sC #[.int .i64 r,.string D1,.bool e,.int .i64 n] qB2 1 (.string D1) rfl ?_
  intro qw56 qt57 qB58
  clear qB2
  replace qB26:=qB26.touch qt57 (by omega)
  replace qB33:=qB33.touch qt57 (by omega)
  replace qB11:=qB11.touch qt57 (by omega)
  replace qB14:=qB14.touch qt57 (by omega)
  replace qB17:=qB17.touch qt57 (by omega)
  replace qB52:=qB52.touch qt57 (by omega)
  replace H2:=H2.touch qt57 (by omega)
  replace H3:=H3.touch qt57 (by omega)
  replace G:=since_touch G qt57 (by omega)
  have qt57_s:=qt57.size
  refine vE #[qz19,qz20,qz21,pX w.heap.size 0,pX qw1.heap.size 0,pX qw4.heap.size 0,pX qw7.heap.size 0,pX qw10.heap.size 0,pX qw13.heap.size 0,pX qw45.heap.size 0,.string S1,U,U,qz27,qz28,qz34,qz35,qz42,.bool true,.bool false,.bool false,qz43,.bool true,.bool false,.bool false,.bool false,qz44,.bool true,.bool false,.bool false,U,U,U,qz53,qz54,pX w.heap.size 0,.int .i64 r,pX w.heap.size 1,.string d,.int .i64 (d.size:Int),.int .i64 (r - (d.size:Int)),qz53,qz55,.string S1,pX w.heap.size 1,.string d,.string S1,.string D1,pX w.heap.size 1,U,U,U,U,U,U,U,U,U,U,U,U,U,U,U,U,U,U,U,U,U,U,U,U,U,U,U,U,U,U,U,U,U,U,U,U,U,U,U] ?_
  go_upto_region 7 with (fail)
  refine vR ?_
  refine vB cn_big qB33 (cn_size _) ?_
  refine vV (.pointer (some ⟨w.heap.size,1,none⟩)) ?_
  refine vD (.string D1) (qB58.cell 1) ?_
  refine vC (hw1 g2 cp2 _ H2.reads) ?_
  rintro _ qw59 ⟨g4,cp4,rfl,H4,qg60⟩
  refine ⟨_,rfl,?_⟩
  replace qB58:=qB58.since qg60
  replace qB26:=qB26.since qg60
  replace qB33:=qB33.since qg60
  replace qB11:=qB11.since qg60
  replace qB14:=qB14.since qg60
  replace qB17:=qB17.since qg60
  replace qB52:=qB52.since qg60
  replace H2:=H2.since qg60
  replace H3:=H3.since qg60
  replace G:=G.trans qg60
  have qg60_s:=qg60.size
  have H4_0:=H4.low'
  replace H4:=H4.raise (show w.heap.size≤g4 by omega)
  have H4_1:=H4.lt
  clear H2
  refine vV (.tuple #[.agg (cnCells {T1 with pa:=some ⟨g4,0,none⟩,pc:=cp4}),.int .i64 (M:Int)]) ?_
  refine vV (.agg (cnCells {T1 with pa:=some ⟨g4,0,none⟩,pc:=cp4})) ?_
  refine vV (.int .i64 (M:Int)) ?_
  refine vW (qw59.alloc (.cells (cnCells cnZero) 50)) (.pointer (some ⟨qw59.heap.size,0,none⟩)) ?_
  have qB62:=Blk.new qw59 (cnCells cnZero) 50
  have qg63:=(Since.refl qw59).alloc (.cells (cnCells cnZero) 50)
  replace qB58:=qB58.since qg63
  replace qB26:=qB26.since qg63
  replace qB33:=qB33.since qg63
  replace qB11:=qB11.since qg63
  replace qB14:=qB14.since qg63
  replace qB17:=qB17.since qg63
  replace qB52:=qB52.since qg63
  replace H3:=H3.since qg63
  replace H4:=H4.since qg63
  replace G:=G.trans qg63
  generalize qw59.alloc (.cells (cnCells cnZero) 50)=qw61 at qB58 qB26 qB33 qB11 qB14 qB17 qB52 H3 H4 G qB62 qg63 ⊢
  have qB62_l:=qB62.lt
  have qg63_s:=qg63.size
  refine sB (cnCells {T1 with pa:=some ⟨g4,0,none⟩,pc:=cp4}) cn_big qB62 (cn_size _) (cn_size _) (cn_one _) ?_
  intro qw64 qt65 qB66
  clear qB62
  replace qB58:=qB58.touch qt65 (by omega)
  replace qB26:=qB26.touch qt65 (by omega)
  replace qB33:=qB33.touch qt65 (by omega)
  replace qB11:=qB11.touch qt65 (by omega)
  replace qB14:=qB14.touch qt65 (by omega)
  replace qB17:=qB17.touch qt65 (by omega)
  replace qB52:=qB52.touch qt65 (by omega)
  replace H3:=H3.touch qt65 (by omega)
  replace H4:=H4.touch qt65 (by omega)
  replace G:=since_touch G qt65 (by omega)
  have qt65_s:=qt65.size
  refine vV (.int .i64 (M:Int)) ?_
  refine vE #[qz19,qz20,qz21,pX w.heap.size 0,pX qw1.heap.size 0,pX qw4.heap.size 0,pX qw7.heap.size 0,pX qw10.heap.size 0,pX qw13.heap.size 0,pX qw45.heap.size 0,.string S1,pX qw59.heap.size 0,.int .i64 (M:Int),qz27,qz28,qz34,qz35,qz42,.bool true,.bool false,.bool false,qz43,.bool true,.bool false,.bool false,.bool false,qz44,.bool true,.bool false,.bool false,U,U,U,qz53,qz54,pX w.heap.size 0,.int .i64 r,pX w.heap.size 1,.string d,.int .i64 (d.size:Int),.int .i64 (r - (d.size:Int)),qz53,qz55,.string S1,pX w.heap.size 1,.string d,.string S1,.string D1,pX w.heap.size 1,.tuple #[.agg (cnCells {T1 with pa:=some ⟨g4,0,none⟩,pc:=cp4}),.int .i64 (M:Int)],.agg (cnCells {T with pa:=some ⟨g2,0,none⟩,pc:=cp2}),pX w.heap.size 1,.string D1,.tuple #[.agg (cnCells {T1 with pa:=some ⟨g4,0,none⟩,pc:=cp4}),.int .i64 (M:Int)],.agg (cnCells {T1 with pa:=some ⟨g4,0,none⟩,pc:=cp4}),.int .i64 (M:Int),U,U,U,U,U,U,U,U,U,U,U,U,U,U,U,U,U,U,U,U,U,U,U,U,U,U,U,U,U,U,U,U] ?_
  generalize (.tuple #[.agg (cnCells {T1 with pa:=some ⟨g4,0,none⟩,pc:=cp4}),.int .i64 (M:Int)]:Value)=qz67
  generalize (.agg (cnCells {T with pa:=some ⟨g2,0,none⟩,pc:=cp2}):Value)=qz68
  generalize (.agg (cnCells {T1 with pa:=some ⟨g4,0,none⟩,pc:=cp4}):Value)=qz69
  go_upto_region 8 with (fail)
  refine vR ?_
  refine vV (.pointer (some ⟨w.heap.size,1,none⟩)) ?_
  refine vD (.string D1) (qB58.cell 1) ?_
  refine vV (.int .i64 (M:Int)) ?_
  refine vCut D1 M (by omega) (by omega) ?_
  rw [← hD2.out]
  refine vV (.pointer (some ⟨w.heap.size,1,none⟩)) ?_
  refine sC #[.int .i64 r,.string D2,.bool e,.int .i64 n] qB58 1 (.string D2) rfl ?_
  intro qw70 qt71 qB72
  clear qB58
  replace qB26:=qB26.touch qt71 (by omega)
  replace qB33:=qB33.touch qt71 (by omega)
  replace qB11:=qB11.touch qt71 (by omega)
  replace qB14:=qB14.touch qt71 (by omega)
  replace qB17:=qB17.touch qt71 (by omega)
  replace qB52:=qB52.touch qt71 (by omega)
  replace qB66:=qB66.touch qt71 (by omega)
  replace H3:=H3.touch qt71 (by omega)
  replace H4:=H4.touch qt71 (by omega)
  replace G:=since_touch G qt71 (by omega)
  have qt71_s:=qt71.size
  refine vE #[qz19,qz20,qz21,pX w.heap.size 0,pX qw1.heap.size 0,pX qw4.heap.size 0,pX qw7.heap.size 0,pX qw10.heap.size 0,pX qw13.heap.size 0,pX qw45.heap.size 0,.string S1,pX qw59.heap.size 0,.int .i64 (M:Int),qz27,qz28,qz34,qz35,qz42,.bool true,.bool false,.bool false,qz43,.bool true,.bool false,.bool false,.bool false,qz44,.bool true,.bool false,.bool false,U,U,U,qz53,qz54,pX w.heap.size 0,.int .i64 r,pX w.heap.size 1,.string d,.int .i64 (d.size:Int),.int .i64 (r - (d.size:Int)),qz53,qz55,.string S1,pX w.heap.size 1,.string d,.string S1,.string D1,pX w.heap.size 1,qz67,qz68,pX w.heap.size 1,.string D1,qz67,qz69,.int .i64 (M:Int),pX w.heap.size 1,.string D1,.int .i64 (M:Int),.string D2,pX w.heap.size 1,U,U,U,U,U,U,U,U,U,U,U,U,U,U,U,U,U,U,U,U,U,U,U,U,U,U,U] ?_
  go_upto_region 9 with (fail)
  refine vR ?_
  refine vV (.pointer (some ⟨w.heap.size,3,none⟩)) ?_
  refine vD (.int .i64 n) (qB72.cell 3) ?_
  refine vV (.int .i64 (M:Int)) ?_
  refine vV (.int .i64 (n+(M:Int))) ?_ (hrun:=by rw [← ewn];kernel_rfl)
  refine vC (hcl _) ?_
  rintro _ _ ⟨rfl,rfl⟩
  refine ⟨_,rfl,?_⟩
  refine vV (.pointer (some ⟨w.heap.size,3,none⟩)) ?_
  refine sC #[.int .i64 r,.string D2,.bool e,.int .i64 xN] qB72 3 (.int .i64 xN) rfl ?_
  intro qw73 qt74 qB75
  clear qB72
  replace qB26:=qB26.touch qt74 (by omega)
  replace qB33:=qB33.touch qt74 (by omega)
  replace qB11:=qB11.touch qt74 (by omega)
  replace qB14:=qB14.touch qt74 (by omega)
  replace qB17:=qB17.touch qt74 (by omega)
  replace qB52:=qB52.touch qt74 (by omega)
  replace qB66:=qB66.touch qt74 (by omega)
  replace H3:=H3.touch qt74 (by omega)
  replace H4:=H4.touch qt74 (by omega)
  replace G:=since_touch G qt74 (by omega)
  have qt74_s:=qt74.size
  refine vE #[qz19,qz20,qz21,pX w.heap.size 0,pX qw1.heap.size 0,pX qw4.heap.size 0,pX qw7.heap.size 0,pX qw10.heap.size 0,pX qw13.heap.size 0,pX qw45.heap.size 0,.string S1,pX qw59.heap.size 0,.int .i64 (M:Int),qz27,qz28,qz34,qz35,qz42,.bool true,.bool false,.bool false,qz43,.bool true,.bool false,.bool false,.bool false,qz44,.bool true,.bool false,.bool false,U,U,U,qz53,qz54,pX w.heap.size 0,.int .i64 r,pX w.heap.size 1,.string d,.int .i64 (d.size:Int),.int .i64 (r - (d.size:Int)),qz53,qz55,.string S1,pX w.heap.size 1,.string d,.string S1,.string D1,pX w.heap.size 1,qz67,qz68,pX w.heap.size 1,.string D1,qz67,qz69,.int .i64 (M:Int),pX w.heap.size 1,.string D1,.int .i64 (M:Int),.string D2,pX w.heap.size 1,pX w.heap.size 3,.int .i64 n,.int .i64 (M:Int),.int .i64 (n+(M:Int)),.int .i64 xN,pX w.heap.size 3,U,U,U,U,U,U,U,U,U,U,U,U,U,U,U,U,U,U,U,U,U] ?_
  go_upto_region 10 with (fail)
  cases hnow:(F1.gfn && c1)
  case false=>
   replace hnow:Hid _:=hnow
   have eE:Hid (xE=e):=(by rw [hxE.out];unfold mvE;rw [hmk.out];show endE r d e F ps=_;unfold endE;rw [← hF1.out,← hc1.out,hnow.out];rfl:xE=e)
   refine vR ?_
   refine vAny (T:=Value×Value×Value×Value×Value×Value×Value×Value) (fun t=>#[qz19,qz20,qz21,.pointer (some ⟨w.heap.size,0,none⟩),.pointer (some ⟨qw1.heap.size,0,none⟩),.pointer (some ⟨qw4.heap.size,0,none⟩),.pointer (some ⟨qw7.heap.size,0,none⟩),.pointer (some ⟨qw10.heap.size,0,none⟩),.pointer (some ⟨qw13.heap.size,0,none⟩),.pointer (some ⟨qw45.heap.size,0,none⟩),.string S1,.pointer (some ⟨qw59.heap.size,0,none⟩),.int .i64 (M:Int),qz27,qz28,qz34,qz35,qz42,.bool true,.bool false,.bool false,qz43,.bool true,.bool false,.bool false,.bool false,qz44,.bool true,.bool false,.bool false,undef,undef,undef,qz53,qz54,.pointer (some ⟨w.heap.size,0,none⟩),.int .i64 r,.pointer (some ⟨w.heap.size,1,none⟩),.string d,.int .i64 (d.size:Int),.int .i64 (r - (d.size:Int)),qz53,qz55,.string S1,.pointer (some ⟨w.heap.size,1,none⟩),.string d,.string S1,.string D1,.pointer (some ⟨w.heap.size,1,none⟩),qz67,qz68,.pointer (some ⟨w.heap.size,1,none⟩),.string D1,qz67,qz69,.int .i64 (M:Int),.pointer (some ⟨w.heap.size,1,none⟩),.string D1,.int .i64 (M:Int),.string D2,.pointer (some ⟨w.heap.size,1,none⟩),.pointer (some ⟨w.heap.size,3,none⟩),.int .i64 n,.int .i64 (M:Int),.int .i64 (n+(M:Int)),.int .i64 xN,.pointer (some ⟨w.heap.size,3,none⟩),t.1,t.2.1,t.2.2.1,t.2.2.2.1,t.2.2.2.2.1,t.2.2.2.2.2.1,t.2.2.2.2.2.2.1,.bool false,undef,undef,undef,undef,undef,undef,undef,undef,undef,undef,undef,undef,undef]) ?_ ?_
   rotate_left
   ·rcases Bool.eq_false_or_eq_true F1.gfn with hgf|hgf
    all_goals replace hgf:Hid _:=hgf
    case inl=>
     have hce:Hid (c1=false):=(by have:=hnow.out;rw [hgf.out] at this;simpa using this:c1=false)
     refine ⟨(.pointer (some ⟨qw45.heap.size,18,none⟩),.bool true,.bool true,.pointer (some ⟨qw45.heap.size,11,none⟩),.pointer (some ⟨qw45.heap.size,12,none⟩),.string F1.iD,.bool false,undef),fun hgo=>?_⟩
     refine vV (.pointer (some ⟨qw45.heap.size,18,none⟩)) ?_
     refine vD (.bool true) ((qB52.cell 18).trans (by show some (.bool F1.gfn:Value)=some (.bool true:Value);rw [hgf.out])) ?_
     refine vV (.bool true) ?_
     refine vV (.pointer (some ⟨qw45.heap.size,11,none⟩)) ?_
     refine vV (.pointer (some ⟨qw45.heap.size,12,none⟩)) ?_
     refine vD (.string F1.iD) (qB52.cell 12) ?_
     refine vEmp (F1.iD) false ((hc1.out.symm.trans hce.out)) ?_
     refine vV (.bool false) ?_
     refine vF #[qz19,qz20,qz21,.pointer (some ⟨w.heap.size,0,none⟩),.pointer (some ⟨qw1.heap.size,0,none⟩),.pointer (some ⟨qw4.heap.size,0,none⟩),.pointer (some ⟨qw7.heap.size,0,none⟩),.pointer (some ⟨qw10.heap.size,0,none⟩),.pointer (some ⟨qw13.heap.size,0,none⟩),.pointer (some ⟨qw45.heap.size,0,none⟩),.string S1,.pointer (some ⟨qw59.heap.size,0,none⟩),.int .i64 (M:Int),qz27,qz28,qz34,qz35,qz42,.bool true,.bool false,.bool false,qz43,.bool true,.bool false,.bool false,.bool false,qz44,.bool true,.bool false,.bool false,U,U,U,qz53,qz54,.pointer (some ⟨w.heap.size,0,none⟩),.int .i64 r,.pointer (some ⟨w.heap.size,1,none⟩),.string d,.int .i64 (d.size:Int),.int .i64 (r - (d.size:Int)),qz53,qz55,.string S1,.pointer (some ⟨w.heap.size,1,none⟩),.string d,.string S1,.string D1,.pointer (some ⟨w.heap.size,1,none⟩),qz67,qz68,.pointer (some ⟨w.heap.size,1,none⟩),.string D1,qz67,qz69,.int .i64 (M:Int),.pointer (some ⟨w.heap.size,1,none⟩),.string D1,.int .i64 (M:Int),.string D2,.pointer (some ⟨w.heap.size,1,none⟩),.pointer (some ⟨w.heap.size,3,none⟩),.int .i64 n,.int .i64 (M:Int),.int .i64 (n+(M:Int)),.int .i64 xN,.pointer (some ⟨w.heap.size,3,none⟩),.pointer (some ⟨qw45.heap.size,18,none⟩),.bool true,.bool true,.pointer (some ⟨qw45.heap.size,11,none⟩),.pointer (some ⟨qw45.heap.size,12,none⟩),.string F1.iD,.bool false,.bool false,U,U,U,U,U,U,U,U,U,U,U,U,U] ?_
     exact hgo
    case inr=>
     refine ⟨(.pointer (some ⟨qw45.heap.size,18,none⟩),.bool false,.bool false,undef,undef,undef,undef,undef),fun hgo=>?_⟩
     refine vV (.pointer (some ⟨qw45.heap.size,18,none⟩)) ?_
     refine vD (.bool false) ((qB52.cell 18).trans (by show some (.bool F1.gfn:Value)=some (.bool false:Value);rw [hgf.out])) ?_
     refine vV (.bool false) ?_
     refine vS ?_
     refine vS ?_
     refine vS ?_
     refine vS ?_
     refine vV (.bool false) ?_
     refine vF #[qz19,qz20,qz21,.pointer (some ⟨w.heap.size,0,none⟩),.pointer (some ⟨qw1.heap.size,0,none⟩),.pointer (some ⟨qw4.heap.size,0,none⟩),.pointer (some ⟨qw7.heap.size,0,none⟩),.pointer (some ⟨qw10.heap.size,0,none⟩),.pointer (some ⟨qw13.heap.size,0,none⟩),.pointer (some ⟨qw45.heap.size,0,none⟩),.string S1,.pointer (some ⟨qw59.heap.size,0,none⟩),.int .i64 (M:Int),qz27,qz28,qz34,qz35,qz42,.bool true,.bool false,.bool false,qz43,.bool true,.bool false,.bool false,.bool false,qz44,.bool true,.bool false,.bool false,U,U,U,qz53,qz54,.pointer (some ⟨w.heap.size,0,none⟩),.int .i64 r,.pointer (some ⟨w.heap.size,1,none⟩),.string d,.int .i64 (d.size:Int),.int .i64 (r - (d.size:Int)),qz53,qz55,.string S1,.pointer (some ⟨w.heap.size,1,none⟩),.string d,.string S1,.string D1,.pointer (some ⟨w.heap.size,1,none⟩),qz67,qz68,.pointer (some ⟨w.heap.size,1,none⟩),.string D1,qz67,qz69,.int .i64 (M:Int),.pointer (some ⟨w.heap.size,1,none⟩),.string D1,.int .i64 (M:Int),.string D2,.pointer (some ⟨w.heap.size,1,none⟩),.pointer (some ⟨w.heap.size,3,none⟩),.int .i64 n,.int .i64 (M:Int),.int .i64 (n+(M:Int)),.int .i64 xN,.pointer (some ⟨w.heap.size,3,none⟩),.pointer (some ⟨qw45.heap.size,18,none⟩),.bool false,.bool false,U,U,U,U,.bool false,U,U,U,U,U,U,U,U,U,U,U,U,U] ?_
     exact hgo
   intro t
   obtain ⟨z67,t⟩:=t
   obtain ⟨z68,t⟩:=t
   obtain ⟨z69,t⟩:=t
   obtain ⟨z70,t⟩:=t
   obtain ⟨z71,t⟩:=t
   obtain ⟨z72,t⟩:=t
   obtain ⟨z73,t⟩:=t
   refine vE #[qz19,qz20,qz21,pX w.heap.size 0,pX qw1.heap.size 0,pX qw4.heap.size 0,pX qw7.heap.size 0,pX qw10.heap.size 0,pX qw13.heap.size 0,pX qw45.heap.size 0,.string S1,pX qw59.heap.size 0,.int .i64 (M:Int),qz27,qz28,qz34,qz35,qz42,.bool true,.bool false,.bool false,qz43,.bool true,.bool false,.bool false,.bool false,qz44,.bool true,.bool false,.bool false,U,U,U,qz53,qz54,pX w.heap.size 0,.int .i64 r,pX w.heap.size 1,.string d,.int .i64 (d.size:Int),.int .i64 (r - (d.size:Int)),qz53,qz55,.string S1,pX w.heap.size 1,.string d,.string S1,.string D1,pX w.heap.size 1,qz67,qz68,pX w.heap.size 1,.string D1,qz67,qz69,.int .i64 (M:Int),pX w.heap.size 1,.string D1,.int .i64 (M:Int),.string D2,pX w.heap.size 1,pX w.heap.size 3,.int .i64 n,.int .i64 (M:Int),.int .i64 (n+(M:Int)),.int .i64 xN,pX w.heap.size 3,z67,z68,z69,z70,z71,z72,z73,.bool false,U,U,U,U,U,U,U,U,U,U,U,U,U] ?_
   go_upto_region 12 with (fail)
   cases hcl:(e && c2)
   case false=>
    replace hcl:Hid _:=hcl
    have eT:Hid (xT=T1):=(by rw [hxT.out];unfold mvT;rw [hmk.out];show shutT (endE r d e F ps) (leftD r d F ps T qs) (writeC T qs (gotD r d F ps)) qs=_;have e1:endE r d e F ps=e:=(by have h1:xE=endE r d e F ps:=(by rw [hxE.out];unfold mvE;rw [hmk.out];rfl);exact h1.symm.trans eE.out);rw [e1,eL.out,← hD1e.out,← hT1.out];unfold shutT;rw [← hc2.out,hcl.out];rfl:xT=T1)
    refine vR ?_
    refine vAny (T:=Value×Value×Value×Value×Value×Value×Value) (fun t=>#[qz19,qz20,qz21,.pointer (some ⟨w.heap.size,0,none⟩),.pointer (some ⟨qw1.heap.size,0,none⟩),.pointer (some ⟨qw4.heap.size,0,none⟩),.pointer (some ⟨qw7.heap.size,0,none⟩),.pointer (some ⟨qw10.heap.size,0,none⟩),.pointer (some ⟨qw13.heap.size,0,none⟩),.pointer (some ⟨qw45.heap.size,0,none⟩),.string S1,.pointer (some ⟨qw59.heap.size,0,none⟩),.int .i64 (M:Int),qz27,qz28,qz34,qz35,qz42,.bool true,.bool false,.bool false,qz43,.bool true,.bool false,.bool false,.bool false,qz44,.bool true,.bool false,.bool false,undef,undef,undef,qz53,qz54,.pointer (some ⟨w.heap.size,0,none⟩),.int .i64 r,.pointer (some ⟨w.heap.size,1,none⟩),.string d,.int .i64 (d.size:Int),.int .i64 (r - (d.size:Int)),qz53,qz55,.string S1,.pointer (some ⟨w.heap.size,1,none⟩),.string d,.string S1,.string D1,.pointer (some ⟨w.heap.size,1,none⟩),qz67,qz68,.pointer (some ⟨w.heap.size,1,none⟩),.string D1,qz67,qz69,.int .i64 (M:Int),.pointer (some ⟨w.heap.size,1,none⟩),.string D1,.int .i64 (M:Int),.string D2,.pointer (some ⟨w.heap.size,1,none⟩),.pointer (some ⟨w.heap.size,3,none⟩),.int .i64 n,.int .i64 (M:Int),.int .i64 (n+(M:Int)),.int .i64 xN,.pointer (some ⟨w.heap.size,3,none⟩),z67,z68,z69,z70,z71,z72,z73,.bool false,undef,t.1,t.2.1,t.2.2.1,t.2.2.2.1,t.2.2.2.2.1,t.2.2.2.2.2.1,.bool false,undef,undef,undef,undef,undef]) ?_ ?_
    rotate_left
    ·rcases Bool.eq_false_or_eq_true e with hee|hee
     all_goals replace hee:Hid _:=hee
     case inl=>
      have hce:Hid (c2=false):=(by have:=hcl.out;rw [hee.out] at this;simpa using this:c2=false)
      refine ⟨(.pointer (some ⟨w.heap.size,2,none⟩),.bool true,.bool true,.pointer (some ⟨w.heap.size,1,none⟩),.string D2,.bool false,undef),fun hgo=>?_⟩
      refine vV (.pointer (some ⟨w.heap.size,2,none⟩)) ?_
      refine vD (.bool true) ((qB75.cell 2).trans (by show some (.bool e:Value)=some (.bool true:Value);rw [hee.out])) ?_
      refine vV (.bool true) ?_
      refine vV (.pointer (some ⟨w.heap.size,1,none⟩)) ?_
      refine vD (.string D2) (qB75.cell 1) ?_
      refine vEmp (D2) false ((hc2.out.symm.trans hce.out)) ?_
      refine vV (.bool false) ?_
      refine vF #[qz19,qz20,qz21,.pointer (some ⟨w.heap.size,0,none⟩),.pointer (some ⟨qw1.heap.size,0,none⟩),.pointer (some ⟨qw4.heap.size,0,none⟩),.pointer (some ⟨qw7.heap.size,0,none⟩),.pointer (some ⟨qw10.heap.size,0,none⟩),.pointer (some ⟨qw13.heap.size,0,none⟩),.pointer (some ⟨qw45.heap.size,0,none⟩),.string S1,.pointer (some ⟨qw59.heap.size,0,none⟩),.int .i64 (M:Int),qz27,qz28,qz34,qz35,qz42,.bool true,.bool false,.bool false,qz43,.bool true,.bool false,.bool false,.bool false,qz44,.bool true,.bool false,.bool false,U,U,U,qz53,qz54,.pointer (some ⟨w.heap.size,0,none⟩),.int .i64 r,.pointer (some ⟨w.heap.size,1,none⟩),.string d,.int .i64 (d.size:Int),.int .i64 (r - (d.size:Int)),qz53,qz55,.string S1,.pointer (some ⟨w.heap.size,1,none⟩),.string d,.string S1,.string D1,.pointer (some ⟨w.heap.size,1,none⟩),qz67,qz68,.pointer (some ⟨w.heap.size,1,none⟩),.string D1,qz67,qz69,.int .i64 (M:Int),.pointer (some ⟨w.heap.size,1,none⟩),.string D1,.int .i64 (M:Int),.string D2,.pointer (some ⟨w.heap.size,1,none⟩),.pointer (some ⟨w.heap.size,3,none⟩),.int .i64 n,.int .i64 (M:Int),.int .i64 (n+(M:Int)),.int .i64 xN,.pointer (some ⟨w.heap.size,3,none⟩),z67,z68,z69,z70,z71,z72,z73,.bool false,U,.pointer (some ⟨w.heap.size,2,none⟩),.bool true,.bool true,.pointer (some ⟨w.heap.size,1,none⟩),.string D2,.bool false,.bool false,U,U,U,U,U] ?_
      exact hgo
     case inr=>
      refine ⟨(.pointer (some ⟨w.heap.size,2,none⟩),.bool false,.bool false,undef,undef,undef,undef),fun hgo=>?_⟩
      refine vV (.pointer (some ⟨w.heap.size,2,none⟩)) ?_
      refine vD (.bool false) ((qB75.cell 2).trans (by show some (.bool e:Value)=some (.bool false:Value);rw [hee.out])) ?_
      refine vV (.bool false) ?_
      refine vS ?_
      refine vS ?_
      refine vS ?_
      refine vV (.bool false) ?_
      refine vF #[qz19,qz20,qz21,.pointer (some ⟨w.heap.size,0,none⟩),.pointer (some ⟨qw1.heap.size,0,none⟩),.pointer (some ⟨qw4.heap.size,0,none⟩),.pointer (some ⟨qw7.heap.size,0,none⟩),.pointer (some ⟨qw10.heap.size,0,none⟩),.pointer (some ⟨qw13.heap.size,0,none⟩),.pointer (some ⟨qw45.heap.size,0,none⟩),.string S1,.pointer (some ⟨qw59.heap.size,0,none⟩),.int .i64 (M:Int),qz27,qz28,qz34,qz35,qz42,.bool true,.bool false,.bool false,qz43,.bool true,.bool false,.bool false,.bool false,qz44,.bool true,.bool false,.bool false,U,U,U,qz53,qz54,.pointer (some ⟨w.heap.size,0,none⟩),.int .i64 r,.pointer (some ⟨w.heap.size,1,none⟩),.string d,.int .i64 (d.size:Int),.int .i64 (r - (d.size:Int)),qz53,qz55,.string S1,.pointer (some ⟨w.heap.size,1,none⟩),.string d,.string S1,.string D1,.pointer (some ⟨w.heap.size,1,none⟩),qz67,qz68,.pointer (some ⟨w.heap.size,1,none⟩),.string D1,qz67,qz69,.int .i64 (M:Int),.pointer (some ⟨w.heap.size,1,none⟩),.string D1,.int .i64 (M:Int),.string D2,.pointer (some ⟨w.heap.size,1,none⟩),.pointer (some ⟨w.heap.size,3,none⟩),.int .i64 n,.int .i64 (M:Int),.int .i64 (n+(M:Int)),.int .i64 xN,.pointer (some ⟨w.heap.size,3,none⟩),z67,z68,z69,z70,z71,z72,z73,.bool false,U,.pointer (some ⟨w.heap.size,2,none⟩),.bool false,.bool false,U,U,U,.bool false,U,U,U,U,U] ?_
      exact hgo
    intro t
    obtain ⟨z76,t⟩:=t
    obtain ⟨z77,t⟩:=t
    obtain ⟨z78,t⟩:=t
    obtain ⟨z79,t⟩:=t
    obtain ⟨z80,t⟩:=t
    obtain ⟨z81,t⟩:=t
    refine vE #[qz19,qz20,qz21,pX w.heap.size 0,pX qw1.heap.size 0,pX qw4.heap.size 0,pX qw7.heap.size 0,pX qw10.heap.size 0,pX qw13.heap.size 0,pX qw45.heap.size 0,.string S1,pX qw59.heap.size 0,.int .i64 (M:Int),qz27,qz28,qz34,qz35,qz42,.bool true,.bool false,.bool false,qz43,.bool true,.bool false,.bool false,.bool false,qz44,.bool true,.bool false,.bool false,U,U,U,qz53,qz54,pX w.heap.size 0,.int .i64 r,pX w.heap.size 1,.string d,.int .i64 (d.size:Int),.int .i64 (r - (d.size:Int)),qz53,qz55,.string S1,pX w.heap.size 1,.string d,.string S1,.string D1,pX w.heap.size 1,qz67,qz68,pX w.heap.size 1,.string D1,qz67,qz69,.int .i64 (M:Int),pX w.heap.size 1,.string D1,.int .i64 (M:Int),.string D2,pX w.heap.size 1,pX w.heap.size 3,.int .i64 n,.int .i64 (M:Int),.int .i64 (n+(M:Int)),.int .i64 xN,pX w.heap.size 3,z67,z68,z69,z70,z71,z72,z73,.bool false,U,z76,z77,z78,z79,z80,z81,.bool false,U,U,U,U,U] ?_
    go_upto_region 14 with (fail)
    have hN0:0<qw73.heap.size:=by have:=qB75.lt;omega
    refine wp_region_low (Low (fun b=>b<qw73.heap.size)) (fun i x v=>match i with
      | 0=>v=.agg #[.int .i64 r,.string D2,.bool e,.int .i64 xN]
      | 1=>v=.agg (cnCells {F1 with pa:=some ⟨g3,0,none⟩,pc:=cp3})
      | 2=>v=.agg (cnCells {T1 with pa:=some ⟨g4,0,none⟩,pc:=cp4})
      | 3=>True
      | 4=>True
      | 5=>True
      | _=>True) (fun f vals x=>Blk w.heap.size x #[.int .i64 r,.string D2,.bool e,.int .i64 xN]∧Blk qw1.heap.size x (cnCells {F with pa:=some ⟨g,0,none⟩,pc:=cp})∧Blk qw4.heap.size x (cnCells {T with pa:=some ⟨g2,0,none⟩,pc:=cp2})∧Blk qw7.heap.size x (if f 3 then #[.int .i64 r,.string D2,.bool e,.int .i64 xN] else #[.int .i64 0,.string ByteArray.empty,.bool false,.int .i64 0])∧Blk qw10.heap.size x (if f 4 then (cnCells {F1 with pa:=some ⟨g3,0,none⟩,pc:=cp3}) else (cnCells cnZero))∧Blk qw13.heap.size x (if f 5 then (cnCells {T1 with pa:=some ⟨g4,0,none⟩,pc:=cp4}) else (cnCells cnZero))∧Blk qw45.heap.size x (cnCells {F1 with pa:=some ⟨g3,0,none⟩,pc:=cp3})∧Blk qw59.heap.size x (cnCells {T1 with pa:=some ⟨g4,0,none⟩,pc:=cp4})∧Held shP x w.heap.size g3 F.pn cp3 ps∧Held shP x w.heap.size g4 T.pn cp4 qs∧qw73.heap.size≤x.heap.size∧Since w x) (fun v=>{tmps:=#[qz19,qz20,qz21,.pointer (some ⟨w.heap.size,0,none⟩),.pointer (some ⟨qw1.heap.size,0,none⟩),.pointer (some ⟨qw4.heap.size,0,none⟩),.pointer (some ⟨qw7.heap.size,0,none⟩),.pointer (some ⟨qw10.heap.size,0,none⟩),.pointer (some ⟨qw13.heap.size,0,none⟩),.pointer (some ⟨qw45.heap.size,0,none⟩),.string S1,.pointer (some ⟨qw59.heap.size,0,none⟩),.int .i64 (M:Int),qz27,qz28,qz34,qz35,qz42,.bool true,.bool false,.bool false,qz43,.bool true,.bool false,.bool false,.bool false,qz44,.bool true,.bool false,.bool false,undef,undef,undef,qz53,qz54,.pointer (some ⟨w.heap.size,0,none⟩),.int .i64 r,.pointer (some ⟨w.heap.size,1,none⟩),.string d,.int .i64 (d.size:Int),.int .i64 (r - (d.size:Int)),qz53,qz55,.string S1,.pointer (some ⟨w.heap.size,1,none⟩),.string d,.string S1,.string D1,.pointer (some ⟨w.heap.size,1,none⟩),qz67,qz68,.pointer (some ⟨w.heap.size,1,none⟩),.string D1,qz67,qz69,.int .i64 (M:Int),.pointer (some ⟨w.heap.size,1,none⟩),.string D1,.int .i64 (M:Int),.string D2,.pointer (some ⟨w.heap.size,1,none⟩),.pointer (some ⟨w.heap.size,3,none⟩),.int .i64 n,.int .i64 (M:Int),.int .i64 (n+(M:Int)),.int .i64 xN,.pointer (some ⟨w.heap.size,3,none⟩),z67,z68,z69,z70,z71,z72,z73,.bool false,undef,z76,z77,z78,z79,z80,z81,.bool false,undef,undef,v 0,v 1,v 2],defers:=[]}) (by kernel_rfl) (by kernel_rfl) ?_ ?_ (fun vals=>by kernel_rfl) ?_ ?_
    case refine_1=>
     intro j x y v hl hv
     match j,hv with
     | 0,hv|1,hv|2,hv=>exact hv
     | 3,hv|4,hv|5,hv=>trivial
     | n+6,_=>trivial
    case refine_2=>
     intro f vals hf
     refine ⟨qB75.since ((Since.refl _).drew),qB26.since ((Since.refl _).drew),qB33.since ((Since.refl _).drew),(by rw [hf 3];exact qB11.since ((Since.refl _).drew)),(by rw [hf 4];exact qB14.since ((Since.refl _).drew)),(by rw [hf 5];exact qB17.since ((Since.refl _).drew)),qB52.since ((Since.refl _).drew),qB66.since ((Since.refl _).drew),H3.since ((Since.refl _).drew),H4.since ((Since.refl _).drew),((Since.refl _).drew).size,G.trans ((Since.refl _).drew)⟩
    case refine_3=>
     repeat (first|exact eachLow_nil|refine eachLow_cons ?_ ?_)
     all_goals intro f vals x hf hr hK
     all_goals obtain ⟨k0,k1,k2,k3,k4,k5,k6,k7,k8,k9,k10,k11⟩:=hK
     ·have ev:vals 2=.agg (cnCells {T1 with pa:=some ⟨g4,0,none⟩,pc:=cp4}):=(hr ⟨2,.data⟩ (by simp) rfl).2
      have kz:Blk qw13.heap.size x (cnCells cnZero):=by have:=k5;rw [hf] at this;exact this
      refine does_store cn_big (cn_size _) (Raw.of kz (cn_size _)) (cn_one _) _ _ rfl rfl ev ?_
      intro z t B
      exact ⟨Low.touch t (show qw13.heap.size<qw73.heap.size by omega),⟨k0.touch t (by omega),k1.touch t (by omega),k2.touch t (by omega),k3.touch t (by omega),k4.touch t (by omega),B,k6.touch t (by omega),k7.touch t (by omega),k8.touch t (by omega),k9.touch t (by omega),Nat.le_trans k10 t.size,since_touch k11 t (by omega)⟩,trivial⟩
     ·have ev:vals 1=.agg (cnCells {F1 with pa:=some ⟨g3,0,none⟩,pc:=cp3}):=(hr ⟨1,.data⟩ (by simp) rfl).2
      have kz:Blk qw10.heap.size x (cnCells cnZero):=by have:=k4;rw [hf] at this;exact this
      refine does_store cn_big (cn_size _) (Raw.of kz (cn_size _)) (cn_one _) _ _ rfl rfl ev ?_
      intro z t B
      exact ⟨Low.touch t (show qw10.heap.size<qw73.heap.size by omega),⟨k0.touch t (by omega),k1.touch t (by omega),k2.touch t (by omega),k3.touch t (by omega),B,k5.touch t (by omega),k6.touch t (by omega),k7.touch t (by omega),k8.touch t (by omega),k9.touch t (by omega),Nat.le_trans k10 t.size,since_touch k11 t (by omega)⟩,trivial⟩
     ·have ev:vals 0=.agg #[.int .i64 r,.string D2,.bool e,.int .i64 xN]:=(hr ⟨0,.data⟩ (by simp) rfl).2
      have kz:Blk qw7.heap.size x #[.int .i64 0,.string ByteArray.empty,.bool false,.int .i64 0]:=by have:=k3;rw [hf] at this;exact this
      refine does_store pp_big rfl (Raw.of kz rfl) (by simp [Value.oneCell']) _ _ rfl rfl ev ?_
      intro z t B
      exact ⟨Low.touch t (show qw7.heap.size<qw73.heap.size by omega),⟨k0.touch t (by omega),k1.touch t (by omega),k2.touch t (by omega),B,k4.touch t (by omega),k5.touch t (by omega),k6.touch t (by omega),k7.touch t (by omega),k8.touch t (by omega),k9.touch t (by omega),Nat.le_trans k10 t.size,since_touch k11 t (by omega)⟩,trivial⟩
     ·exact does_load cn_big (cn_size _) k7 _ rfl rfl ⟨Low.since (b:=0) (Since.refl _) (hN0),⟨k0,k1,k2,k3,k4,k5,k6,k7,k8,k9,k10,k11⟩,rfl⟩
     ·exact does_load cn_big (cn_size _) k6 _ rfl rfl ⟨Low.since (b:=0) (Since.refl _) (hN0),⟨k0,k1,k2,k3,k4,k5,k6,k7,k8,k9,k10,k11⟩,rfl⟩
     ·exact does_load pp_big rfl k0 _ rfl rfl ⟨Low.since (b:=0) (Since.refl _) (hN0),⟨k0,k1,k2,k3,k4,k5,k6,k7,k8,k9,k10,k11⟩,rfl⟩
    intro f qv77 qw76 hK hf hv
    obtain ⟨k0,k1,k2,k3,k4,k5,k6,k7,k8,k9,k10,k11⟩:=hK
    clear qB75 qB26 qB33 qB11 qB14 qB17 qB52 qB66 H3 H4 G
    have hv0:qv77 0=_:=hv 0 (by decide)
    have hv1:qv77 1=_:=hv 1 (by decide)
    have hv2:qv77 2=_:=hv 2 (by decide)
    clear hv
    simp only [hv0,hv1,hv2]
    clear hv0 hv1 hv2
    have qB75:=k0
    clear k0
    have qB26:=k1
    clear k1
    have qB33:=k2
    clear k2
    have qB11:Blk qw7.heap.size qw76 #[.int .i64 r,.string D2,.bool e,.int .i64 xN]:=by have:=k3;rw [hf 3 (by decide)] at this;exact this
    clear k3
    have qB14:Blk qw10.heap.size qw76 (cnCells {F1 with pa:=some ⟨g3,0,none⟩,pc:=cp3}):=by have:=k4;rw [hf 4 (by decide)] at this;exact this
    clear k4
    have qB17:Blk qw13.heap.size qw76 (cnCells {T1 with pa:=some ⟨g4,0,none⟩,pc:=cp4}):=by have:=k5;rw [hf 5 (by decide)] at this;exact this
    clear k5
    have qB52:=k6
    clear k6
    have qB66:=k7
    clear k7
    have H3:=k8
    clear k8
    have H4:=k9
    clear k9
    have G:=k11
    clear k11
    have qw76_l:=qB66.lt
    have qw76_n:=k10
    clear k10
    go_wp2_with (fail)
    exact bodyPost_ret (results_3 (hs:=rfl) (t:=6) (u:=7) (v:=8) rfl _ rfl rfl rfl qB11 qB14 qB17) rfl ⟨_,_,_,_,by rw [eX.out,eE.out,eF.out,eT.out],H3,H4,by omega,G⟩
   case true=>
    have hee:Hid (e=true):=(by revert hcl;cases e<;>simp:e=true)
    have hce:Hid (c2=true):=(by revert hcl;cases e<;>simp:c2=true)
    replace hcl:Hid _:=hcl
    have eT:Hid (xT=T2):=(by rw [hxT.out];unfold mvT;rw [hmk.out];show shutT (endE r d e F ps) (leftD r d F ps T qs) (writeC T qs (gotD r d F ps)) qs=_;have e1:endE r d e F ps=e:=(by have h1:xE=endE r d e F ps:=(by rw [hxE.out];unfold mvE;rw [hmk.out];rfl);exact h1.symm.trans eE.out);rw [e1,eL.out,← hD1e.out,← hT1.out];unfold shutT;rw [← hc2.out,hee.out,hce.out];exact hT2.out.symm:xT=T2)
    refine vR ?_
    refine vV (.pointer (some ⟨w.heap.size,2,none⟩)) ?_
    refine vD (.bool true) ((qB75.cell 2).trans (by show some (.bool e:Value)=some (.bool true:Value);rw [hee.out])) ?_
    refine vV (.bool true) ?_
    refine vV (.pointer (some ⟨w.heap.size,1,none⟩)) ?_
    refine vD (.string D2) (qB75.cell 1) ?_
    refine vEmp (D2) true ((hc2.out.symm.trans hce.out)) ?_
    refine vV (.bool true) ?_
    refine vE #[qz19,qz20,qz21,pX w.heap.size 0,pX qw1.heap.size 0,pX qw4.heap.size 0,pX qw7.heap.size 0,pX qw10.heap.size 0,pX qw13.heap.size 0,pX qw45.heap.size 0,.string S1,pX qw59.heap.size 0,.int .i64 (M:Int),qz27,qz28,qz34,qz35,qz42,.bool true,.bool false,.bool false,qz43,.bool true,.bool false,.bool false,.bool false,qz44,.bool true,.bool false,.bool false,U,U,U,qz53,qz54,pX w.heap.size 0,.int .i64 r,pX w.heap.size 1,.string d,.int .i64 (d.size:Int),.int .i64 (r - (d.size:Int)),qz53,qz55,.string S1,pX w.heap.size 1,.string d,.string S1,.string D1,pX w.heap.size 1,qz67,qz68,pX w.heap.size 1,.string D1,qz67,qz69,.int .i64 (M:Int),pX w.heap.size 1,.string D1,.int .i64 (M:Int),.string D2,pX w.heap.size 1,pX w.heap.size 3,.int .i64 n,.int .i64 (M:Int),.int .i64 (n+(M:Int)),.int .i64 xN,pX w.heap.size 3,z67,z68,z69,z70,z71,z72,z73,.bool false,U,pX w.heap.size 2,.bool true,.bool true,pX w.heap.size 1,.string D2,.bool true,.bool true,U,U,U,U,U] ?_
    go_upto_region 13 with (fail)
    refine vR ?_
    refine vB cn_big qB66 (cn_size _) ?_
    refine vC (hs1 g4 cp4 _ H4.reads) ?_
    rintro _ qw76 ⟨g5,cp5,rfl,H5,qg77⟩
    refine ⟨_,rfl,?_⟩
    replace qB75:=qB75.since qg77
    replace qB26:=qB26.since qg77
    replace qB33:=qB33.since qg77
    replace qB11:=qB11.since qg77
    replace qB14:=qB14.since qg77
    replace qB17:=qB17.since qg77
    replace qB52:=qB52.since qg77
    replace qB66:=qB66.since qg77
    replace H3:=H3.since qg77
    replace H4:=H4.since qg77
    replace G:=G.trans qg77
    have qg77_s:=qg77.size
    have H5_0:=H5.low'
    replace H5:=H5.raise (show w.heap.size≤g5 by omega)
    have H5_1:=H5.lt
    clear H4
    refine sB (cnCells {T2 with pa:=some ⟨g5,0,none⟩,pc:=cp5}) cn_big qB66 (cn_size _) (cn_size _) (cn_one _) ?_
    intro qw78 qt79 qB80
    clear qB66
    replace qB75:=qB75.touch qt79 (by omega)
    replace qB26:=qB26.touch qt79 (by omega)
    replace qB33:=qB33.touch qt79 (by omega)
    replace qB11:=qB11.touch qt79 (by omega)
    replace qB14:=qB14.touch qt79 (by omega)
    replace qB17:=qB17.touch qt79 (by omega)
    replace qB52:=qB52.touch qt79 (by omega)
    replace H3:=H3.touch qt79 (by omega)
    replace H5:=H5.touch qt79 (by omega)
    replace G:=since_touch G qt79 (by omega)
    have qt79_s:=qt79.size
    refine vE #[qz19,qz20,qz21,pX w.heap.size 0,pX qw1.heap.size 0,pX qw4.heap.size 0,pX qw7.heap.size 0,pX qw10.heap.size 0,pX qw13.heap.size 0,pX qw45.heap.size 0,.string S1,pX qw59.heap.size 0,.int .i64 (M:Int),qz27,qz28,qz34,qz35,qz42,.bool true,.bool false,.bool false,qz43,.bool true,.bool false,.bool false,.bool false,qz44,.bool true,.bool false,.bool false,U,U,U,qz53,qz54,pX w.heap.size 0,.int .i64 r,pX w.heap.size 1,.string d,.int .i64 (d.size:Int),.int .i64 (r - (d.size:Int)),qz53,qz55,.string S1,pX w.heap.size 1,.string d,.string S1,.string D1,pX w.heap.size 1,qz67,qz68,pX w.heap.size 1,.string D1,qz67,qz69,.int .i64 (M:Int),pX w.heap.size 1,.string D1,.int .i64 (M:Int),.string D2,pX w.heap.size 1,pX w.heap.size 3,.int .i64 n,.int .i64 (M:Int),.int .i64 (n+(M:Int)),.int .i64 xN,pX w.heap.size 3,z67,z68,z69,z70,z71,z72,z73,.bool false,U,pX w.heap.size 2,.bool true,.bool true,pX w.heap.size 1,.string D2,.bool true,.bool true,.agg (cnCells {T1 with pa:=some ⟨g4,0,none⟩,pc:=cp4}),.agg (cnCells {T2 with pa:=some ⟨g5,0,none⟩,pc:=cp5}),U,U,U] ?_
    generalize (.agg (cnCells {T1 with pa:=some ⟨g4,0,none⟩,pc:=cp4}):Value)=qz81
    generalize (.agg (cnCells {T2 with pa:=some ⟨g5,0,none⟩,pc:=cp5}):Value)=qz82
    go_upto_region 14 with (fail)
    have hN0:0<qw78.heap.size:=by have:=qB75.lt;omega
    refine wp_region_low (Low (fun b=>b<qw78.heap.size)) (fun i x v=>match i with
      | 0=>v=.agg #[.int .i64 r,.string D2,.bool e,.int .i64 xN]
      | 1=>v=.agg (cnCells {F1 with pa:=some ⟨g3,0,none⟩,pc:=cp3})
      | 2=>v=.agg (cnCells {T2 with pa:=some ⟨g5,0,none⟩,pc:=cp5})
      | 3=>True
      | 4=>True
      | 5=>True
      | _=>True) (fun f vals x=>Blk w.heap.size x #[.int .i64 r,.string D2,.bool e,.int .i64 xN]∧Blk qw1.heap.size x (cnCells {F with pa:=some ⟨g,0,none⟩,pc:=cp})∧Blk qw4.heap.size x (cnCells {T with pa:=some ⟨g2,0,none⟩,pc:=cp2})∧Blk qw7.heap.size x (if f 3 then #[.int .i64 r,.string D2,.bool e,.int .i64 xN] else #[.int .i64 0,.string ByteArray.empty,.bool false,.int .i64 0])∧Blk qw10.heap.size x (if f 4 then (cnCells {F1 with pa:=some ⟨g3,0,none⟩,pc:=cp3}) else (cnCells cnZero))∧Blk qw13.heap.size x (if f 5 then (cnCells {T2 with pa:=some ⟨g5,0,none⟩,pc:=cp5}) else (cnCells cnZero))∧Blk qw45.heap.size x (cnCells {F1 with pa:=some ⟨g3,0,none⟩,pc:=cp3})∧Blk qw59.heap.size x (cnCells {T2 with pa:=some ⟨g5,0,none⟩,pc:=cp5})∧Held shP x w.heap.size g3 F.pn cp3 ps∧Held shP x w.heap.size g5 T1.pn cp5 qs∧qw78.heap.size≤x.heap.size∧Since w x) (fun v=>{tmps:=#[qz19,qz20,qz21,.pointer (some ⟨w.heap.size,0,none⟩),.pointer (some ⟨qw1.heap.size,0,none⟩),.pointer (some ⟨qw4.heap.size,0,none⟩),.pointer (some ⟨qw7.heap.size,0,none⟩),.pointer (some ⟨qw10.heap.size,0,none⟩),.pointer (some ⟨qw13.heap.size,0,none⟩),.pointer (some ⟨qw45.heap.size,0,none⟩),.string S1,.pointer (some ⟨qw59.heap.size,0,none⟩),.int .i64 (M:Int),qz27,qz28,qz34,qz35,qz42,.bool true,.bool false,.bool false,qz43,.bool true,.bool false,.bool false,.bool false,qz44,.bool true,.bool false,.bool false,undef,undef,undef,qz53,qz54,.pointer (some ⟨w.heap.size,0,none⟩),.int .i64 r,.pointer (some ⟨w.heap.size,1,none⟩),.string d,.int .i64 (d.size:Int),.int .i64 (r - (d.size:Int)),qz53,qz55,.string S1,.pointer (some ⟨w.heap.size,1,none⟩),.string d,.string S1,.string D1,.pointer (some ⟨w.heap.size,1,none⟩),qz67,qz68,.pointer (some ⟨w.heap.size,1,none⟩),.string D1,qz67,qz69,.int .i64 (M:Int),.pointer (some ⟨w.heap.size,1,none⟩),.string D1,.int .i64 (M:Int),.string D2,.pointer (some ⟨w.heap.size,1,none⟩),.pointer (some ⟨w.heap.size,3,none⟩),.int .i64 n,.int .i64 (M:Int),.int .i64 (n+(M:Int)),.int .i64 xN,.pointer (some ⟨w.heap.size,3,none⟩),z67,z68,z69,z70,z71,z72,z73,.bool false,undef,.pointer (some ⟨w.heap.size,2,none⟩),.bool true,.bool true,.pointer (some ⟨w.heap.size,1,none⟩),.string D2,.bool true,.bool true,qz81,qz82,v 0,v 1,v 2],defers:=[]}) (by kernel_rfl) (by kernel_rfl) ?_ ?_ (fun vals=>by kernel_rfl) ?_ ?_
    case refine_1=>
     intro j x y v hl hv
     match j,hv with
     | 0,hv|1,hv|2,hv=>exact hv
     | 3,hv|4,hv|5,hv=>trivial
     | n+6,_=>trivial
    case refine_2=>
     intro f vals hf
     refine ⟨qB75.since ((Since.refl _).drew),qB26.since ((Since.refl _).drew),qB33.since ((Since.refl _).drew),(by rw [hf 3];exact qB11.since ((Since.refl _).drew)),(by rw [hf 4];exact qB14.since ((Since.refl _).drew)),(by rw [hf 5];exact qB17.since ((Since.refl _).drew)),qB52.since ((Since.refl _).drew),qB80.since ((Since.refl _).drew),H3.since ((Since.refl _).drew),H5.since ((Since.refl _).drew),((Since.refl _).drew).size,G.trans ((Since.refl _).drew)⟩
    case refine_3=>
     repeat (first|exact eachLow_nil|refine eachLow_cons ?_ ?_)
     all_goals intro f vals x hf hr hK
     all_goals obtain ⟨k0,k1,k2,k3,k4,k5,k6,k7,k8,k9,k10,k11⟩:=hK
     ·have ev:vals 2=.agg (cnCells {T2 with pa:=some ⟨g5,0,none⟩,pc:=cp5}):=(hr ⟨2,.data⟩ (by simp) rfl).2
      have kz:Blk qw13.heap.size x (cnCells cnZero):=by have:=k5;rw [hf] at this;exact this
      refine does_store cn_big (cn_size _) (Raw.of kz (cn_size _)) (cn_one _) _ _ rfl rfl ev ?_
      intro z t B
      exact ⟨Low.touch t (show qw13.heap.size<qw78.heap.size by omega),⟨k0.touch t (by omega),k1.touch t (by omega),k2.touch t (by omega),k3.touch t (by omega),k4.touch t (by omega),B,k6.touch t (by omega),k7.touch t (by omega),k8.touch t (by omega),k9.touch t (by omega),Nat.le_trans k10 t.size,since_touch k11 t (by omega)⟩,trivial⟩
     ·have ev:vals 1=.agg (cnCells {F1 with pa:=some ⟨g3,0,none⟩,pc:=cp3}):=(hr ⟨1,.data⟩ (by simp) rfl).2
      have kz:Blk qw10.heap.size x (cnCells cnZero):=by have:=k4;rw [hf] at this;exact this
      refine does_store cn_big (cn_size _) (Raw.of kz (cn_size _)) (cn_one _) _ _ rfl rfl ev ?_
      intro z t B
      exact ⟨Low.touch t (show qw10.heap.size<qw78.heap.size by omega),⟨k0.touch t (by omega),k1.touch t (by omega),k2.touch t (by omega),k3.touch t (by omega),B,k5.touch t (by omega),k6.touch t (by omega),k7.touch t (by omega),k8.touch t (by omega),k9.touch t (by omega),Nat.le_trans k10 t.size,since_touch k11 t (by omega)⟩,trivial⟩
     ·have ev:vals 0=.agg #[.int .i64 r,.string D2,.bool e,.int .i64 xN]:=(hr ⟨0,.data⟩ (by simp) rfl).2
      have kz:Blk qw7.heap.size x #[.int .i64 0,.string ByteArray.empty,.bool false,.int .i64 0]:=by have:=k3;rw [hf] at this;exact this
      refine does_store pp_big rfl (Raw.of kz rfl) (by simp [Value.oneCell']) _ _ rfl rfl ev ?_
      intro z t B
      exact ⟨Low.touch t (show qw7.heap.size<qw78.heap.size by omega),⟨k0.touch t (by omega),k1.touch t (by omega),k2.touch t (by omega),B,k4.touch t (by omega),k5.touch t (by omega),k6.touch t (by omega),k7.touch t (by omega),k8.touch t (by omega),k9.touch t (by omega),Nat.le_trans k10 t.size,since_touch k11 t (by omega)⟩,trivial⟩
     ·exact does_load cn_big (cn_size _) k7 _ rfl rfl ⟨Low.since (b:=0) (Since.refl _) (hN0),⟨k0,k1,k2,k3,k4,k5,k6,k7,k8,k9,k10,k11⟩,rfl⟩
     ·exact does_load cn_big (cn_size _) k6 _ rfl rfl ⟨Low.since (b:=0) (Since.refl _) (hN0),⟨k0,k1,k2,k3,k4,k5,k6,k7,k8,k9,k10,k11⟩,rfl⟩
     ·exact does_load pp_big rfl k0 _ rfl rfl ⟨Low.since (b:=0) (Since.refl _) (hN0),⟨k0,k1,k2,k3,k4,k5,k6,k7,k8,k9,k10,k11⟩,rfl⟩
    intro f qv84 qw83 hK hf hv
    obtain ⟨k0,k1,k2,k3,k4,k5,k6,k7,k8,k9,k10,k11⟩:=hK
    clear qB75 qB26 qB33 qB11 qB14 qB17 qB52 qB80 H3 H5 G
    have hv0:qv84 0=_:=hv 0 (by decide)
    have hv1:qv84 1=_:=hv 1 (by decide)
    have hv2:qv84 2=_:=hv 2 (by decide)
    clear hv
    simp only [hv0,hv1,hv2]
    clear hv0 hv1 hv2
    have qB75:=k0
    clear k0
    have qB26:=k1
    clear k1
    have qB33:=k2
    clear k2
    have qB11:Blk qw7.heap.size qw83 #[.int .i64 r,.string D2,.bool e,.int .i64 xN]:=by have:=k3;rw [hf 3 (by decide)] at this;exact this
    clear k3
    have qB14:Blk qw10.heap.size qw83 (cnCells {F1 with pa:=some ⟨g3,0,none⟩,pc:=cp3}):=by have:=k4;rw [hf 4 (by decide)] at this;exact this
    clear k4
    have qB17:Blk qw13.heap.size qw83 (cnCells {T2 with pa:=some ⟨g5,0,none⟩,pc:=cp5}):=by have:=k5;rw [hf 5 (by decide)] at this;exact this
    clear k5
    have qB52:=k6
    clear k6
    have qB80:=k7
    clear k7
    have H3:=k8
    clear k8
    have H5:=k9
    clear k9
    have G:=k11
    clear k11
    have qw83_l:=qB80.lt
    have qw83_n:=k10
    clear k10
    go_wp2_with (fail)
    exact bodyPost_ret (results_3 (hs:=rfl) (t:=6) (u:=7) (v:=8) rfl _ rfl rfl rfl qB11 qB14 qB17) rfl ⟨_,_,_,_,by rw [eX.out,eE.out,eF.out,eT.out],H3,(by rw [← pT1];exact H5),by omega,G⟩
  case true=>
   have hgf:Hid (F1.gfn=true):=(by revert hnow;cases F1.gfn<;>simp:F1.gfn=true)
   have hce1:Hid (c1=true):=(by revert hnow;cases F1.gfn<;>simp:c1=true)
   clear hnow
   have eE:Hid (xE=true):=(by rw [hxE.out];unfold mvE;rw [hmk.out];show endE r d e F ps=_;unfold endE;rw [← hF1.out,← hc1.out,hgf.out,hce1.out];rfl:xE=true)
   refine vR ?_
   refine vV (.pointer (some ⟨qw45.heap.size,18,none⟩)) ?_
   refine vD (.bool true) ((qB52.cell 18).trans (by show some (.bool F1.gfn:Value)=some (.bool true:Value);rw [hgf.out])) ?_
   refine vV (.bool true) ?_
   refine vV (.pointer (some ⟨qw45.heap.size,11,none⟩)) ?_
   refine vV (.pointer (some ⟨qw45.heap.size,12,none⟩)) ?_
   refine vD (.string F1.iD) (qB52.cell 12) ?_
   refine vEmp (F1.iD) true ((hc1.out.symm.trans hce1.out)) ?_
   refine vV (.bool true) ?_
   refine vE #[qz19,qz20,qz21,pX w.heap.size 0,pX qw1.heap.size 0,pX qw4.heap.size 0,pX qw7.heap.size 0,pX qw10.heap.size 0,pX qw13.heap.size 0,pX qw45.heap.size 0,.string S1,pX qw59.heap.size 0,.int .i64 (M:Int),qz27,qz28,qz34,qz35,qz42,.bool true,.bool false,.bool false,qz43,.bool true,.bool false,.bool false,.bool false,qz44,.bool true,.bool false,.bool false,U,U,U,qz53,qz54,pX w.heap.size 0,.int .i64 r,pX w.heap.size 1,.string d,.int .i64 (d.size:Int),.int .i64 (r - (d.size:Int)),qz53,qz55,.string S1,pX w.heap.size 1,.string d,.string S1,.string D1,pX w.heap.size 1,qz67,qz68,pX w.heap.size 1,.string D1,qz67,qz69,.int .i64 (M:Int),pX w.heap.size 1,.string D1,.int .i64 (M:Int),.string D2,pX w.heap.size 1,pX w.heap.size 3,.int .i64 n,.int .i64 (M:Int),.int .i64 (n+(M:Int)),.int .i64 xN,pX w.heap.size 3,pX qw45.heap.size 18,.bool true,.bool true,pX qw45.heap.size 11,pX qw45.heap.size 12,.string F1.iD,.bool true,.bool true,U,U,U,U,U,U,U,U,U,U,U,U,U] ?_
   go_upto_region 11 with (fail)
   refine vR ?_
   refine vV (.pointer (some ⟨w.heap.size,2,none⟩)) ?_
   refine sC #[.int .i64 r,.string D2,.bool true,.int .i64 xN] qB75 2 (.bool true) rfl ?_
   intro qw76 qt77 qB78
   clear qB75
   replace qB26:=qB26.touch qt77 (by omega)
   replace qB33:=qB33.touch qt77 (by omega)
   replace qB11:=qB11.touch qt77 (by omega)
   replace qB14:=qB14.touch qt77 (by omega)
   replace qB17:=qB17.touch qt77 (by omega)
   replace qB52:=qB52.touch qt77 (by omega)
   replace qB66:=qB66.touch qt77 (by omega)
   replace H3:=H3.touch qt77 (by omega)
   replace H4:=H4.touch qt77 (by omega)
   replace G:=since_touch G qt77 (by omega)
   have qt77_s:=qt77.size
   refine vE #[qz19,qz20,qz21,pX w.heap.size 0,pX qw1.heap.size 0,pX qw4.heap.size 0,pX qw7.heap.size 0,pX qw10.heap.size 0,pX qw13.heap.size 0,pX qw45.heap.size 0,.string S1,pX qw59.heap.size 0,.int .i64 (M:Int),qz27,qz28,qz34,qz35,qz42,.bool true,.bool false,.bool false,qz43,.bool true,.bool false,.bool false,.bool false,qz44,.bool true,.bool false,.bool false,U,U,U,qz53,qz54,pX w.heap.size 0,.int .i64 r,pX w.heap.size 1,.string d,.int .i64 (d.size:Int),.int .i64 (r - (d.size:Int)),qz53,qz55,.string S1,pX w.heap.size 1,.string d,.string S1,.string D1,pX w.heap.size 1,qz67,qz68,pX w.heap.size 1,.string D1,qz67,qz69,.int .i64 (M:Int),pX w.heap.size 1,.string D1,.int .i64 (M:Int),.string D2,pX w.heap.size 1,pX w.heap.size 3,.int .i64 n,.int .i64 (M:Int),.int .i64 (n+(M:Int)),.int .i64 xN,pX w.heap.size 3,pX qw45.heap.size 18,.bool true,.bool true,pX qw45.heap.size 11,pX qw45.heap.size 12,.string F1.iD,.bool true,.bool true,pX w.heap.size 2,U,U,U,U,U,U,U,U,U,U,U,U] ?_
   go_upto_region 12 with (fail)
   cases hcl:c2
   case false=>
    replace hcl:Hid _:=hcl
    have eT:Hid (xT=T1):=(by rw [hxT.out];unfold mvT;rw [hmk.out];show shutT (endE r d e F ps) (leftD r d F ps T qs) (writeC T qs (gotD r d F ps)) qs=_;have e1:endE r d e F ps=true:=(by have h1:xE=endE r d e F ps:=(by rw [hxE.out];unfold mvE;rw [hmk.out];rfl);exact h1.symm.trans eE.out);rw [e1,eL.out,← hD1e.out,← hT1.out];unfold shutT;rw [← hc2.out,hcl.out];rfl:xT=T1)
    refine vR ?_
    refine vV (.pointer (some ⟨w.heap.size,2,none⟩)) ?_
    refine vD (.bool true) (qB78.cell 2) ?_
    refine vV (.bool true) ?_
    refine vV (.pointer (some ⟨w.heap.size,1,none⟩)) ?_
    refine vD (.string D2) (qB78.cell 1) ?_
    refine vEmp (D2) false ((hc2.out.symm.trans hcl.out)) ?_
    refine vV (.bool false) ?_
    refine vE #[qz19,qz20,qz21,pX w.heap.size 0,pX qw1.heap.size 0,pX qw4.heap.size 0,pX qw7.heap.size 0,pX qw10.heap.size 0,pX qw13.heap.size 0,pX qw45.heap.size 0,.string S1,pX qw59.heap.size 0,.int .i64 (M:Int),qz27,qz28,qz34,qz35,qz42,.bool true,.bool false,.bool false,qz43,.bool true,.bool false,.bool false,.bool false,qz44,.bool true,.bool false,.bool false,U,U,U,qz53,qz54,pX w.heap.size 0,.int .i64 r,pX w.heap.size 1,.string d,.int .i64 (d.size:Int),.int .i64 (r - (d.size:Int)),qz53,qz55,.string S1,pX w.heap.size 1,.string d,.string S1,.string D1,pX w.heap.size 1,qz67,qz68,pX w.heap.size 1,.string D1,qz67,qz69,.int .i64 (M:Int),pX w.heap.size 1,.string D1,.int .i64 (M:Int),.string D2,pX w.heap.size 1,pX w.heap.size 3,.int .i64 n,.int .i64 (M:Int),.int .i64 (n+(M:Int)),.int .i64 xN,pX w.heap.size 3,pX qw45.heap.size 18,.bool true,.bool true,pX qw45.heap.size 11,pX qw45.heap.size 12,.string F1.iD,.bool true,.bool true,pX w.heap.size 2,pX w.heap.size 2,.bool true,.bool true,pX w.heap.size 1,.string D2,.bool false,.bool false,U,U,U,U,U] ?_
    go_upto_region 14 with (fail)
    have hN0:0<qw76.heap.size:=by have:=qB78.lt;omega
    refine wp_region_low (Low (fun b=>b<qw76.heap.size)) (fun i x v=>match i with
      | 0=>v=.agg #[.int .i64 r,.string D2,.bool true,.int .i64 xN]
      | 1=>v=.agg (cnCells {F1 with pa:=some ⟨g3,0,none⟩,pc:=cp3})
      | 2=>v=.agg (cnCells {T1 with pa:=some ⟨g4,0,none⟩,pc:=cp4})
      | 3=>True
      | 4=>True
      | 5=>True
      | _=>True) (fun f vals x=>Blk w.heap.size x #[.int .i64 r,.string D2,.bool true,.int .i64 xN]∧Blk qw1.heap.size x (cnCells {F with pa:=some ⟨g,0,none⟩,pc:=cp})∧Blk qw4.heap.size x (cnCells {T with pa:=some ⟨g2,0,none⟩,pc:=cp2})∧Blk qw7.heap.size x (if f 3 then #[.int .i64 r,.string D2,.bool true,.int .i64 xN] else #[.int .i64 0,.string ByteArray.empty,.bool false,.int .i64 0])∧Blk qw10.heap.size x (if f 4 then (cnCells {F1 with pa:=some ⟨g3,0,none⟩,pc:=cp3}) else (cnCells cnZero))∧Blk qw13.heap.size x (if f 5 then (cnCells {T1 with pa:=some ⟨g4,0,none⟩,pc:=cp4}) else (cnCells cnZero))∧Blk qw45.heap.size x (cnCells {F1 with pa:=some ⟨g3,0,none⟩,pc:=cp3})∧Blk qw59.heap.size x (cnCells {T1 with pa:=some ⟨g4,0,none⟩,pc:=cp4})∧Held shP x w.heap.size g3 F.pn cp3 ps∧Held shP x w.heap.size g4 T.pn cp4 qs∧qw76.heap.size≤x.heap.size∧Since w x) (fun v=>{tmps:=#[qz19,qz20,qz21,.pointer (some ⟨w.heap.size,0,none⟩),.pointer (some ⟨qw1.heap.size,0,none⟩),.pointer (some ⟨qw4.heap.size,0,none⟩),.pointer (some ⟨qw7.heap.size,0,none⟩),.pointer (some ⟨qw10.heap.size,0,none⟩),.pointer (some ⟨qw13.heap.size,0,none⟩),.pointer (some ⟨qw45.heap.size,0,none⟩),.string S1,.pointer (some ⟨qw59.heap.size,0,none⟩),.int .i64 (M:Int),qz27,qz28,qz34,qz35,qz42,.bool true,.bool false,.bool false,qz43,.bool true,.bool false,.bool false,.bool false,qz44,.bool true,.bool false,.bool false,undef,undef,undef,qz53,qz54,.pointer (some ⟨w.heap.size,0,none⟩),.int .i64 r,.pointer (some ⟨w.heap.size,1,none⟩),.string d,.int .i64 (d.size:Int),.int .i64 (r - (d.size:Int)),qz53,qz55,.string S1,.pointer (some ⟨w.heap.size,1,none⟩),.string d,.string S1,.string D1,.pointer (some ⟨w.heap.size,1,none⟩),qz67,qz68,.pointer (some ⟨w.heap.size,1,none⟩),.string D1,qz67,qz69,.int .i64 (M:Int),.pointer (some ⟨w.heap.size,1,none⟩),.string D1,.int .i64 (M:Int),.string D2,.pointer (some ⟨w.heap.size,1,none⟩),.pointer (some ⟨w.heap.size,3,none⟩),.int .i64 n,.int .i64 (M:Int),.int .i64 (n+(M:Int)),.int .i64 xN,.pointer (some ⟨w.heap.size,3,none⟩),.pointer (some ⟨qw45.heap.size,18,none⟩),.bool true,.bool true,.pointer (some ⟨qw45.heap.size,11,none⟩),.pointer (some ⟨qw45.heap.size,12,none⟩),.string F1.iD,.bool true,.bool true,.pointer (some ⟨w.heap.size,2,none⟩),.pointer (some ⟨w.heap.size,2,none⟩),.bool true,.bool true,.pointer (some ⟨w.heap.size,1,none⟩),.string D2,.bool false,.bool false,undef,undef,v 0,v 1,v 2],defers:=[]}) (by kernel_rfl) (by kernel_rfl) ?_ ?_ (fun vals=>by kernel_rfl) ?_ ?_
    case refine_1=>
     intro j x y v hl hv
     match j,hv with
     | 0,hv|1,hv|2,hv=>exact hv
     | 3,hv|4,hv|5,hv=>trivial
     | n+6,_=>trivial
    case refine_2=>
     intro f vals hf
     refine ⟨qB78.since ((Since.refl _).drew),qB26.since ((Since.refl _).drew),qB33.since ((Since.refl _).drew),(by rw [hf 3];exact qB11.since ((Since.refl _).drew)),(by rw [hf 4];exact qB14.since ((Since.refl _).drew)),(by rw [hf 5];exact qB17.since ((Since.refl _).drew)),qB52.since ((Since.refl _).drew),qB66.since ((Since.refl _).drew),H3.since ((Since.refl _).drew),H4.since ((Since.refl _).drew),((Since.refl _).drew).size,G.trans ((Since.refl _).drew)⟩
    case refine_3=>
     repeat (first|exact eachLow_nil|refine eachLow_cons ?_ ?_)
     all_goals intro f vals x hf hr hK
     all_goals obtain ⟨k0,k1,k2,k3,k4,k5,k6,k7,k8,k9,k10,k11⟩:=hK
     ·have ev:vals 2=.agg (cnCells {T1 with pa:=some ⟨g4,0,none⟩,pc:=cp4}):=(hr ⟨2,.data⟩ (by simp) rfl).2
      have kz:Blk qw13.heap.size x (cnCells cnZero):=by have:=k5;rw [hf] at this;exact this
      refine does_store cn_big (cn_size _) (Raw.of kz (cn_size _)) (cn_one _) _ _ rfl rfl ev ?_
      intro z t B
      exact ⟨Low.touch t (show qw13.heap.size<qw76.heap.size by omega),⟨k0.touch t (by omega),k1.touch t (by omega),k2.touch t (by omega),k3.touch t (by omega),k4.touch t (by omega),B,k6.touch t (by omega),k7.touch t (by omega),k8.touch t (by omega),k9.touch t (by omega),Nat.le_trans k10 t.size,since_touch k11 t (by omega)⟩,trivial⟩
     ·have ev:vals 1=.agg (cnCells {F1 with pa:=some ⟨g3,0,none⟩,pc:=cp3}):=(hr ⟨1,.data⟩ (by simp) rfl).2
      have kz:Blk qw10.heap.size x (cnCells cnZero):=by have:=k4;rw [hf] at this;exact this
      refine does_store cn_big (cn_size _) (Raw.of kz (cn_size _)) (cn_one _) _ _ rfl rfl ev ?_
      intro z t B
      exact ⟨Low.touch t (show qw10.heap.size<qw76.heap.size by omega),⟨k0.touch t (by omega),k1.touch t (by omega),k2.touch t (by omega),k3.touch t (by omega),B,k5.touch t (by omega),k6.touch t (by omega),k7.touch t (by omega),k8.touch t (by omega),k9.touch t (by omega),Nat.le_trans k10 t.size,since_touch k11 t (by omega)⟩,trivial⟩
     ·have ev:vals 0=.agg #[.int .i64 r,.string D2,.bool true,.int .i64 xN]:=(hr ⟨0,.data⟩ (by simp) rfl).2
      have kz:Blk qw7.heap.size x #[.int .i64 0,.string ByteArray.empty,.bool false,.int .i64 0]:=by have:=k3;rw [hf] at this;exact this
      refine does_store pp_big rfl (Raw.of kz rfl) (by simp [Value.oneCell']) _ _ rfl rfl ev ?_
      intro z t B
      exact ⟨Low.touch t (show qw7.heap.size<qw76.heap.size by omega),⟨k0.touch t (by omega),k1.touch t (by omega),k2.touch t (by omega),B,k4.touch t (by omega),k5.touch t (by omega),k6.touch t (by omega),k7.touch t (by omega),k8.touch t (by omega),k9.touch t (by omega),Nat.le_trans k10 t.size,since_touch k11 t (by omega)⟩,trivial⟩
     ·exact does_load cn_big (cn_size _) k7 _ rfl rfl ⟨Low.since (b:=0) (Since.refl _) (hN0),⟨k0,k1,k2,k3,k4,k5,k6,k7,k8,k9,k10,k11⟩,rfl⟩
     ·exact does_load cn_big (cn_size _) k6 _ rfl rfl ⟨Low.since (b:=0) (Since.refl _) (hN0),⟨k0,k1,k2,k3,k4,k5,k6,k7,k8,k9,k10,k11⟩,rfl⟩
     ·exact does_load pp_big rfl k0 _ rfl rfl ⟨Low.since (b:=0) (Since.refl _) (hN0),⟨k0,k1,k2,k3,k4,k5,k6,k7,k8,k9,k10,k11⟩,rfl⟩
    intro f qv80 qw79 hK hf hv
    obtain ⟨k0,k1,k2,k3,k4,k5,k6,k7,k8,k9,k10,k11⟩:=hK
    clear qB78 qB26 qB33 qB11 qB14 qB17 qB52 qB66 H3 H4 G
    have hv0:qv80 0=_:=hv 0 (by decide)
    have hv1:qv80 1=_:=hv 1 (by decide)
    have hv2:qv80 2=_:=hv 2 (by decide)
    clear hv
    simp only [hv0,hv1,hv2]
    clear hv0 hv1 hv2
    have qB78:=k0
    clear k0
    have qB26:=k1
    clear k1
    have qB33:=k2
    clear k2
    have qB11:Blk qw7.heap.size qw79 #[.int .i64 r,.string D2,.bool true,.int .i64 xN]:=by have:=k3;rw [hf 3 (by decide)] at this;exact this
    clear k3
    have qB14:Blk qw10.heap.size qw79 (cnCells {F1 with pa:=some ⟨g3,0,none⟩,pc:=cp3}):=by have:=k4;rw [hf 4 (by decide)] at this;exact this
    clear k4
    have qB17:Blk qw13.heap.size qw79 (cnCells {T1 with pa:=some ⟨g4,0,none⟩,pc:=cp4}):=by have:=k5;rw [hf 5 (by decide)] at this;exact this
    clear k5
    have qB52:=k6
    clear k6
    have qB66:=k7
    clear k7
    have H3:=k8
    clear k8
    have H4:=k9
    clear k9
    have G:=k11
    clear k11
    have qw79_l:=qB66.lt
    have qw79_n:=k10
    clear k10
    go_wp2_with (fail)
    exact bodyPost_ret (results_3 (hs:=rfl) (t:=6) (u:=7) (v:=8) rfl _ rfl rfl rfl qB11 qB14 qB17) rfl ⟨_,_,_,_,by rw [eX.out,eE.out,eF.out,eT.out],H3,H4,by omega,G⟩
   case true=>
    replace hcl:Hid _:=hcl
    have eT:Hid (xT=T2):=(by rw [hxT.out];unfold mvT;rw [hmk.out];show shutT (endE r d e F ps) (leftD r d F ps T qs) (writeC T qs (gotD r d F ps)) qs=_;have e1:endE r d e F ps=true:=(by have h1:xE=endE r d e F ps:=(by rw [hxE.out];unfold mvE;rw [hmk.out];rfl);exact h1.symm.trans eE.out);rw [e1,eL.out,← hD1e.out,← hT1.out];unfold shutT;rw [← hc2.out,hcl.out];exact hT2.out.symm:xT=T2)
    refine vR ?_
    refine vV (.pointer (some ⟨w.heap.size,2,none⟩)) ?_
    refine vD (.bool true) (qB78.cell 2) ?_
    refine vV (.bool true) ?_
    refine vV (.pointer (some ⟨w.heap.size,1,none⟩)) ?_
    refine vD (.string D2) (qB78.cell 1) ?_
    refine vEmp (D2) true ((hc2.out.symm.trans hcl.out)) ?_
    refine vV (.bool true) ?_
    refine vE #[qz19,qz20,qz21,pX w.heap.size 0,pX qw1.heap.size 0,pX qw4.heap.size 0,pX qw7.heap.size 0,pX qw10.heap.size 0,pX qw13.heap.size 0,pX qw45.heap.size 0,.string S1,pX qw59.heap.size 0,.int .i64 (M:Int),qz27,qz28,qz34,qz35,qz42,.bool true,.bool false,.bool false,qz43,.bool true,.bool false,.bool false,.bool false,qz44,.bool true,.bool false,.bool false,U,U,U,qz53,qz54,pX w.heap.size 0,.int .i64 r,pX w.heap.size 1,.string d,.int .i64 (d.size:Int),.int .i64 (r - (d.size:Int)),qz53,qz55,.string S1,pX w.heap.size 1,.string d,.string S1,.string D1,pX w.heap.size 1,qz67,qz68,pX w.heap.size 1,.string D1,qz67,qz69,.int .i64 (M:Int),pX w.heap.size 1,.string D1,.int .i64 (M:Int),.string D2,pX w.heap.size 1,pX w.heap.size 3,.int .i64 n,.int .i64 (M:Int),.int .i64 (n+(M:Int)),.int .i64 xN,pX w.heap.size 3,pX qw45.heap.size 18,.bool true,.bool true,pX qw45.heap.size 11,pX qw45.heap.size 12,.string F1.iD,.bool true,.bool true,pX w.heap.size 2,pX w.heap.size 2,.bool true,.bool true,pX w.heap.size 1,.string D2,.bool true,.bool true,U,U,U,U,U] ?_
    go_upto_region 13 with (fail)
    refine vR ?_
    refine vB cn_big qB66 (cn_size _) ?_
    refine vC (hs1 g4 cp4 _ H4.reads) ?_
    rintro _ qw79 ⟨g5,cp5,rfl,H5,qg80⟩
    refine ⟨_,rfl,?_⟩
    replace qB78:=qB78.since qg80
    replace qB26:=qB26.since qg80
    replace qB33:=qB33.since qg80
    replace qB11:=qB11.since qg80
    replace qB14:=qB14.since qg80
    replace qB17:=qB17.since qg80
    replace qB52:=qB52.since qg80
    replace qB66:=qB66.since qg80
    replace H3:=H3.since qg80
    replace H4:=H4.since qg80
    replace G:=G.trans qg80
    have qg80_s:=qg80.size
    have H5_0:=H5.low'
    replace H5:=H5.raise (show w.heap.size≤g5 by omega)
    have H5_1:=H5.lt
    clear H4
    refine sB (cnCells {T2 with pa:=some ⟨g5,0,none⟩,pc:=cp5}) cn_big qB66 (cn_size _) (cn_size _) (cn_one _) ?_
    intro qw81 qt82 qB83
    clear qB66
    replace qB78:=qB78.touch qt82 (by omega)
    replace qB26:=qB26.touch qt82 (by omega)
    replace qB33:=qB33.touch qt82 (by omega)
    replace qB11:=qB11.touch qt82 (by omega)
    replace qB14:=qB14.touch qt82 (by omega)
    replace qB17:=qB17.touch qt82 (by omega)
    replace qB52:=qB52.touch qt82 (by omega)
    replace H3:=H3.touch qt82 (by omega)
    replace H5:=H5.touch qt82 (by omega)
    replace G:=since_touch G qt82 (by omega)
    have qt82_s:=qt82.size
    refine vE #[qz19,qz20,qz21,pX w.heap.size 0,pX qw1.heap.size 0,pX qw4.heap.size 0,pX qw7.heap.size 0,pX qw10.heap.size 0,pX qw13.heap.size 0,pX qw45.heap.size 0,.string S1,pX qw59.heap.size 0,.int .i64 (M:Int),qz27,qz28,qz34,qz35,qz42,.bool true,.bool false,.bool false,qz43,.bool true,.bool false,.bool false,.bool false,qz44,.bool true,.bool false,.bool false,U,U,U,qz53,qz54,pX w.heap.size 0,.int .i64 r,pX w.heap.size 1,.string d,.int .i64 (d.size:Int),.int .i64 (r - (d.size:Int)),qz53,qz55,.string S1,pX w.heap.size 1,.string d,.string S1,.string D1,pX w.heap.size 1,qz67,qz68,pX w.heap.size 1,.string D1,qz67,qz69,.int .i64 (M:Int),pX w.heap.size 1,.string D1,.int .i64 (M:Int),.string D2,pX w.heap.size 1,pX w.heap.size 3,.int .i64 n,.int .i64 (M:Int),.int .i64 (n+(M:Int)),.int .i64 xN,pX w.heap.size 3,pX qw45.heap.size 18,.bool true,.bool true,pX qw45.heap.size 11,pX qw45.heap.size 12,.string F1.iD,.bool true,.bool true,pX w.heap.size 2,pX w.heap.size 2,.bool true,.bool true,pX w.heap.size 1,.string D2,.bool true,.bool true,.agg (cnCells {T1 with pa:=some ⟨g4,0,none⟩,pc:=cp4}),.agg (cnCells {T2 with pa:=some ⟨g5,0,none⟩,pc:=cp5}),U,U,U] ?_
    generalize (.agg (cnCells {T1 with pa:=some ⟨g4,0,none⟩,pc:=cp4}):Value)=qz84
    generalize (.agg (cnCells {T2 with pa:=some ⟨g5,0,none⟩,pc:=cp5}):Value)=qz85
    go_upto_region 14 with (fail)
    have hN0:0<qw81.heap.size:=by have:=qB78.lt;omega
    refine wp_region_low (Low (fun b=>b<qw81.heap.size)) (fun i x v=>match i with
      | 0=>v=.agg #[.int .i64 r,.string D2,.bool true,.int .i64 xN]
      | 1=>v=.agg (cnCells {F1 with pa:=some ⟨g3,0,none⟩,pc:=cp3})
      | 2=>v=.agg (cnCells {T2 with pa:=some ⟨g5,0,none⟩,pc:=cp5})
      | 3=>True
      | 4=>True
      | 5=>True
      | _=>True) (fun f vals x=>Blk w.heap.size x #[.int .i64 r,.string D2,.bool true,.int .i64 xN]∧Blk qw1.heap.size x (cnCells {F with pa:=some ⟨g,0,none⟩,pc:=cp})∧Blk qw4.heap.size x (cnCells {T with pa:=some ⟨g2,0,none⟩,pc:=cp2})∧Blk qw7.heap.size x (if f 3 then #[.int .i64 r,.string D2,.bool true,.int .i64 xN] else #[.int .i64 0,.string ByteArray.empty,.bool false,.int .i64 0])∧Blk qw10.heap.size x (if f 4 then (cnCells {F1 with pa:=some ⟨g3,0,none⟩,pc:=cp3}) else (cnCells cnZero))∧Blk qw13.heap.size x (if f 5 then (cnCells {T2 with pa:=some ⟨g5,0,none⟩,pc:=cp5}) else (cnCells cnZero))∧Blk qw45.heap.size x (cnCells {F1 with pa:=some ⟨g3,0,none⟩,pc:=cp3})∧Blk qw59.heap.size x (cnCells {T2 with pa:=some ⟨g5,0,none⟩,pc:=cp5})∧Held shP x w.heap.size g3 F.pn cp3 ps∧Held shP x w.heap.size g5 T1.pn cp5 qs∧qw81.heap.size≤x.heap.size∧Since w x) (fun v=>{tmps:=#[qz19,qz20,qz21,.pointer (some ⟨w.heap.size,0,none⟩),.pointer (some ⟨qw1.heap.size,0,none⟩),.pointer (some ⟨qw4.heap.size,0,none⟩),.pointer (some ⟨qw7.heap.size,0,none⟩),.pointer (some ⟨qw10.heap.size,0,none⟩),.pointer (some ⟨qw13.heap.size,0,none⟩),.pointer (some ⟨qw45.heap.size,0,none⟩),.string S1,.pointer (some ⟨qw59.heap.size,0,none⟩),.int .i64 (M:Int),qz27,qz28,qz34,qz35,qz42,.bool true,.bool false,.bool false,qz43,.bool true,.bool false,.bool false,.bool false,qz44,.bool true,.bool false,.bool false,undef,undef,undef,qz53,qz54,.pointer (some ⟨w.heap.size,0,none⟩),.int .i64 r,.pointer (some ⟨w.heap.size,1,none⟩),.string d,.int .i64 (d.size:Int),.int .i64 (r - (d.size:Int)),qz53,qz55,.string S1,.pointer (some ⟨w.heap.size,1,none⟩),.string d,.string S1,.string D1,.pointer (some ⟨w.heap.size,1,none⟩),qz67,qz68,.pointer (some ⟨w.heap.size,1,none⟩),.string D1,qz67,qz69,.int .i64 (M:Int),.pointer (some ⟨w.heap.size,1,none⟩),.string D1,.int .i64 (M:Int),.string D2,.pointer (some ⟨w.heap.size,1,none⟩),.pointer (some ⟨w.heap.size,3,none⟩),.int .i64 n,.int .i64 (M:Int),.int .i64 (n+(M:Int)),.int .i64 xN,.pointer (some ⟨w.heap.size,3,none⟩),.pointer (some ⟨qw45.heap.size,18,none⟩),.bool true,.bool true,.pointer (some ⟨qw45.heap.size,11,none⟩),.pointer (some ⟨qw45.heap.size,12,none⟩),.string F1.iD,.bool true,.bool true,.pointer (some ⟨w.heap.size,2,none⟩),.pointer (some ⟨w.heap.size,2,none⟩),.bool true,.bool true,.pointer (some ⟨w.heap.size,1,none⟩),.string D2,.bool true,.bool true,qz84,qz85,v 0,v 1,v 2],defers:=[]}) (by kernel_rfl) (by kernel_rfl) ?_ ?_ (fun vals=>by kernel_rfl) ?_ ?_
    case refine_1=>
     intro j x y v hl hv
     match j,hv with
     | 0,hv|1,hv|2,hv=>exact hv
     | 3,hv|4,hv|5,hv=>trivial
     | n+6,_=>trivial
    case refine_2=>
     intro f vals hf
     refine ⟨qB78.since ((Since.refl _).drew),qB26.since ((Since.refl _).drew),qB33.since ((Since.refl _).drew),(by rw [hf 3];exact qB11.since ((Since.refl _).drew)),(by rw [hf 4];exact qB14.since ((Since.refl _).drew)),(by rw [hf 5];exact qB17.since ((Since.refl _).drew)),qB52.since ((Since.refl _).drew),qB83.since ((Since.refl _).drew),H3.since ((Since.refl _).drew),H5.since ((Since.refl _).drew),((Since.refl _).drew).size,G.trans ((Since.refl _).drew)⟩
    case refine_3=>
     repeat (first|exact eachLow_nil|refine eachLow_cons ?_ ?_)
     all_goals intro f vals x hf hr hK
     all_goals obtain ⟨k0,k1,k2,k3,k4,k5,k6,k7,k8,k9,k10,k11⟩:=hK
     ·have ev:vals 2=.agg (cnCells {T2 with pa:=some ⟨g5,0,none⟩,pc:=cp5}):=(hr ⟨2,.data⟩ (by simp) rfl).2
      have kz:Blk qw13.heap.size x (cnCells cnZero):=by have:=k5;rw [hf] at this;exact this
      refine does_store cn_big (cn_size _) (Raw.of kz (cn_size _)) (cn_one _) _ _ rfl rfl ev ?_
      intro z t B
      exact ⟨Low.touch t (show qw13.heap.size<qw81.heap.size by omega),⟨k0.touch t (by omega),k1.touch t (by omega),k2.touch t (by omega),k3.touch t (by omega),k4.touch t (by omega),B,k6.touch t (by omega),k7.touch t (by omega),k8.touch t (by omega),k9.touch t (by omega),Nat.le_trans k10 t.size,since_touch k11 t (by omega)⟩,trivial⟩
     ·have ev:vals 1=.agg (cnCells {F1 with pa:=some ⟨g3,0,none⟩,pc:=cp3}):=(hr ⟨1,.data⟩ (by simp) rfl).2
      have kz:Blk qw10.heap.size x (cnCells cnZero):=by have:=k4;rw [hf] at this;exact this
      refine does_store cn_big (cn_size _) (Raw.of kz (cn_size _)) (cn_one _) _ _ rfl rfl ev ?_
      intro z t B
      exact ⟨Low.touch t (show qw10.heap.size<qw81.heap.size by omega),⟨k0.touch t (by omega),k1.touch t (by omega),k2.touch t (by omega),k3.touch t (by omega),B,k5.touch t (by omega),k6.touch t (by omega),k7.touch t (by omega),k8.touch t (by omega),k9.touch t (by omega),Nat.le_trans k10 t.size,since_touch k11 t (by omega)⟩,trivial⟩
     ·have ev:vals 0=.agg #[.int .i64 r,.string D2,.bool true,.int .i64 xN]:=(hr ⟨0,.data⟩ (by simp) rfl).2
      have kz:Blk qw7.heap.size x #[.int .i64 0,.string ByteArray.empty,.bool false,.int .i64 0]:=by have:=k3;rw [hf] at this;exact this
      refine does_store pp_big rfl (Raw.of kz rfl) (by simp [Value.oneCell']) _ _ rfl rfl ev ?_
      intro z t B
      exact ⟨Low.touch t (show qw7.heap.size<qw81.heap.size by omega),⟨k0.touch t (by omega),k1.touch t (by omega),k2.touch t (by omega),B,k4.touch t (by omega),k5.touch t (by omega),k6.touch t (by omega),k7.touch t (by omega),k8.touch t (by omega),k9.touch t (by omega),Nat.le_trans k10 t.size,since_touch k11 t (by omega)⟩,trivial⟩
     ·exact does_load cn_big (cn_size _) k7 _ rfl rfl ⟨Low.since (b:=0) (Since.refl _) (hN0),⟨k0,k1,k2,k3,k4,k5,k6,k7,k8,k9,k10,k11⟩,rfl⟩
     ·exact does_load cn_big (cn_size _) k6 _ rfl rfl ⟨Low.since (b:=0) (Since.refl _) (hN0),⟨k0,k1,k2,k3,k4,k5,k6,k7,k8,k9,k10,k11⟩,rfl⟩
     ·exact does_load pp_big rfl k0 _ rfl rfl ⟨Low.since (b:=0) (Since.refl _) (hN0),⟨k0,k1,k2,k3,k4,k5,k6,k7,k8,k9,k10,k11⟩,rfl⟩
    intro f qv87 qw86 hK hf hv
    obtain ⟨k0,k1,k2,k3,k4,k5,k6,k7,k8,k9,k10,k11⟩:=hK
    clear qB78 qB26 qB33 qB11 qB14 qB17 qB52 qB83 H3 H5 G
    have hv0:qv87 0=_:=hv 0 (by decide)
    have hv1:qv87 1=_:=hv 1 (by decide)
    have hv2:qv87 2=_:=hv 2 (by decide)
    clear hv
    simp only [hv0,hv1,hv2]
    clear hv0 hv1 hv2
    have qB78:=k0
    clear k0
    have qB26:=k1
    clear k1
    have qB33:=k2
    clear k2
    have qB11:Blk qw7.heap.size qw86 #[.int .i64 r,.string D2,.bool true,.int .i64 xN]:=by have:=k3;rw [hf 3 (by decide)] at this;exact this
    clear k3
    have qB14:Blk qw10.heap.size qw86 (cnCells {F1 with pa:=some ⟨g3,0,none⟩,pc:=cp3}):=by have:=k4;rw [hf 4 (by decide)] at this;exact this
    clear k4
    have qB17:Blk qw13.heap.size qw86 (cnCells {T2 with pa:=some ⟨g5,0,none⟩,pc:=cp5}):=by have:=k5;rw [hf 5 (by decide)] at this;exact this
    clear k5
    have qB52:=k6
    clear k6
    have qB83:=k7
    clear k7
    have H3:=k8
    clear k8
    have H5:=k9
    clear k9
    have G:=k11
    clear k11
    have qw86_l:=qB83.lt
    have qw86_n:=k10
    clear k10
    go_wp2_with (fail)
    exact bodyPost_ret (results_3 (hs:=rfl) (t:=6) (u:=7) (v:=8) rfl _ rfl rfl rfl qB11 qB14 qB17) rfl ⟨_,_,_,_,by rw [eX.out,eE.out,eF.out,eT.out],H3,(by rw [← pT1];exact H5),by omega,G⟩
end Go.Proofs.YtnbopjlpemmkcaaGreat
