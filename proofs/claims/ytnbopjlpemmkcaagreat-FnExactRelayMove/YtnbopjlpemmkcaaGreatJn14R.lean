/-
  A turn of both pipes, as impl makes it.
-/
import Derived.Test.YtnbopjlpemmkcaaGreatJn14V
import Derived.Test.YtnbopjlpemmkcaaGreatM21
import Derived.Deep.DeepCutAuto
namespace Go.Proofs.YtnbopjlpemmkcaaGreat
open Go.ChangeShapes Go.WideShapes Go.ChangeAt Go.RowKit Go.Deep
set_option linter.unusedVariables false
set_option maxRecDepth 10000
set_option linter.unusedSimpArgs false

set_option maxRecDepth 20000 in
set_option maxHeartbeats 16000000 in
theorem jMove1e (r:Int) (d:ByteArray) (e:Bool) (n:Int) (sr:Int) (sd:ByteArray) (se:Bool) (sn:Int) (L:Cn) (ps:List (Int×ByteArray)) (R:Cn) (qs:List (Int×ByteArray)) (gL:GoodC L ps) (gR:GoodC R qs) (g1 c1 g2 c2 ga gb j B:Nat) (w:World) (E:Blk j w (jnCells ⟨0,0,r,d,e,n,sr,sd,se,sn,{L with pa:=some ⟨g1,0,none⟩,pc:=c1},{R with pa:=some ⟨g2,0,none⟩,pc:=c2},some ⟨ga,0,none⟩,0,0,some ⟨gb,0,none⟩,0,0⟩)) (A1:Held shP w B g1 L.pn c1 ps) (A2:Held shP w B g2 R.pn c2 qs) (A3:Held shG w B ga 0 0 ([]:List Sg)) (A4:Held shG w B gb 0 0 ([]:List Sg)) (hj:g1<j∧g2<j∧ga<j∧gb<j) (hgL:gaveB L=true) :
  Calls Tryz.prog 33 #[.pointer (some ⟨j,0,none⟩)] w fun x w'=>∃ g5 c5 gc mc cc,x=.returned (.tuple #[])∧Blk j w' (jnCells ⟨0,0,r,d,e,n,sr,sd,se,sn,{L with pa:=some ⟨g1,0,none⟩,pc:=c1},{(abortC R qs) with pa:=some ⟨g5,0,none⟩,pc:=c5},some ⟨ga,0,none⟩,0,0,some ⟨gc,0,none⟩,mc,cc⟩)∧Held shP w' B g1 L.pn c1 ps∧Held shP w' w.heap.size g5 R.pn c5 qs∧Held shG w' B ga 0 0 ([]:List Sg)∧Held shG w' w.heap.size gc mc cc (abortS R qs)∧(g5≠j∧gc≠j∧g5≠g1∧gc≠ga)∧Touch j w w':=by
 refine (jMove1 r d e n sr sd se sn L ps R qs gL gR g1 c1 g2 c2 ga gb j B w E A1 A2 A3 A4 hj hgL).mono ?_
 rintro e1 w1 ⟨rfl,h⟩
 obtain ⟨g5,c5,gc,mc,cc,h⟩:=h.out
 exact ⟨g5,c5,gc,mc,cc,rfl,h⟩

set_option maxRecDepth 20000 in
set_option maxHeartbeats 16000000 in
theorem jMove2e (r:Int) (d:ByteArray) (e:Bool) (n:Int) (sr:Int) (sd:ByteArray) (se:Bool) (sn:Int) (L:Cn) (ps:List (Int×ByteArray)) (R:Cn) (qs:List (Int×ByteArray)) (gL:GoodC L ps) (gR:GoodC R qs) (g1 c1 g2 c2 ga gb j B:Nat) (w:World) (E:Blk j w (jnCells ⟨0,0,r,d,e,n,sr,sd,se,sn,{L with pa:=some ⟨g1,0,none⟩,pc:=c1},{R with pa:=some ⟨g2,0,none⟩,pc:=c2},some ⟨ga,0,none⟩,0,0,some ⟨gb,0,none⟩,0,0⟩)) (A1:Held shP w B g1 L.pn c1 ps) (A2:Held shP w B g2 R.pn c2 qs) (A3:Held shG w B ga 0 0 ([]:List Sg)) (A4:Held shG w B gb 0 0 ([]:List Sg)) (hj:g1<j∧g2<j∧ga<j∧gb<j) (hgL:gaveB L=false) (hgR:gaveB R=true) :
  Calls Tryz.prog 33 #[.pointer (some ⟨j,0,none⟩)] w fun x w'=>∃ g5 c5 gc mc cc,x=.returned (.tuple #[])∧Blk j w' (jnCells ⟨0,0,r,d,e,n,sr,sd,se,sn,{(abortC L ps) with pa:=some ⟨g5,0,none⟩,pc:=c5},{R with pa:=some ⟨g2,0,none⟩,pc:=c2},some ⟨gc,0,none⟩,mc,cc,some ⟨gb,0,none⟩,0,0⟩)∧Held shP w' w.heap.size g5 L.pn c5 ps∧Held shP w' B g2 R.pn c2 qs∧Held shG w' w.heap.size gc mc cc (abortS L ps)∧Held shG w' B gb 0 0 ([]:List Sg)∧(g5≠j∧gc≠j∧g5≠g2∧gc≠gb)∧Touch j w w':=by
 refine (jMove2 r d e n sr sd se sn L ps R qs gL gR g1 c1 g2 c2 ga gb j B w E A1 A2 A3 A4 hj hgL hgR).mono ?_
 rintro e1 w1 ⟨rfl,h⟩
 obtain ⟨g5,c5,gc,mc,cc,h⟩:=h.out
 exact ⟨g5,c5,gc,mc,cc,rfl,h⟩

set_option maxRecDepth 20000 in
set_option maxHeartbeats 16000000 in
theorem jMove3e (r:Int) (d:ByteArray) (e:Bool) (n:Int) (sr:Int) (sd:ByteArray) (se:Bool) (sn:Int) (L:Cn) (ps:List (Int×ByteArray)) (R:Cn) (qs:List (Int×ByteArray)) (gL:GoodC L ps) (gR:GoodC R qs) (g1 c1 g2 c2 ga gb j B:Nat) (w:World) (E:Blk j w (jnCells ⟨0,0,r,d,e,n,sr,sd,se,sn,{L with pa:=some ⟨g1,0,none⟩,pc:=c1},{R with pa:=some ⟨g2,0,none⟩,pc:=c2},some ⟨ga,0,none⟩,0,0,some ⟨gb,0,none⟩,0,0⟩)) (A1:Held shP w B g1 L.pn c1 ps) (A2:Held shP w B g2 R.pn c2 qs) (A3:Held shG w B ga 0 0 ([]:List Sg)) (A4:Held shG w B gb 0 0 ([]:List Sg)) (hj:g1<j∧g2<j∧ga<j∧gb<j) (hk1:pipeOk r d n=true) (hk2:pipeOk sr sd sn=true) (hkL:connOk L ps=true) (hkR:connOk R qs=true) (hgL:gaveB L=false) (hgR:gaveB R=false) :
  Calls Tryz.prog 33 #[.pointer (some ⟨j,0,none⟩)] w fun x w'=>∃ g7 c7 g8 c8,x=.returned (.tuple #[])∧Blk j w' (jnCells ⟨0,0,r,(mvD r d n L ps R qs),(mvE r d e n L ps R qs),(mvN r d n L ps R qs),sr,(mvD sr sd sn (mvT r d e n L ps R qs) qs (mvF r d n L ps R qs) ps),(mvE sr sd se sn (mvT r d e n L ps R qs) qs (mvF r d n L ps R qs) ps),(mvN sr sd sn (mvT r d e n L ps R qs) qs (mvF r d n L ps R qs) ps),{(mvT sr sd se sn (mvT r d e n L ps R qs) qs (mvF r d n L ps R qs) ps) with pa:=some ⟨g8,0,none⟩,pc:=c8},{(mvF sr sd sn (mvT r d e n L ps R qs) qs (mvF r d n L ps R qs) ps) with pa:=some ⟨g7,0,none⟩,pc:=c7},some ⟨ga,0,none⟩,0,0,some ⟨gb,0,none⟩,0,0⟩)∧Held shP w' w.heap.size g8 L.pn c8 ps∧Held shP w' w.heap.size g7 R.pn c7 qs∧Held shG w' B ga 0 0 ([]:List Sg)∧Held shG w' B gb 0 0 ([]:List Sg)∧(g7≠j∧g8≠j∧g7≠g8)∧Touch j w w':=by
 refine (jMove3 r d e n sr sd se sn L ps R qs gL gR g1 c1 g2 c2 ga gb j B w E A1 A2 A3 A4 hj hk1 hk2 hkL hkR hgL hgR).mono ?_
 rintro e1 w1 ⟨rfl,h⟩
 obtain ⟨g7,c7,g8,c8,h⟩:=h.out
 exact ⟨g7,c7,g8,c8,rfl,h⟩

set_option maxRecDepth 20000 in
set_option maxHeartbeats 16000000 in
theorem implR0 (r:Int) (d:ByteArray) (e:Bool) (n:Int) (sr:Int) (sd:ByteArray) (se:Bool) (sn:Int) (L:Cn) (ps:List (Int×ByteArray)) (R:Cn) (qs:List (Int×ByteArray)) (gL:GoodC L ps) (gR:GoodC R qs) (hd:d.size≤1048576) (hf:sd.size≤1048576) (q p q2 p2:Nat) (w:World) (RL:Rd shP w (some ⟨q,0,none⟩) L.pn ps) (RR:Rd shP w (some ⟨q2,0,none⟩) R.pn qs) (hno:(pipeOk r d n && (pipeOk sr sd sn && (connOk L ps && connOk R qs)))=false) :
  Calls Tryz.prog 9 #[.agg #[.int .i64 r,.string d,.bool e,.int .i64 n,.int .i64 sr,.string sd,.bool se,.int .i64 sn],.agg (cnCells {L with pa:=some ⟨q,0,none⟩,pc:=p}),.agg (cnCells {R with pa:=some ⟨q2,0,none⟩,pc:=p2})] w fun x w'=>Hid (∃ (A:Rl) (g1 c1 g2 c2 ga ma ca gb mb cb:Nat),A=(rlAns (rlWay r d n sr sd sn L ps R qs) r d e n sr sd se sn L ps R qs)∧x=.returned (.tuple #[.agg #[.int .i64 r,.string A.d,.bool A.e,.int .i64 A.n,.int .i64 sr,.string A.f,.bool A.g,.int .i64 A.m],.agg (cnCells {A.L with pa:=some ⟨g1,0,none⟩,pc:=c1}),.agg (cnCells {A.R with pa:=some ⟨g2,0,none⟩,pc:=c2}),.slice (some ⟨ga,0,none⟩) ma ca,.slice (some ⟨gb,0,none⟩) mb cb])∧Held shP w' w.heap.size g1 L.pn c1 ps∧Held shP w' w.heap.size g2 R.pn c2 qs∧Held shG w' w.heap.size ga ma ca A.xa∧Held shG w' w.heap.size gb mb cb A.xb∧(g1≠g2∧ga≠gb)∧Since w w'):=by
 have hjo:=fun wx Rx Ry=>jOf r d e n sr sd se sn L ps R qs gL gR hd hf q p q2 p2 wx Rx Ry
 have hk1:=fun wx=>implPipeOk r d e n wx
 have hk2:=fun wx=>implPipeOk sr sd se sn wx
 unfold ppVal at hk1 hk2
 have hk3:=fun wx Rx=>iOk gL q p wx Rx
 have hk4:=fun wx Rx=>iOk gR q2 p2 wx Rx
 obtain ⟨kw,hkw⟩:∃ k,Hid (k=rlWay r d n sr sd sn L ps R qs):=⟨_,rfl⟩
 rw [← hkw.out]
 have ek:Hid (kw=0):=(by rw [hkw.out];unfold rlWay;rw [hno];rfl:kw=0)
 replace hno:Hid _:=hno
 have G:=Since.refl w
 go_enter Tryz.func9,Tryz.ntmps9
 go_upto_region 0 with (fail)
 refine vR ?_
 refine vW (w.alloc (.cells #[.int .i64 r,.string d,.bool e,.int .i64 n,.int .i64 sr,.string sd,.bool se,.int .i64 sn] 42)) (.pointer (some ⟨w.heap.size,0,none⟩)) ?_
 have qB2:=Blk.new w #[.int .i64 r,.string d,.bool e,.int .i64 n,.int .i64 sr,.string sd,.bool se,.int .i64 sn] 42
 have qg3:=(Since.refl w).alloc (.cells #[.int .i64 r,.string d,.bool e,.int .i64 n,.int .i64 sr,.string sd,.bool se,.int .i64 sn] 42)
 replace G:=G.trans qg3
 generalize w.alloc (.cells #[.int .i64 r,.string d,.bool e,.int .i64 n,.int .i64 sr,.string sd,.bool se,.int .i64 sn] 42)=qw1 at  G qB2 qg3 ⊢
 have qB2_l:=qB2.lt
 have qg3_s:=qg3.size
 refine vW (qw1.alloc (.cells (cnCells {L with pa:=some ⟨q,0,none⟩,pc:=p}) 50)) (.pointer (some ⟨qw1.heap.size,0,none⟩)) ?_
 have qB5:=Blk.new qw1 (cnCells {L with pa:=some ⟨q,0,none⟩,pc:=p}) 50
 have qg6:=(Since.refl qw1).alloc (.cells (cnCells {L with pa:=some ⟨q,0,none⟩,pc:=p}) 50)
 replace qB2:=qB2.since qg6
 replace G:=G.trans qg6
 generalize qw1.alloc (.cells (cnCells {L with pa:=some ⟨q,0,none⟩,pc:=p}) 50)=qw4 at qB2 G qB5 qg6 ⊢
 have qB5_l:=qB5.lt
 have qg6_s:=qg6.size
 refine vW (qw4.alloc (.cells (cnCells {R with pa:=some ⟨q2,0,none⟩,pc:=p2}) 50)) (.pointer (some ⟨qw4.heap.size,0,none⟩)) ?_
 have qB8:=Blk.new qw4 (cnCells {R with pa:=some ⟨q2,0,none⟩,pc:=p2}) 50
 have qg9:=(Since.refl qw4).alloc (.cells (cnCells {R with pa:=some ⟨q2,0,none⟩,pc:=p2}) 50)
 replace qB2:=qB2.since qg9
 replace qB5:=qB5.since qg9
 replace G:=G.trans qg9
 generalize qw4.alloc (.cells (cnCells {R with pa:=some ⟨q2,0,none⟩,pc:=p2}) 50)=qw7 at qB2 qB5 G qB8 qg9 ⊢
 have qB8_l:=qB8.lt
 have qg9_s:=qg9.size
 refine vW (qw7.alloc (.cells #[.int .i64 0,.string ByteArray.empty,.bool false,.int .i64 0,.int .i64 0,.string ByteArray.empty,.bool false,.int .i64 0] 42)) (.pointer (some ⟨qw7.heap.size,0,none⟩)) ?_
 have qB11:=Blk.new qw7 #[.int .i64 0,.string ByteArray.empty,.bool false,.int .i64 0,.int .i64 0,.string ByteArray.empty,.bool false,.int .i64 0] 42
 have qg12:=(Since.refl qw7).alloc (.cells #[.int .i64 0,.string ByteArray.empty,.bool false,.int .i64 0,.int .i64 0,.string ByteArray.empty,.bool false,.int .i64 0] 42)
 replace qB2:=qB2.since qg12
 replace qB5:=qB5.since qg12
 replace qB8:=qB8.since qg12
 replace G:=G.trans qg12
 generalize qw7.alloc (.cells #[.int .i64 0,.string ByteArray.empty,.bool false,.int .i64 0,.int .i64 0,.string ByteArray.empty,.bool false,.int .i64 0] 42)=qw10 at qB2 qB5 qB8 G qB11 qg12 ⊢
 have qB11_l:=qB11.lt
 have qg12_s:=qg12.size
 refine vW (qw10.alloc (.cells (cnCells cnZero) 50)) (.pointer (some ⟨qw10.heap.size,0,none⟩)) ?_
 have qB14:=Blk.new qw10 (cnCells cnZero) 50
 have qg15:=(Since.refl qw10).alloc (.cells (cnCells cnZero) 50)
 replace qB2:=qB2.since qg15
 replace qB5:=qB5.since qg15
 replace qB8:=qB8.since qg15
 replace qB11:=qB11.since qg15
 replace G:=G.trans qg15
 generalize qw10.alloc (.cells (cnCells cnZero) 50)=qw13 at qB2 qB5 qB8 qB11 G qB14 qg15 ⊢
 have qB14_l:=qB14.lt
 have qg15_s:=qg15.size
 refine vW (qw13.alloc (.cells (cnCells cnZero) 50)) (.pointer (some ⟨qw13.heap.size,0,none⟩)) ?_
 have qB17:=Blk.new qw13 (cnCells cnZero) 50
 have qg18:=(Since.refl qw13).alloc (.cells (cnCells cnZero) 50)
 replace qB2:=qB2.since qg18
 replace qB5:=qB5.since qg18
 replace qB8:=qB8.since qg18
 replace qB11:=qB11.since qg18
 replace qB14:=qB14.since qg18
 replace G:=G.trans qg18
 generalize qw13.alloc (.cells (cnCells cnZero) 50)=qw16 at qB2 qB5 qB8 qB11 qB14 G qB17 qg18 ⊢
 have qB17_l:=qB17.lt
 have qg18_s:=qg18.size
 refine vV (.slice none 0 0) ?_
 refine vV (.slice none 0 0) ?_
 refine vE #[.agg #[.int .i64 r,.string d,.bool e,.int .i64 n,.int .i64 sr,.string sd,.bool se,.int .i64 sn],.agg (cnCells {L with pa:=some ⟨q,0,none⟩,pc:=p}),.agg (cnCells {R with pa:=some ⟨q2,0,none⟩,pc:=p2}),pX w.heap.size 0,pX qw1.heap.size 0,pX qw4.heap.size 0,pX qw7.heap.size 0,pX qw10.heap.size 0,pX qw13.heap.size 0,.slice none 0 0,.slice none 0 0,U,U,U,U,U,U,U,U,U,U,U,U,U,U,U,U,U,U,U,U,U,U,U,U,U,U,U,U,U,U,U,U,U,U,U,U,U,U,U,U,U] ?_
 generalize (.agg #[.int .i64 r,.string d,.bool e,.int .i64 n,.int .i64 sr,.string sd,.bool se,.int .i64 sn]:Value)=qz19
 generalize (.agg (cnCells {L with pa:=some ⟨q,0,none⟩,pc:=p}):Value)=qz20
 generalize (.agg (cnCells {R with pa:=some ⟨q2,0,none⟩,pc:=p2}):Value)=qz21
 go_upto_region 1 with (fail)
 refine vR ?_
 refine vB rl_big qB2 rfl ?_
 refine vB cn_big qB5 (cn_size _) ?_
 refine vB cn_big qB8 (cn_size _) ?_
 refine vC (hjo _ (RL.since G) (RR.since G)) ?_
 rintro _ qw22 ⟨j,g1,c1,g2,c2,ga,gb,rfl,E,⟨A1,A2,A3,A4⟩,⟨hj0,hj1,hj2,hj3,hj4,hd12,hdab⟩,qg23⟩
 refine ⟨_,rfl,?_⟩
 replace qB2:=qB2.since qg23
 replace qB5:=qB5.since qg23
 replace qB8:=qB8.since qg23
 replace qB11:=qB11.since qg23
 replace qB14:=qB14.since qg23
 replace qB17:=qB17.since qg23
 replace G:=G.trans qg23
 have qg23_s:=qg23.size
 have E_l:=E.lt
 have A1_0:=A1.low'
 replace A1:=A1.raise (show w.heap.size≤g1 by omega)
 have A1_1:=A1.lt
 have A2_0:=A2.low'
 replace A2:=A2.raise (show w.heap.size≤g2 by omega)
 have A2_1:=A2.lt
 have A3_0:=A3.low'
 replace A3:=A3.raise (show w.heap.size≤ga by omega)
 have A3_1:=A3.lt
 have A4_0:=A4.low'
 replace A4:=A4.raise (show w.heap.size≤gb by omega)
 have A4_1:=A4.lt
 refine vV (.pointer (some ⟨j,0,none⟩)) ?_
 refine vE #[qz19,qz20,qz21,pX w.heap.size 0,pX qw1.heap.size 0,pX qw4.heap.size 0,pX qw7.heap.size 0,pX qw10.heap.size 0,pX qw13.heap.size 0,.slice none 0 0,.slice none 0 0,pX j 0,.agg #[.int .i64 r,.string d,.bool e,.int .i64 n,.int .i64 sr,.string sd,.bool se,.int .i64 sn],.agg (cnCells {L with pa:=some ⟨q,0,none⟩,pc:=p}),.agg (cnCells {R with pa:=some ⟨q2,0,none⟩,pc:=p2}),pX j 0,U,U,U,U,U,U,U,U,U,U,U,U,U,U,U,U,U,U,U,U,U,U,U,U,U,U,U,U,U,U,U,U,U,U,U,U] ?_
 generalize (.agg #[.int .i64 r,.string d,.bool e,.int .i64 n,.int .i64 sr,.string sd,.bool se,.int .i64 sn]:Value)=qz24
 generalize (.agg (cnCells {L with pa:=some ⟨q,0,none⟩,pc:=p}):Value)=qz25
 generalize (.agg (cnCells {R with pa:=some ⟨q2,0,none⟩,pc:=p2}):Value)=qz26
 go_upto_region 2 with (fail)
 refine vR ?_
 refine vKey (T:=Value×Value×Value×Value×Value×Value×Value×Value×Value×Value×Value×Value×Value×Value×Value×Value) (fun t=>#[qz19,qz20,qz21,.pointer (some ⟨w.heap.size,0,none⟩),.pointer (some ⟨qw1.heap.size,0,none⟩),.pointer (some ⟨qw4.heap.size,0,none⟩),.pointer (some ⟨qw7.heap.size,0,none⟩),.pointer (some ⟨qw10.heap.size,0,none⟩),.pointer (some ⟨qw13.heap.size,0,none⟩),.slice none 0 0,.slice none 0 0,.pointer (some ⟨j,0,none⟩),qz24,qz25,qz26,.pointer (some ⟨j,0,none⟩),t.1,t.2.1,t.2.2.1,t.2.2.2.1,t.2.2.2.2.1,t.2.2.2.2.2.1,t.2.2.2.2.2.2.1,t.2.2.2.2.2.2.2.1,t.2.2.2.2.2.2.2.2.1,t.2.2.2.2.2.2.2.2.2.1,t.2.2.2.2.2.2.2.2.2.2.1,t.2.2.2.2.2.2.2.2.2.2.2.1,t.2.2.2.2.2.2.2.2.2.2.2.2.1,t.2.2.2.2.2.2.2.2.2.2.2.2.2.1,t.2.2.2.2.2.2.2.2.2.2.2.2.2.2.1,.bool false,undef,undef,undef,undef,undef,undef,undef,undef,undef,undef,undef,undef,undef,undef,undef,undef,undef,undef,undef,undef]) ?_ (fun key=>?_)
 rotate_left
 ·have RL2:=RL.since G
  have RR2:=RR.since G
  have G:=Since.refl qw22
  replace key:Hid _:=key
  cases e1:pipeOk r d n
  case false=>
   rw [e1] at hk1
   refine vV (.pointer (some ⟨w.heap.size,0,none⟩)) ?_
   refine vP pp_big qB2 0 [.int .i64 r,.string d,.bool e,.int .i64 n] ?_
   refine vK (hk1 _) ?_
   intro qw27 qg28
   replace qB2:=qB2.since qg28
   replace qB5:=qB5.since qg28
   replace qB8:=qB8.since qg28
   replace G:=G.trans qg28
   have qg28_s:=qg28.size
   refine vV (.bool false) ?_
   refine vS ?_
   refine vS ?_
   refine vS ?_
   refine vV (.bool false) ?_
   refine vV (.bool false) ?_
   refine vS ?_
   refine vS ?_
   refine vV (.bool false) ?_
   refine vV (.bool false) ?_
   refine vS ?_
   refine vS ?_
   refine vV (.bool false) ?_
   refine vF #[qz19,qz20,qz21,.pointer (some ⟨w.heap.size,0,none⟩),.pointer (some ⟨qw1.heap.size,0,none⟩),.pointer (some ⟨qw4.heap.size,0,none⟩),.pointer (some ⟨qw7.heap.size,0,none⟩),.pointer (some ⟨qw10.heap.size,0,none⟩),.pointer (some ⟨qw13.heap.size,0,none⟩),.slice none 0 0,.slice none 0 0,.pointer (some ⟨j,0,none⟩),qz24,qz25,qz26,.pointer (some ⟨j,0,none⟩),.pointer (some ⟨w.heap.size,0,none⟩),.agg #[.int .i64 r,.string d,.bool e,.int .i64 n],.bool false,.bool false,U,U,U,.bool false,.bool false,U,U,.bool false,.bool false,U,U,.bool false,U,U,U,U,U,U,U,U,U,U,U,U,U,U,U,U,U,U,U,U] ?_
   exact key.out (.pointer (some ⟨w.heap.size,0,none⟩),.agg #[.int .i64 r,.string d,.bool e,.int .i64 n],.bool false,.bool false,undef,undef,undef,.bool false,.bool false,undef,undef,.bool false,.bool false,undef,undef,undef) _ G
  case true=>
  rw [e1] at hk1
  cases e2:pipeOk sr sd sn
  case false=>
   rw [e2] at hk2
   refine vV (.pointer (some ⟨w.heap.size,0,none⟩)) ?_
   refine vP pp_big qB2 0 [.int .i64 r,.string d,.bool e,.int .i64 n] ?_
   refine vK (hk1 _) ?_
   intro qw27 qg28
   replace qB2:=qB2.since qg28
   replace qB5:=qB5.since qg28
   replace qB8:=qB8.since qg28
   replace G:=G.trans qg28
   have qg28_s:=qg28.size
   refine vV (.bool true) ?_
   refine vV (.pointer (some ⟨w.heap.size,4,none⟩)) ?_
   refine vP pp_big qB2 4 [.int .i64 sr,.string sd,.bool se,.int .i64 sn] ?_
   refine vK (hk2 _) ?_
   intro qw29 qg30
   replace qB2:=qB2.since qg30
   replace qB5:=qB5.since qg30
   replace qB8:=qB8.since qg30
   replace G:=G.trans qg30
   have qg30_s:=qg30.size
   refine vV (.bool false) ?_
   refine vV (.bool false) ?_
   refine vS ?_
   refine vS ?_
   refine vV (.bool false) ?_
   refine vV (.bool false) ?_
   refine vS ?_
   refine vS ?_
   refine vV (.bool false) ?_
   refine vF #[qz19,qz20,qz21,.pointer (some ⟨w.heap.size,0,none⟩),.pointer (some ⟨qw1.heap.size,0,none⟩),.pointer (some ⟨qw4.heap.size,0,none⟩),.pointer (some ⟨qw7.heap.size,0,none⟩),.pointer (some ⟨qw10.heap.size,0,none⟩),.pointer (some ⟨qw13.heap.size,0,none⟩),.slice none 0 0,.slice none 0 0,.pointer (some ⟨j,0,none⟩),qz24,qz25,qz26,.pointer (some ⟨j,0,none⟩),.pointer (some ⟨w.heap.size,0,none⟩),.agg #[.int .i64 r,.string d,.bool e,.int .i64 n],.bool true,.bool true,.pointer (some ⟨w.heap.size,4,none⟩),.agg #[.int .i64 sr,.string sd,.bool se,.int .i64 sn],.bool false,.bool false,.bool false,U,U,.bool false,.bool false,U,U,.bool false,U,U,U,U,U,U,U,U,U,U,U,U,U,U,U,U,U,U,U,U] ?_
   exact key.out (.pointer (some ⟨w.heap.size,0,none⟩),.agg #[.int .i64 r,.string d,.bool e,.int .i64 n],.bool true,.bool true,.pointer (some ⟨w.heap.size,4,none⟩),.agg #[.int .i64 sr,.string sd,.bool se,.int .i64 sn],.bool false,.bool false,.bool false,undef,undef,.bool false,.bool false,undef,undef,undef) _ G
  case true=>
  rw [e2] at hk2
  cases e3:connOk L ps
  case false=>
   rw [e3] at hk3
   refine vV (.pointer (some ⟨w.heap.size,0,none⟩)) ?_
   refine vP pp_big qB2 0 [.int .i64 r,.string d,.bool e,.int .i64 n] ?_
   refine vK (hk1 _) ?_
   intro qw27 qg28
   replace qB2:=qB2.since qg28
   replace qB5:=qB5.since qg28
   replace qB8:=qB8.since qg28
   replace G:=G.trans qg28
   have qg28_s:=qg28.size
   refine vV (.bool true) ?_
   refine vV (.pointer (some ⟨w.heap.size,4,none⟩)) ?_
   refine vP pp_big qB2 4 [.int .i64 sr,.string sd,.bool se,.int .i64 sn] ?_
   refine vK (hk2 _) ?_
   intro qw29 qg30
   replace qB2:=qB2.since qg30
   replace qB5:=qB5.since qg30
   replace qB8:=qB8.since qg30
   replace G:=G.trans qg30
   have qg30_s:=qg30.size
   refine vV (.bool true) ?_
   refine vV (.bool true) ?_
   refine vB cn_big qB5 (cn_size _) ?_
   refine vK (hk3 _ (RL2.since G)) ?_
   intro qw31 qg32
   replace qB2:=qB2.since qg32
   replace qB5:=qB5.since qg32
   replace qB8:=qB8.since qg32
   replace G:=G.trans qg32
   have qg32_s:=qg32.size
   refine vV (.bool false) ?_
   refine vV (.bool false) ?_
   refine vS ?_
   refine vS ?_
   refine vV (.bool false) ?_
   refine vF #[qz19,qz20,qz21,.pointer (some ⟨w.heap.size,0,none⟩),.pointer (some ⟨qw1.heap.size,0,none⟩),.pointer (some ⟨qw4.heap.size,0,none⟩),.pointer (some ⟨qw7.heap.size,0,none⟩),.pointer (some ⟨qw10.heap.size,0,none⟩),.pointer (some ⟨qw13.heap.size,0,none⟩),.slice none 0 0,.slice none 0 0,.pointer (some ⟨j,0,none⟩),qz24,qz25,qz26,.pointer (some ⟨j,0,none⟩),.pointer (some ⟨w.heap.size,0,none⟩),.agg #[.int .i64 r,.string d,.bool e,.int .i64 n],.bool true,.bool true,.pointer (some ⟨w.heap.size,4,none⟩),.agg #[.int .i64 sr,.string sd,.bool se,.int .i64 sn],.bool true,.bool true,.bool true,.agg (cnCells {L with pa:=some ⟨q,0,none⟩,pc:=p}),.bool false,.bool false,.bool false,U,U,.bool false,U,U,U,U,U,U,U,U,U,U,U,U,U,U,U,U,U,U,U,U] ?_
   exact key.out (.pointer (some ⟨w.heap.size,0,none⟩),.agg #[.int .i64 r,.string d,.bool e,.int .i64 n],.bool true,.bool true,.pointer (some ⟨w.heap.size,4,none⟩),.agg #[.int .i64 sr,.string sd,.bool se,.int .i64 sn],.bool true,.bool true,.bool true,.agg (cnCells {L with pa:=some ⟨q,0,none⟩,pc:=p}),.bool false,.bool false,.bool false,undef,undef,undef) _ G
  case true=>
  rw [e3] at hk3
  cases e4:connOk R qs
  case false=>
   rw [e4] at hk4
   refine vV (.pointer (some ⟨w.heap.size,0,none⟩)) ?_
   refine vP pp_big qB2 0 [.int .i64 r,.string d,.bool e,.int .i64 n] ?_
   refine vK (hk1 _) ?_
   intro qw27 qg28
   replace qB2:=qB2.since qg28
   replace qB5:=qB5.since qg28
   replace qB8:=qB8.since qg28
   replace G:=G.trans qg28
   have qg28_s:=qg28.size
   refine vV (.bool true) ?_
   refine vV (.pointer (some ⟨w.heap.size,4,none⟩)) ?_
   refine vP pp_big qB2 4 [.int .i64 sr,.string sd,.bool se,.int .i64 sn] ?_
   refine vK (hk2 _) ?_
   intro qw29 qg30
   replace qB2:=qB2.since qg30
   replace qB5:=qB5.since qg30
   replace qB8:=qB8.since qg30
   replace G:=G.trans qg30
   have qg30_s:=qg30.size
   refine vV (.bool true) ?_
   refine vV (.bool true) ?_
   refine vB cn_big qB5 (cn_size _) ?_
   refine vK (hk3 _ (RL2.since G)) ?_
   intro qw31 qg32
   replace qB2:=qB2.since qg32
   replace qB5:=qB5.since qg32
   replace qB8:=qB8.since qg32
   replace G:=G.trans qg32
   have qg32_s:=qg32.size
   refine vV (.bool true) ?_
   refine vV (.bool true) ?_
   refine vB cn_big qB8 (cn_size _) ?_
   refine vK (hk4 _ (RR2.since G)) ?_
   intro qw33 qg34
   replace qB2:=qB2.since qg34
   replace qB5:=qB5.since qg34
   replace qB8:=qB8.since qg34
   replace G:=G.trans qg34
   have qg34_s:=qg34.size
   refine vV (.bool false) ?_
   refine vF #[qz19,qz20,qz21,.pointer (some ⟨w.heap.size,0,none⟩),.pointer (some ⟨qw1.heap.size,0,none⟩),.pointer (some ⟨qw4.heap.size,0,none⟩),.pointer (some ⟨qw7.heap.size,0,none⟩),.pointer (some ⟨qw10.heap.size,0,none⟩),.pointer (some ⟨qw13.heap.size,0,none⟩),.slice none 0 0,.slice none 0 0,.pointer (some ⟨j,0,none⟩),qz24,qz25,qz26,.pointer (some ⟨j,0,none⟩),.pointer (some ⟨w.heap.size,0,none⟩),.agg #[.int .i64 r,.string d,.bool e,.int .i64 n],.bool true,.bool true,.pointer (some ⟨w.heap.size,4,none⟩),.agg #[.int .i64 sr,.string sd,.bool se,.int .i64 sn],.bool true,.bool true,.bool true,.agg (cnCells {L with pa:=some ⟨q,0,none⟩,pc:=p}),.bool true,.bool true,.bool true,.agg (cnCells {R with pa:=some ⟨q2,0,none⟩,pc:=p2}),.bool false,.bool false,U,U,U,U,U,U,U,U,U,U,U,U,U,U,U,U,U,U,U,U] ?_
   exact key.out (.pointer (some ⟨w.heap.size,0,none⟩),.agg #[.int .i64 r,.string d,.bool e,.int .i64 n],.bool true,.bool true,.pointer (some ⟨w.heap.size,4,none⟩),.agg #[.int .i64 sr,.string sd,.bool se,.int .i64 sn],.bool true,.bool true,.bool true,.agg (cnCells {L with pa:=some ⟨q,0,none⟩,pc:=p}),.bool true,.bool true,.bool true,.agg (cnCells {R with pa:=some ⟨q2,0,none⟩,pc:=p2}),.bool false,undef) _ G
  case true=>
  rw [e4] at hk4
  exact absurd hno.out (by rw [e1,e2,e3,e4];decide)
 intro t qw27 hS
 replace qB2:=qB2.since hS
 replace qB5:=qB5.since hS
 replace qB8:=qB8.since hS
 replace qB11:=qB11.since hS
 replace qB14:=qB14.since hS
 replace qB17:=qB17.since hS
 replace E:=E.since hS
 replace A1:=A1.since hS
 replace A2:=A2.since hS
 replace A3:=A3.since hS
 replace A4:=A4.since hS
 replace G:=G.trans hS
 have hS_s:=hS.size
 clear hS
 obtain ⟨z16,t⟩:=t
 obtain ⟨z17,t⟩:=t
 obtain ⟨z18,t⟩:=t
 obtain ⟨z19,t⟩:=t
 obtain ⟨z20,t⟩:=t
 obtain ⟨z21,t⟩:=t
 obtain ⟨z22,t⟩:=t
 obtain ⟨z23,t⟩:=t
 obtain ⟨z24,t⟩:=t
 obtain ⟨z25,t⟩:=t
 obtain ⟨z26,t⟩:=t
 obtain ⟨z27,t⟩:=t
 obtain ⟨z28,t⟩:=t
 obtain ⟨z29,t⟩:=t
 obtain ⟨z30,t⟩:=t
 refine vE #[qz19,qz20,qz21,pX w.heap.size 0,pX qw1.heap.size 0,pX qw4.heap.size 0,pX qw7.heap.size 0,pX qw10.heap.size 0,pX qw13.heap.size 0,.slice none 0 0,.slice none 0 0,pX j 0,qz24,qz25,qz26,pX j 0,z16,z17,z18,z19,z20,z21,z22,z23,z24,z25,z26,z27,z28,z29,z30,.bool false,U,U,U,U,U,U,U,U,U,U,U,U,U,U,U,U,U,U,U,U] ?_
 go_upto_region 4 with (fail)
 clear qB2 qB5 qB8
 have o_w:w.heap.size≤qw7.heap.size:=by omega
 have o_t0:qw7.heap.size<qw10.heap.size:=by omega
 have o_t1:qw10.heap.size<qw13.heap.size:=by omega
 have o_x0:qw13.heap.size<j:=by omega
 have o_y0:j<qw27.heap.size:=by omega
 have o_x1:qw13.heap.size<g1:=by omega
 have o_y1:g1<qw27.heap.size:=by omega
 have o_x2:qw13.heap.size<g2:=by omega
 have o_y2:g2<qw27.heap.size:=by omega
 have o_x3:qw13.heap.size<ga:=by omega
 have o_y3:ga<qw27.heap.size:=by omega
 have o_x4:qw13.heap.size<gb:=by omega
 have o_y4:gb<qw27.heap.size:=by omega
 have o_n:qw13.heap.size<qw27.heap.size:=by omega
 try clear qB2_l
 try clear qg3_s
 try clear qB5_l
 try clear qg6_s
 try clear qB8_l
 try clear qg9_s
 try clear qB11_l
 try clear qg12_s
 try clear qB14_l
 try clear qg15_s
 try clear qB17_l
 try clear qg18_s
 try clear qg23_s
 try clear E_l
 try clear A1_0
 try clear A1_1
 try clear A2_0
 try clear A2_1
 try clear A3_0
 try clear A3_1
 try clear A4_0
 try clear A4_1
 try clear qg28_s
 try clear qg30_s
 try clear qg32_s
 try clear qg34_s
 try clear hS_s
 refine wp_region_low (Low (fun b=>b=qw7.heap.size∨b=qw10.heap.size∨b=qw13.heap.size)) (fun i x v=>match i with
   | 0=>v=.pointer (some ⟨j,0,none⟩)
   | 1=>v=.agg #[.int .i64 r,.string d,.bool e,.int .i64 n,.int .i64 sr,.string sd,.bool se,.int .i64 sn]
   | 2=>v=.pointer (some ⟨j,0,none⟩)
   | 3=>v=.pointer (some ⟨j,0,none⟩)
   | 4=>v=.pointer (some ⟨j,10,none⟩)
   | 5=>v=.agg (cnCells {L with pa:=some ⟨g1,0,none⟩,pc:=c1})
   | 6=>v=.pointer (some ⟨j,0,none⟩)
   | 7=>v=.pointer (some ⟨j,0,none⟩)
   | 8=>v=.pointer (some ⟨j,47,none⟩)
   | 9=>v=.agg (cnCells {R with pa:=some ⟨g2,0,none⟩,pc:=c2})
   | 10=>v=.pointer (some ⟨j,0,none⟩)
   | 11=>v=.pointer (some ⟨j,0,none⟩)
   | 12=>v=.pointer (some ⟨j,84,none⟩)
   | 13=>v=.slice (some ⟨ga,0,none⟩) 0 0
   | 14=>v=.pointer (some ⟨j,0,none⟩)
   | 15=>v=.pointer (some ⟨j,0,none⟩)
   | 16=>v=.pointer (some ⟨j,85,none⟩)
   | 17=>v=.slice (some ⟨gb,0,none⟩) 0 0
   | 18=>True
   | 19=>True
   | 20=>True
   | 21=>v=.slice (some ⟨ga,0,none⟩) 0 0
   | 22=>v=.slice (some ⟨gb,0,none⟩) 0 0
   | _=>True) (fun f vals x=>Blk qw7.heap.size x (if f 18 then #[.int .i64 r,.string d,.bool e,.int .i64 n,.int .i64 sr,.string sd,.bool se,.int .i64 sn] else #[.int .i64 0,.string ByteArray.empty,.bool false,.int .i64 0,.int .i64 0,.string ByteArray.empty,.bool false,.int .i64 0])∧Blk qw10.heap.size x (if f 19 then (cnCells {L with pa:=some ⟨g1,0,none⟩,pc:=c1}) else (cnCells cnZero))∧Blk qw13.heap.size x (if f 20 then (cnCells {R with pa:=some ⟨g2,0,none⟩,pc:=c2}) else (cnCells cnZero))∧Blk j x (jnCells ⟨0,0,r,d,e,n,sr,sd,se,sn,{L with pa:=some ⟨g1,0,none⟩,pc:=c1},{R with pa:=some ⟨g2,0,none⟩,pc:=c2},some ⟨ga,0,none⟩,0,0,some ⟨gb,0,none⟩,0,0⟩)∧Held shP x w.heap.size g1 L.pn c1 ps∧Held shP x w.heap.size g2 R.pn c2 qs∧Held shG x w.heap.size ga 0 0 ([]:List Sg)∧Held shG x w.heap.size gb 0 0 ([]:List Sg)∧qw27.heap.size≤x.heap.size∧Since w x) (fun v=>{tmps:=#[qz19,qz20,qz21,.pointer (some ⟨w.heap.size,0,none⟩),.pointer (some ⟨qw1.heap.size,0,none⟩),.pointer (some ⟨qw4.heap.size,0,none⟩),.pointer (some ⟨qw7.heap.size,0,none⟩),.pointer (some ⟨qw10.heap.size,0,none⟩),.pointer (some ⟨qw13.heap.size,0,none⟩),v 21,v 22,.pointer (some ⟨j,0,none⟩),qz24,qz25,qz26,.pointer (some ⟨j,0,none⟩),z16,z17,z18,z19,z20,z21,z22,z23,z24,z25,z26,z27,z28,z29,z30,.bool false,undef,undef,v 0,v 1,v 2,v 3,v 4,v 5,v 6,v 7,v 8,v 9,v 10,v 11,v 12,v 13,v 14,v 15,v 16,v 17],defers:=[]}) (by kernel_rfl) (by kernel_rfl) ?_ ?_ (fun vals=>by kernel_rfl) ?_ ?_
 case refine_1=>
  intro j x y v hl hv
  match j,hv with
  | 0,hv|1,hv|2,hv|3,hv|4,hv|5,hv|6,hv|7,hv|8,hv|9,hv|10,hv|11,hv|12,hv|13,hv|14,hv|15,hv|16,hv|17,hv|21,hv|22,hv=>exact hv
  | 18,hv|19,hv|20,hv=>trivial
  | n+23,_=>trivial
 case refine_2=>
  intro f vals hf
  refine ⟨(by rw [hf 18];exact qB11.since ((Since.refl _).drew)),(by rw [hf 19];exact qB14.since ((Since.refl _).drew)),(by rw [hf 20];exact qB17.since ((Since.refl _).drew)),E.since ((Since.refl _).drew),A1.since ((Since.refl _).drew),A2.since ((Since.refl _).drew),A3.since ((Since.refl _).drew),A4.since ((Since.refl _).drew),((Since.refl _).drew).size,G.trans ((Since.refl _).drew)⟩
 case refine_3=>
  repeat (first|exact eachLow_nil|refine eachLow_cons ?_ ?_)
  all_goals intro f vals x hf hr hK
  all_goals obtain ⟨k0,k1,k2,k3,k4,k5,k6,k7,k8,k9⟩:=hK
  ·have e17:vals 17=.slice (some ⟨gb,0,none⟩) 0 0:=(hr ⟨17,.data⟩ (by simp) rfl).2
   simp [does,doesUpon,go_sem,e17]
   exact ⟨Low.since (b:=qw7.heap.size) (Since.refl _) (Or.inl rfl),⟨k0,k1,k2,k3,k4,k5,k6,k7,k8,k9⟩⟩
  ·have e13:vals 13=.slice (some ⟨ga,0,none⟩) 0 0:=(hr ⟨13,.data⟩ (by simp) rfl).2
   simp [does,doesUpon,go_sem,e13]
   exact ⟨Low.since (b:=qw7.heap.size) (Since.refl _) (Or.inl rfl),⟨k0,k1,k2,k3,k4,k5,k6,k7,k8,k9⟩⟩
  ·have ev:vals 9=.agg (cnCells {R with pa:=some ⟨g2,0,none⟩,pc:=c2}):=(hr ⟨9,.data⟩ (by simp) rfl).2
   have kz:Blk qw13.heap.size x (cnCells cnZero):=by have:=k2;rw [hf] at this;exact this
   refine does_store cn_big (cn_size _) (Raw.of kz (cn_size _)) (cn_one _) _ _ rfl rfl ev ?_
   intro z t B
   exact ⟨Low.touch t (show qw13.heap.size=qw7.heap.size∨qw13.heap.size=qw10.heap.size∨qw13.heap.size=qw13.heap.size by omega),⟨k0.touch t (by omega),k1.touch t (by omega),B,k3.touch t (by omega),k4.touch t (by omega),k5.touch t (by omega),k6.touch t (by omega),k7.touch t (by omega),Nat.le_trans k8 t.size,since_touch k9 t (by omega)⟩,trivial⟩
  ·have ev:vals 5=.agg (cnCells {L with pa:=some ⟨g1,0,none⟩,pc:=c1}):=(hr ⟨5,.data⟩ (by simp) rfl).2
   have kz:Blk qw10.heap.size x (cnCells cnZero):=by have:=k1;rw [hf] at this;exact this
   refine does_store cn_big (cn_size _) (Raw.of kz (cn_size _)) (cn_one _) _ _ rfl rfl ev ?_
   intro z t B
   exact ⟨Low.touch t (show qw10.heap.size=qw7.heap.size∨qw10.heap.size=qw10.heap.size∨qw10.heap.size=qw13.heap.size by omega),⟨k0.touch t (by omega),B,k2.touch t (by omega),k3.touch t (by omega),k4.touch t (by omega),k5.touch t (by omega),k6.touch t (by omega),k7.touch t (by omega),Nat.le_trans k8 t.size,since_touch k9 t (by omega)⟩,trivial⟩
  ·have ev:vals 1=.agg #[.int .i64 r,.string d,.bool e,.int .i64 n,.int .i64 sr,.string sd,.bool se,.int .i64 sn]:=(hr ⟨1,.data⟩ (by simp) rfl).2
   have kz:Blk qw7.heap.size x #[.int .i64 0,.string ByteArray.empty,.bool false,.int .i64 0,.int .i64 0,.string ByteArray.empty,.bool false,.int .i64 0]:=by have:=k0;rw [hf] at this;exact this
   refine does_store rl_big rfl (Raw.of kz rfl) (by simp [Value.oneCell']) _ _ rfl rfl ev ?_
   intro z t B
   exact ⟨Low.touch t (show qw7.heap.size=qw7.heap.size∨qw7.heap.size=qw10.heap.size∨qw7.heap.size=qw13.heap.size by omega),⟨B,k1.touch t (by omega),k2.touch t (by omega),k3.touch t (by omega),k4.touch t (by omega),k5.touch t (by omega),k6.touch t (by omega),k7.touch t (by omega),Nat.le_trans k8 t.size,since_touch k9 t (by omega)⟩,trivial⟩
  ·have e16:vals 16=.pointer (some ⟨j,85,none⟩):=(hr ⟨16,.data⟩ (by simp) rfl).2
   have fl:x.cell? ⟨j,85,none⟩=some (.slice (some ⟨gb,0,none⟩) 0 0):=(k3.cell 85).trans (jn_tl _ 1 _ rfl)
   simp [does,doesUpon,go_sem,e16,fl]
   exact ⟨Low.since (b:=qw7.heap.size) (Since.refl _) (Or.inl rfl),⟨k0,k1,k2,k3,k4,k5,k6,k7,k8,k9⟩⟩
  ·have e15:vals 15=.pointer (some ⟨j,0,none⟩):=(hr ⟨15,.data⟩ (by simp) rfl).2
   exact does_val (.pointer (some ⟨j,85,none⟩)) x (by simp only [e15];kernel_rfl) ⟨Low.since (b:=qw7.heap.size) (Since.refl _) (Or.inl rfl),⟨k0,k1,k2,k3,k4,k5,k6,k7,k8,k9⟩,rfl⟩
  ·have e14:vals 14=.pointer (some ⟨j,0,none⟩):=(hr ⟨14,.data⟩ (by simp) rfl).2
   simp [does,doesUpon,go_sem,e14]
   exact ⟨Low.since (b:=qw7.heap.size) (Since.refl _) (Or.inl rfl),⟨k0,k1,k2,k3,k4,k5,k6,k7,k8,k9⟩⟩
  ·skip
   simp [does,doesUpon,go_sem]
   exact ⟨Low.since (b:=qw7.heap.size) (Since.refl _) (Or.inl rfl),⟨k0,k1,k2,k3,k4,k5,k6,k7,k8,k9⟩⟩
  ·have e12:vals 12=.pointer (some ⟨j,84,none⟩):=(hr ⟨12,.data⟩ (by simp) rfl).2
   have fl:x.cell? ⟨j,84,none⟩=some (.slice (some ⟨ga,0,none⟩) 0 0):=(k3.cell 84).trans (jn_tl _ 0 _ rfl)
   simp [does,doesUpon,go_sem,e12,fl]
   exact ⟨Low.since (b:=qw7.heap.size) (Since.refl _) (Or.inl rfl),⟨k0,k1,k2,k3,k4,k5,k6,k7,k8,k9⟩⟩
  ·have e11:vals 11=.pointer (some ⟨j,0,none⟩):=(hr ⟨11,.data⟩ (by simp) rfl).2
   exact does_val (.pointer (some ⟨j,84,none⟩)) x (by simp only [e11];kernel_rfl) ⟨Low.since (b:=qw7.heap.size) (Since.refl _) (Or.inl rfl),⟨k0,k1,k2,k3,k4,k5,k6,k7,k8,k9⟩,rfl⟩
  ·have e10:vals 10=.pointer (some ⟨j,0,none⟩):=(hr ⟨10,.data⟩ (by simp) rfl).2
   simp [does,doesUpon,go_sem,e10]
   exact ⟨Low.since (b:=qw7.heap.size) (Since.refl _) (Or.inl rfl),⟨k0,k1,k2,k3,k4,k5,k6,k7,k8,k9⟩⟩
  ·skip
   simp [does,doesUpon,go_sem]
   exact ⟨Low.since (b:=qw7.heap.size) (Since.refl _) (Or.inl rfl),⟨k0,k1,k2,k3,k4,k5,k6,k7,k8,k9⟩⟩
  ·have e8:vals 8=.pointer (some ⟨j,47,none⟩):=(hr ⟨8,.data⟩ (by simp) rfl).2
   exact does_part_load k3 cn_big _ rfl 47 e8 (cnCells {R with pa:=some ⟨g2,0,none⟩,pc:=c2}).toList rfl (jn_R (⟨0,0,r,d,e,n,sr,sd,se,sn,{L with pa:=some ⟨g1,0,none⟩,pc:=c1},{R with pa:=some ⟨g2,0,none⟩,pc:=c2},some ⟨ga,0,none⟩,0,0,some ⟨gb,0,none⟩,0,0⟩:Jn)) ⟨Low.since (b:=qw7.heap.size) (Since.refl _) (Or.inl rfl),⟨k0,k1,k2,k3,k4,k5,k6,k7,k8,k9⟩,rfl⟩
  ·have e7:vals 7=.pointer (some ⟨j,0,none⟩):=(hr ⟨7,.data⟩ (by simp) rfl).2
   exact does_val (.pointer (some ⟨j,47,none⟩)) x (by simp only [e7];kernel_rfl) ⟨Low.since (b:=qw7.heap.size) (Since.refl _) (Or.inl rfl),⟨k0,k1,k2,k3,k4,k5,k6,k7,k8,k9⟩,rfl⟩
  ·have e6:vals 6=.pointer (some ⟨j,0,none⟩):=(hr ⟨6,.data⟩ (by simp) rfl).2
   simp [does,doesUpon,go_sem,e6]
   exact ⟨Low.since (b:=qw7.heap.size) (Since.refl _) (Or.inl rfl),⟨k0,k1,k2,k3,k4,k5,k6,k7,k8,k9⟩⟩
  ·skip
   simp [does,doesUpon,go_sem]
   exact ⟨Low.since (b:=qw7.heap.size) (Since.refl _) (Or.inl rfl),⟨k0,k1,k2,k3,k4,k5,k6,k7,k8,k9⟩⟩
  ·have e4:vals 4=.pointer (some ⟨j,10,none⟩):=(hr ⟨4,.data⟩ (by simp) rfl).2
   exact does_part_load k3 cn_big _ rfl 10 e4 (cnCells {L with pa:=some ⟨g1,0,none⟩,pc:=c1}).toList rfl (jn_L (⟨0,0,r,d,e,n,sr,sd,se,sn,{L with pa:=some ⟨g1,0,none⟩,pc:=c1},{R with pa:=some ⟨g2,0,none⟩,pc:=c2},some ⟨ga,0,none⟩,0,0,some ⟨gb,0,none⟩,0,0⟩:Jn)) ⟨Low.since (b:=qw7.heap.size) (Since.refl _) (Or.inl rfl),⟨k0,k1,k2,k3,k4,k5,k6,k7,k8,k9⟩,rfl⟩
  ·have e3:vals 3=.pointer (some ⟨j,0,none⟩):=(hr ⟨3,.data⟩ (by simp) rfl).2
   exact does_val (.pointer (some ⟨j,10,none⟩)) x (by simp only [e3];kernel_rfl) ⟨Low.since (b:=qw7.heap.size) (Since.refl _) (Or.inl rfl),⟨k0,k1,k2,k3,k4,k5,k6,k7,k8,k9⟩,rfl⟩
  ·have e2:vals 2=.pointer (some ⟨j,0,none⟩):=(hr ⟨2,.data⟩ (by simp) rfl).2
   simp [does,doesUpon,go_sem,e2]
   exact ⟨Low.since (b:=qw7.heap.size) (Since.refl _) (Or.inl rfl),⟨k0,k1,k2,k3,k4,k5,k6,k7,k8,k9⟩⟩
  ·skip
   simp [does,doesUpon,go_sem]
   exact ⟨Low.since (b:=qw7.heap.size) (Since.refl _) (Or.inl rfl),⟨k0,k1,k2,k3,k4,k5,k6,k7,k8,k9⟩⟩
  ·skip
   have e0:vals 0=.pointer (some ⟨j,0,none⟩):=(hr ⟨0,.data⟩ (by simp) rfl).2
   simp [does,doesUpon,go_sem,e0]
   refine (jRelay ⟨0,0,r,d,e,n,sr,sd,se,sn,{L with pa:=some ⟨g1,0,none⟩,pc:=c1},{R with pa:=some ⟨g2,0,none⟩,pc:=c2},some ⟨ga,0,none⟩,0,0,some ⟨gb,0,none⟩,0,0⟩ j _ k3).mono ?_
   rintro _ x' ⟨rfl,h1⟩
   exact ⟨_,rfl,Low.since (b:=qw7.heap.size) h1 (Or.inl rfl),⟨k0.since h1,k1.since h1,k2.since h1,k3.since h1,k4.since h1,k5.since h1,k6.since h1,k7.since h1,Nat.le_trans k8 h1.size,k9.trans h1⟩,rfl⟩
  ·skip
   simp [does,doesUpon,go_sem]
   exact ⟨Low.since (b:=qw7.heap.size) (Since.refl _) (Or.inl rfl),⟨k0,k1,k2,k3,k4,k5,k6,k7,k8,k9⟩⟩
 intro f qv29 qw28 hK hf hv
 obtain ⟨k0,k1,k2,k3,k4,k5,k6,k7,k8,k9⟩:=hK
 clear qB11 qB14 qB17 E A1 A2 A3 A4 G
 have hv0:qv29 0=_:=hv 0 (by decide)
 have hv1:qv29 1=_:=hv 1 (by decide)
 have hv2:qv29 2=_:=hv 2 (by decide)
 have hv3:qv29 3=_:=hv 3 (by decide)
 have hv4:qv29 4=_:=hv 4 (by decide)
 have hv5:qv29 5=_:=hv 5 (by decide)
 have hv6:qv29 6=_:=hv 6 (by decide)
 have hv7:qv29 7=_:=hv 7 (by decide)
 have hv8:qv29 8=_:=hv 8 (by decide)
 have hv9:qv29 9=_:=hv 9 (by decide)
 have hv10:qv29 10=_:=hv 10 (by decide)
 have hv11:qv29 11=_:=hv 11 (by decide)
 have hv12:qv29 12=_:=hv 12 (by decide)
 have hv13:qv29 13=_:=hv 13 (by decide)
 have hv14:qv29 14=_:=hv 14 (by decide)
 have hv15:qv29 15=_:=hv 15 (by decide)
 have hv16:qv29 16=_:=hv 16 (by decide)
 have hv17:qv29 17=_:=hv 17 (by decide)
 have hv21:qv29 21=_:=hv 21 (by decide)
 have hv22:qv29 22=_:=hv 22 (by decide)
 clear hv
 simp only [hv0,hv1,hv2,hv3,hv4,hv5,hv6,hv7,hv8,hv9,hv10,hv11,hv12,hv13,hv14,hv15,hv16,hv17,hv21,hv22]
 clear hv0 hv1 hv2 hv3 hv4 hv5 hv6 hv7 hv8 hv9 hv10 hv11 hv12 hv13 hv14 hv15 hv16 hv17 hv21 hv22
 have qB11:Blk qw7.heap.size qw28 #[.int .i64 r,.string d,.bool e,.int .i64 n,.int .i64 sr,.string sd,.bool se,.int .i64 sn]:=by have:=k0;rw [hf 18 (by decide)] at this;exact this
 clear k0
 have qB14:Blk qw10.heap.size qw28 (cnCells {L with pa:=some ⟨g1,0,none⟩,pc:=c1}):=by have:=k1;rw [hf 19 (by decide)] at this;exact this
 clear k1
 have qB17:Blk qw13.heap.size qw28 (cnCells {R with pa:=some ⟨g2,0,none⟩,pc:=c2}):=by have:=k2;rw [hf 20 (by decide)] at this;exact this
 clear k2
 have E:=k3
 clear k3
 have A1:=k4
 clear k4
 have A2:=k5
 clear k5
 have A3:=k6
 clear k6
 have A4:=k7
 clear k7
 have G:=k9
 clear k9
 have qw28_l:=E.lt
 have qw28_n:=k8
 clear k8
 go_wp2_with (fail)
 exact bodyPost_ret (results_5 (hs:=rfl) (t:=6) (u:=7) (v:=8) (x:=9) (y:=10) rfl _ rfl rfl rfl qB11 qB14 qB17) rfl (hidI ⟨_,_,_,_,_,_,_,_,_,_,_,rfl,by rw [ek.out];rfl,A1,A2,by rw [ek.out];exact A3,by rw [ek.out];exact A4,⟨hd12,hdab⟩,G⟩)

set_option maxRecDepth 20000 in
set_option maxHeartbeats 16000000 in
theorem implRy (r:Int) (d:ByteArray) (e:Bool) (n:Int) (sr:Int) (sd:ByteArray) (se:Bool) (sn:Int) (L:Cn) (ps:List (Int×ByteArray)) (R:Cn) (qs:List (Int×ByteArray)) (gL:GoodC L ps) (gR:GoodC R qs) (hd:d.size≤1048576) (hf:sd.size≤1048576) (q p q2 p2:Nat) (w:World) (RL:Rd shP w (some ⟨q,0,none⟩) L.pn ps) (RR:Rd shP w (some ⟨q2,0,none⟩) R.pn qs) (e1:pipeOk r d n=true) (e2:pipeOk sr sd sn=true) (e3:connOk L ps=true) (e4:connOk R qs=true) :
  Calls Tryz.prog 9 #[.agg #[.int .i64 r,.string d,.bool e,.int .i64 n,.int .i64 sr,.string sd,.bool se,.int .i64 sn],.agg (cnCells {L with pa:=some ⟨q,0,none⟩,pc:=p}),.agg (cnCells {R with pa:=some ⟨q2,0,none⟩,pc:=p2})] w fun x w'=>Hid (∃ (A:Rl) (g1 c1 g2 c2 ga ma ca gb mb cb:Nat),A=(rlAns (rlWay r d n sr sd sn L ps R qs) r d e n sr sd se sn L ps R qs)∧x=.returned (.tuple #[.agg #[.int .i64 r,.string A.d,.bool A.e,.int .i64 A.n,.int .i64 sr,.string A.f,.bool A.g,.int .i64 A.m],.agg (cnCells {A.L with pa:=some ⟨g1,0,none⟩,pc:=c1}),.agg (cnCells {A.R with pa:=some ⟨g2,0,none⟩,pc:=c2}),.slice (some ⟨ga,0,none⟩) ma ca,.slice (some ⟨gb,0,none⟩) mb cb])∧Held shP w' w.heap.size g1 L.pn c1 ps∧Held shP w' w.heap.size g2 R.pn c2 qs∧Held shG w' w.heap.size ga ma ca A.xa∧Held shG w' w.heap.size gb mb cb A.xb∧(g1≠g2∧ga≠gb)∧Since w w'):=by
 have hjo:=fun wx Rx Ry=>jOf r d e n sr sd se sn L ps R qs gL gR hd hf q p q2 p2 wx Rx Ry
 have hk1:=fun wx=>implPipeOk r d e n wx
 have hk2:=fun wx=>implPipeOk sr sd se sn wx
 unfold ppVal at hk1 hk2
 have hk3:=fun wx Rx=>iOk gL q p wx Rx
 have hk4:=fun wx Rx=>iOk gR q2 p2 wx Rx
 obtain ⟨kw,hkw⟩:∃ k,Hid (k=rlWay r d n sr sd sn L ps R qs):=⟨_,rfl⟩
 rw [← hkw.out]
 rw [e1] at hk1
 replace e1:Hid _:=e1
 rw [e2] at hk2
 replace e2:Hid _:=e2
 rw [e3] at hk3
 replace e3:Hid _:=e3
 rw [e4] at hk4
 replace e4:Hid _:=e4
 have G:=Since.refl w
 go_enter Tryz.func9,Tryz.ntmps9
 go_upto_region 0 with (fail)
 refine vR ?_
 refine vW (w.alloc (.cells #[.int .i64 r,.string d,.bool e,.int .i64 n,.int .i64 sr,.string sd,.bool se,.int .i64 sn] 42)) (.pointer (some ⟨w.heap.size,0,none⟩)) ?_
 have qB2:=Blk.new w #[.int .i64 r,.string d,.bool e,.int .i64 n,.int .i64 sr,.string sd,.bool se,.int .i64 sn] 42
 have qg3:=(Since.refl w).alloc (.cells #[.int .i64 r,.string d,.bool e,.int .i64 n,.int .i64 sr,.string sd,.bool se,.int .i64 sn] 42)
 replace G:=G.trans qg3
 generalize w.alloc (.cells #[.int .i64 r,.string d,.bool e,.int .i64 n,.int .i64 sr,.string sd,.bool se,.int .i64 sn] 42)=qw1 at  G qB2 qg3 ⊢
 have qB2_l:=qB2.lt
 have qg3_s:=qg3.size
 refine vW (qw1.alloc (.cells (cnCells {L with pa:=some ⟨q,0,none⟩,pc:=p}) 50)) (.pointer (some ⟨qw1.heap.size,0,none⟩)) ?_
 have qB5:=Blk.new qw1 (cnCells {L with pa:=some ⟨q,0,none⟩,pc:=p}) 50
 have qg6:=(Since.refl qw1).alloc (.cells (cnCells {L with pa:=some ⟨q,0,none⟩,pc:=p}) 50)
 replace qB2:=qB2.since qg6
 replace G:=G.trans qg6
 generalize qw1.alloc (.cells (cnCells {L with pa:=some ⟨q,0,none⟩,pc:=p}) 50)=qw4 at qB2 G qB5 qg6 ⊢
 have qB5_l:=qB5.lt
 have qg6_s:=qg6.size
 refine vW (qw4.alloc (.cells (cnCells {R with pa:=some ⟨q2,0,none⟩,pc:=p2}) 50)) (.pointer (some ⟨qw4.heap.size,0,none⟩)) ?_
 have qB8:=Blk.new qw4 (cnCells {R with pa:=some ⟨q2,0,none⟩,pc:=p2}) 50
 have qg9:=(Since.refl qw4).alloc (.cells (cnCells {R with pa:=some ⟨q2,0,none⟩,pc:=p2}) 50)
 replace qB2:=qB2.since qg9
 replace qB5:=qB5.since qg9
 replace G:=G.trans qg9
 generalize qw4.alloc (.cells (cnCells {R with pa:=some ⟨q2,0,none⟩,pc:=p2}) 50)=qw7 at qB2 qB5 G qB8 qg9 ⊢
 have qB8_l:=qB8.lt
 have qg9_s:=qg9.size
 refine vW (qw7.alloc (.cells #[.int .i64 0,.string ByteArray.empty,.bool false,.int .i64 0,.int .i64 0,.string ByteArray.empty,.bool false,.int .i64 0] 42)) (.pointer (some ⟨qw7.heap.size,0,none⟩)) ?_
 have qB11:=Blk.new qw7 #[.int .i64 0,.string ByteArray.empty,.bool false,.int .i64 0,.int .i64 0,.string ByteArray.empty,.bool false,.int .i64 0] 42
 have qg12:=(Since.refl qw7).alloc (.cells #[.int .i64 0,.string ByteArray.empty,.bool false,.int .i64 0,.int .i64 0,.string ByteArray.empty,.bool false,.int .i64 0] 42)
 replace qB2:=qB2.since qg12
 replace qB5:=qB5.since qg12
 replace qB8:=qB8.since qg12
 replace G:=G.trans qg12
 generalize qw7.alloc (.cells #[.int .i64 0,.string ByteArray.empty,.bool false,.int .i64 0,.int .i64 0,.string ByteArray.empty,.bool false,.int .i64 0] 42)=qw10 at qB2 qB5 qB8 G qB11 qg12 ⊢
 have qB11_l:=qB11.lt
 have qg12_s:=qg12.size
 refine vW (qw10.alloc (.cells (cnCells cnZero) 50)) (.pointer (some ⟨qw10.heap.size,0,none⟩)) ?_
 have qB14:=Blk.new qw10 (cnCells cnZero) 50
 have qg15:=(Since.refl qw10).alloc (.cells (cnCells cnZero) 50)
 replace qB2:=qB2.since qg15
 replace qB5:=qB5.since qg15
 replace qB8:=qB8.since qg15
 replace qB11:=qB11.since qg15
 replace G:=G.trans qg15
 generalize qw10.alloc (.cells (cnCells cnZero) 50)=qw13 at qB2 qB5 qB8 qB11 G qB14 qg15 ⊢
 have qB14_l:=qB14.lt
 have qg15_s:=qg15.size
 refine vW (qw13.alloc (.cells (cnCells cnZero) 50)) (.pointer (some ⟨qw13.heap.size,0,none⟩)) ?_
 have qB17:=Blk.new qw13 (cnCells cnZero) 50
 have qg18:=(Since.refl qw13).alloc (.cells (cnCells cnZero) 50)
 replace qB2:=qB2.since qg18
 replace qB5:=qB5.since qg18
 replace qB8:=qB8.since qg18
 replace qB11:=qB11.since qg18
 replace qB14:=qB14.since qg18
 replace G:=G.trans qg18
 generalize qw13.alloc (.cells (cnCells cnZero) 50)=qw16 at qB2 qB5 qB8 qB11 qB14 G qB17 qg18 ⊢
 have qB17_l:=qB17.lt
 have qg18_s:=qg18.size
 refine vV (.slice none 0 0) ?_
 refine vV (.slice none 0 0) ?_
 refine vE #[.agg #[.int .i64 r,.string d,.bool e,.int .i64 n,.int .i64 sr,.string sd,.bool se,.int .i64 sn],.agg (cnCells {L with pa:=some ⟨q,0,none⟩,pc:=p}),.agg (cnCells {R with pa:=some ⟨q2,0,none⟩,pc:=p2}),pX w.heap.size 0,pX qw1.heap.size 0,pX qw4.heap.size 0,pX qw7.heap.size 0,pX qw10.heap.size 0,pX qw13.heap.size 0,.slice none 0 0,.slice none 0 0,U,U,U,U,U,U,U,U,U,U,U,U,U,U,U,U,U,U,U,U,U,U,U,U,U,U,U,U,U,U,U,U,U,U,U,U,U,U,U,U,U] ?_
 generalize (.agg #[.int .i64 r,.string d,.bool e,.int .i64 n,.int .i64 sr,.string sd,.bool se,.int .i64 sn]:Value)=qz19
 generalize (.agg (cnCells {L with pa:=some ⟨q,0,none⟩,pc:=p}):Value)=qz20
 generalize (.agg (cnCells {R with pa:=some ⟨q2,0,none⟩,pc:=p2}):Value)=qz21
 go_upto_region 1 with (fail)
 refine vR ?_
 refine vB rl_big qB2 rfl ?_
 refine vB cn_big qB5 (cn_size _) ?_
 refine vB cn_big qB8 (cn_size _) ?_
 refine vC (hjo _ (RL.since G) (RR.since G)) ?_
 rintro _ qw22 ⟨j,g1,c1,g2,c2,ga,gb,rfl,E,⟨A1,A2,A3,A4⟩,⟨hj0,hj1,hj2,hj3,hj4,hd12,hdab⟩,qg23⟩
 refine ⟨_,rfl,?_⟩
 replace qB2:=qB2.since qg23
 replace qB5:=qB5.since qg23
 replace qB8:=qB8.since qg23
 replace qB11:=qB11.since qg23
 replace qB14:=qB14.since qg23
 replace qB17:=qB17.since qg23
 replace G:=G.trans qg23
 have qg23_s:=qg23.size
 have E_l:=E.lt
 have A1_0:=A1.low'
 replace A1:=A1.raise (show w.heap.size≤g1 by omega)
 have A1_1:=A1.lt
 have A2_0:=A2.low'
 replace A2:=A2.raise (show w.heap.size≤g2 by omega)
 have A2_1:=A2.lt
 have A3_0:=A3.low'
 replace A3:=A3.raise (show w.heap.size≤ga by omega)
 have A3_1:=A3.lt
 have A4_0:=A4.low'
 replace A4:=A4.raise (show w.heap.size≤gb by omega)
 have A4_1:=A4.lt
 refine vV (.pointer (some ⟨j,0,none⟩)) ?_
 refine vE #[qz19,qz20,qz21,pX w.heap.size 0,pX qw1.heap.size 0,pX qw4.heap.size 0,pX qw7.heap.size 0,pX qw10.heap.size 0,pX qw13.heap.size 0,.slice none 0 0,.slice none 0 0,pX j 0,.agg #[.int .i64 r,.string d,.bool e,.int .i64 n,.int .i64 sr,.string sd,.bool se,.int .i64 sn],.agg (cnCells {L with pa:=some ⟨q,0,none⟩,pc:=p}),.agg (cnCells {R with pa:=some ⟨q2,0,none⟩,pc:=p2}),pX j 0,U,U,U,U,U,U,U,U,U,U,U,U,U,U,U,U,U,U,U,U,U,U,U,U,U,U,U,U,U,U,U,U,U,U,U,U] ?_
 generalize (.agg #[.int .i64 r,.string d,.bool e,.int .i64 n,.int .i64 sr,.string sd,.bool se,.int .i64 sn]:Value)=qz24
 generalize (.agg (cnCells {L with pa:=some ⟨q,0,none⟩,pc:=p}):Value)=qz25
 generalize (.agg (cnCells {R with pa:=some ⟨q2,0,none⟩,pc:=p2}):Value)=qz26
 go_upto_region 2 with (fail)
 refine vR ?_
 refine vV (.pointer (some ⟨w.heap.size,0,none⟩)) ?_
 refine vP pp_big qB2 0 [.int .i64 r,.string d,.bool e,.int .i64 n] ?_
 refine vK (hk1 _) ?_
 intro qw27 qg28
 replace qB2:=qB2.since qg28
 replace qB5:=qB5.since qg28
 replace qB8:=qB8.since qg28
 replace qB11:=qB11.since qg28
 replace qB14:=qB14.since qg28
 replace qB17:=qB17.since qg28
 replace E:=E.since qg28
 replace A1:=A1.since qg28
 replace A2:=A2.since qg28
 replace A3:=A3.since qg28
 replace A4:=A4.since qg28
 replace G:=G.trans qg28
 have qg28_s:=qg28.size
 refine vV (.bool true) ?_
 refine vV (.pointer (some ⟨w.heap.size,4,none⟩)) ?_
 refine vP pp_big qB2 4 [.int .i64 sr,.string sd,.bool se,.int .i64 sn] ?_
 refine vK (hk2 _) ?_
 intro qw29 qg30
 replace qB2:=qB2.since qg30
 replace qB5:=qB5.since qg30
 replace qB8:=qB8.since qg30
 replace qB11:=qB11.since qg30
 replace qB14:=qB14.since qg30
 replace qB17:=qB17.since qg30
 replace E:=E.since qg30
 replace A1:=A1.since qg30
 replace A2:=A2.since qg30
 replace A3:=A3.since qg30
 replace A4:=A4.since qg30
 replace G:=G.trans qg30
 have qg30_s:=qg30.size
 refine vV (.bool true) ?_
 refine vV (.bool true) ?_
 refine vB cn_big qB5 (cn_size _) ?_
 refine vK (hk3 _ (RL.since G)) ?_
 intro qw31 qg32
 replace qB2:=qB2.since qg32
 replace qB5:=qB5.since qg32
 replace qB8:=qB8.since qg32
 replace qB11:=qB11.since qg32
 replace qB14:=qB14.since qg32
 replace qB17:=qB17.since qg32
 replace E:=E.since qg32
 replace A1:=A1.since qg32
 replace A2:=A2.since qg32
 replace A3:=A3.since qg32
 replace A4:=A4.since qg32
 replace G:=G.trans qg32
 have qg32_s:=qg32.size
 refine vV (.bool true) ?_
 refine vV (.bool true) ?_
 refine vB cn_big qB8 (cn_size _) ?_
 refine vK (hk4 _ (RR.since G)) ?_
 intro qw33 qg34
 replace qB2:=qB2.since qg34
 replace qB5:=qB5.since qg34
 replace qB8:=qB8.since qg34
 replace qB11:=qB11.since qg34
 replace qB14:=qB14.since qg34
 replace qB17:=qB17.since qg34
 replace E:=E.since qg34
 replace A1:=A1.since qg34
 replace A2:=A2.since qg34
 replace A3:=A3.since qg34
 replace A4:=A4.since qg34
 replace G:=G.trans qg34
 have qg34_s:=qg34.size
 refine vV (.bool true) ?_
 refine vE #[qz19,qz20,qz21,pX w.heap.size 0,pX qw1.heap.size 0,pX qw4.heap.size 0,pX qw7.heap.size 0,pX qw10.heap.size 0,pX qw13.heap.size 0,.slice none 0 0,.slice none 0 0,pX j 0,qz24,qz25,qz26,pX j 0,pX w.heap.size 0,.agg #[.int .i64 r,.string d,.bool e,.int .i64 n],.bool true,.bool true,pX w.heap.size 4,.agg #[.int .i64 sr,.string sd,.bool se,.int .i64 sn],.bool true,.bool true,.bool true,.agg (cnCells {L with pa:=some ⟨q,0,none⟩,pc:=p}),.bool true,.bool true,.bool true,.agg (cnCells {R with pa:=some ⟨q2,0,none⟩,pc:=p2}),.bool true,.bool true,U,U,U,U,U,U,U,U,U,U,U,U,U,U,U,U,U,U,U,U] ?_
 generalize (.agg #[.int .i64 r,.string d,.bool e,.int .i64 n]:Value)=qz35
 generalize (.agg #[.int .i64 sr,.string sd,.bool se,.int .i64 sn]:Value)=qz36
 generalize (.agg (cnCells {L with pa:=some ⟨q,0,none⟩,pc:=p}):Value)=qz37
 generalize (.agg (cnCells {R with pa:=some ⟨q2,0,none⟩,pc:=p2}):Value)=qz38
 go_upto_region 3 with (fail)
 cases hgL:gaveB L
 case true=>
  have ek:Hid (kw=1):=(by rw [hkw.out];unfold rlWay;rw [e1.out,e2.out,e3.out,e4.out,hgL];rfl:kw=1)
  replace hgL:Hid _:=hgL
  refine vR ?_
  refine vV (.pointer (some ⟨j,0,none⟩)) ?_
  refine vC (jMove1e r d e n sr sd se sn L ps R qs gL gR g1 c1 g2 c2 ga gb j w.heap.size _ E A1 A2 A3 A4 ⟨hj1,hj2,hj3,hj4⟩ hgL.out) ?_
  rintro _ qw39 ⟨g5,c5,gc,mc,cc,rfl,qB41,-,H5,-,L5,hn5,qt40⟩
  refine ⟨_,rfl,?_⟩
  clear E
  replace qB2:=qB2.touch qt40 (by omega)
  replace qB5:=qB5.touch qt40 (by omega)
  replace qB8:=qB8.touch qt40 (by omega)
  replace qB11:=qB11.touch qt40 (by omega)
  replace qB14:=qB14.touch qt40 (by omega)
  replace qB17:=qB17.touch qt40 (by omega)
  replace A1:=A1.touch qt40 (by omega)
  replace A2:=A2.touch qt40 (by omega)
  replace A3:=A3.touch qt40 (by omega)
  replace A4:=A4.touch qt40 (by omega)
  replace G:=since_touch G qt40 (by omega)
  have qt40_s:=qt40.size
  obtain ⟨hnx,hny,hnp,hnq⟩:=hn5
  have H5_0:=H5.low'
  replace H5:=H5.raise (show w.heap.size≤g5 by omega)
  have H5_1:=H5.lt
  have L5_0:=L5.low'
  replace L5:=L5.raise (show w.heap.size≤gc by omega)
  have L5_1:=L5.lt
  clear A2 A4
  refine vE #[qz19,qz20,qz21,pX w.heap.size 0,pX qw1.heap.size 0,pX qw4.heap.size 0,pX qw7.heap.size 0,pX qw10.heap.size 0,pX qw13.heap.size 0,.slice none 0 0,.slice none 0 0,pX j 0,qz24,qz25,qz26,pX j 0,pX w.heap.size 0,qz35,.bool true,.bool true,pX w.heap.size 4,qz36,.bool true,.bool true,.bool true,qz37,.bool true,.bool true,.bool true,qz38,.bool true,.bool true,pX j 0,.tuple #[],U,U,U,U,U,U,U,U,U,U,U,U,U,U,U,U,U,U] ?_
  go_upto_region 4 with (fail)
  clear qB2 qB5 qB8
  have o_w:w.heap.size≤qw7.heap.size:=by omega
  have o_t0:qw7.heap.size<qw10.heap.size:=by omega
  have o_t1:qw10.heap.size<qw13.heap.size:=by omega
  have o_x0:qw13.heap.size<j:=by omega
  have o_y0:j<qw39.heap.size:=by omega
  have o_x1:qw13.heap.size<g1:=by omega
  have o_y1:g1<qw39.heap.size:=by omega
  have o_x2:qw13.heap.size<g5:=by omega
  have o_y2:g5<qw39.heap.size:=by omega
  have o_x3:qw13.heap.size<ga:=by omega
  have o_y3:ga<qw39.heap.size:=by omega
  have o_x4:qw13.heap.size<gc:=by omega
  have o_y4:gc<qw39.heap.size:=by omega
  have o_n:qw13.heap.size<qw39.heap.size:=by omega
  try clear qB2_l
  try clear qg3_s
  try clear qB5_l
  try clear qg6_s
  try clear qB8_l
  try clear qg9_s
  try clear qB11_l
  try clear qg12_s
  try clear qB14_l
  try clear qg15_s
  try clear qB17_l
  try clear qg18_s
  try clear qg23_s
  try clear E_l
  try clear A1_0
  try clear A1_1
  try clear A2_0
  try clear A2_1
  try clear A3_0
  try clear A3_1
  try clear A4_0
  try clear A4_1
  try clear qg28_s
  try clear qg30_s
  try clear qg32_s
  try clear qg34_s
  try clear qt40_s
  try clear H5_0
  try clear H5_1
  try clear L5_0
  try clear L5_1
  refine wp_region_low (Low (fun b=>b=qw7.heap.size∨b=qw10.heap.size∨b=qw13.heap.size)) (fun i x v=>match i with
    | 0=>v=.pointer (some ⟨j,0,none⟩)
    | 1=>v=.agg #[.int .i64 r,.string d,.bool e,.int .i64 n,.int .i64 sr,.string sd,.bool se,.int .i64 sn]
    | 2=>v=.pointer (some ⟨j,0,none⟩)
    | 3=>v=.pointer (some ⟨j,0,none⟩)
    | 4=>v=.pointer (some ⟨j,10,none⟩)
    | 5=>v=.agg (cnCells {L with pa:=some ⟨g1,0,none⟩,pc:=c1})
    | 6=>v=.pointer (some ⟨j,0,none⟩)
    | 7=>v=.pointer (some ⟨j,0,none⟩)
    | 8=>v=.pointer (some ⟨j,47,none⟩)
    | 9=>v=.agg (cnCells {(abortC R qs) with pa:=some ⟨g5,0,none⟩,pc:=c5})
    | 10=>v=.pointer (some ⟨j,0,none⟩)
    | 11=>v=.pointer (some ⟨j,0,none⟩)
    | 12=>v=.pointer (some ⟨j,84,none⟩)
    | 13=>v=.slice (some ⟨ga,0,none⟩) 0 0
    | 14=>v=.pointer (some ⟨j,0,none⟩)
    | 15=>v=.pointer (some ⟨j,0,none⟩)
    | 16=>v=.pointer (some ⟨j,85,none⟩)
    | 17=>v=.slice (some ⟨gc,0,none⟩) mc cc
    | 18=>True
    | 19=>True
    | 20=>True
    | 21=>v=.slice (some ⟨ga,0,none⟩) 0 0
    | 22=>v=.slice (some ⟨gc,0,none⟩) mc cc
    | _=>True) (fun f vals x=>Blk qw7.heap.size x (if f 18 then #[.int .i64 r,.string d,.bool e,.int .i64 n,.int .i64 sr,.string sd,.bool se,.int .i64 sn] else #[.int .i64 0,.string ByteArray.empty,.bool false,.int .i64 0,.int .i64 0,.string ByteArray.empty,.bool false,.int .i64 0])∧Blk qw10.heap.size x (if f 19 then (cnCells {L with pa:=some ⟨g1,0,none⟩,pc:=c1}) else (cnCells cnZero))∧Blk qw13.heap.size x (if f 20 then (cnCells {(abortC R qs) with pa:=some ⟨g5,0,none⟩,pc:=c5}) else (cnCells cnZero))∧Blk j x (jnCells ⟨0,0,r,d,e,n,sr,sd,se,sn,{L with pa:=some ⟨g1,0,none⟩,pc:=c1},{(abortC R qs) with pa:=some ⟨g5,0,none⟩,pc:=c5},some ⟨ga,0,none⟩,0,0,some ⟨gc,0,none⟩,mc,cc⟩)∧Held shP x w.heap.size g1 L.pn c1 ps∧Held shG x w.heap.size ga 0 0 ([]:List Sg)∧Held shP x w.heap.size g5 R.pn c5 qs∧Held shG x w.heap.size gc mc cc (abortS R qs)∧qw39.heap.size≤x.heap.size∧Since w x) (fun v=>{tmps:=#[qz19,qz20,qz21,.pointer (some ⟨w.heap.size,0,none⟩),.pointer (some ⟨qw1.heap.size,0,none⟩),.pointer (some ⟨qw4.heap.size,0,none⟩),.pointer (some ⟨qw7.heap.size,0,none⟩),.pointer (some ⟨qw10.heap.size,0,none⟩),.pointer (some ⟨qw13.heap.size,0,none⟩),v 21,v 22,.pointer (some ⟨j,0,none⟩),qz24,qz25,qz26,.pointer (some ⟨j,0,none⟩),.pointer (some ⟨w.heap.size,0,none⟩),qz35,.bool true,.bool true,.pointer (some ⟨w.heap.size,4,none⟩),qz36,.bool true,.bool true,.bool true,qz37,.bool true,.bool true,.bool true,qz38,.bool true,.bool true,.pointer (some ⟨j,0,none⟩),.tuple #[],v 0,v 1,v 2,v 3,v 4,v 5,v 6,v 7,v 8,v 9,v 10,v 11,v 12,v 13,v 14,v 15,v 16,v 17],defers:=[]}) (by kernel_rfl) (by kernel_rfl) ?_ ?_ (fun vals=>by kernel_rfl) ?_ ?_
  case refine_1=>
   intro j x y v hl hv
   match j,hv with
   | 0,hv|1,hv|2,hv|3,hv|4,hv|5,hv|6,hv|7,hv|8,hv|9,hv|10,hv|11,hv|12,hv|13,hv|14,hv|15,hv|16,hv|17,hv|21,hv|22,hv=>exact hv
   | 18,hv|19,hv|20,hv=>trivial
   | n+23,_=>trivial
  case refine_2=>
   intro f vals hf
   refine ⟨(by rw [hf 18];exact qB11.since ((Since.refl _).drew)),(by rw [hf 19];exact qB14.since ((Since.refl _).drew)),(by rw [hf 20];exact qB17.since ((Since.refl _).drew)),qB41.since ((Since.refl _).drew),A1.since ((Since.refl _).drew),A3.since ((Since.refl _).drew),H5.since ((Since.refl _).drew),L5.since ((Since.refl _).drew),((Since.refl _).drew).size,G.trans ((Since.refl _).drew)⟩
  case refine_3=>
   repeat (first|exact eachLow_nil|refine eachLow_cons ?_ ?_)
   all_goals intro f vals x hf hr hK
   all_goals obtain ⟨k0,k1,k2,k3,k4,k5,k6,k7,k8,k9⟩:=hK
   ·have e17:vals 17=.slice (some ⟨gc,0,none⟩) mc cc:=(hr ⟨17,.data⟩ (by simp) rfl).2
    simp [does,doesUpon,go_sem,e17]
    exact ⟨Low.since (b:=qw7.heap.size) (Since.refl _) (Or.inl rfl),⟨k0,k1,k2,k3,k4,k5,k6,k7,k8,k9⟩⟩
   ·have e13:vals 13=.slice (some ⟨ga,0,none⟩) 0 0:=(hr ⟨13,.data⟩ (by simp) rfl).2
    simp [does,doesUpon,go_sem,e13]
    exact ⟨Low.since (b:=qw7.heap.size) (Since.refl _) (Or.inl rfl),⟨k0,k1,k2,k3,k4,k5,k6,k7,k8,k9⟩⟩
   ·have ev:vals 9=.agg (cnCells {(abortC R qs) with pa:=some ⟨g5,0,none⟩,pc:=c5}):=(hr ⟨9,.data⟩ (by simp) rfl).2
    have kz:Blk qw13.heap.size x (cnCells cnZero):=by have:=k2;rw [hf] at this;exact this
    refine does_store cn_big (cn_size _) (Raw.of kz (cn_size _)) (cn_one _) _ _ rfl rfl ev ?_
    intro z t B
    exact ⟨Low.touch t (show qw13.heap.size=qw7.heap.size∨qw13.heap.size=qw10.heap.size∨qw13.heap.size=qw13.heap.size by omega),⟨k0.touch t (by omega),k1.touch t (by omega),B,k3.touch t (by omega),k4.touch t (by omega),k5.touch t (by omega),k6.touch t (by omega),k7.touch t (by omega),Nat.le_trans k8 t.size,since_touch k9 t (by omega)⟩,trivial⟩
   ·have ev:vals 5=.agg (cnCells {L with pa:=some ⟨g1,0,none⟩,pc:=c1}):=(hr ⟨5,.data⟩ (by simp) rfl).2
    have kz:Blk qw10.heap.size x (cnCells cnZero):=by have:=k1;rw [hf] at this;exact this
    refine does_store cn_big (cn_size _) (Raw.of kz (cn_size _)) (cn_one _) _ _ rfl rfl ev ?_
    intro z t B
    exact ⟨Low.touch t (show qw10.heap.size=qw7.heap.size∨qw10.heap.size=qw10.heap.size∨qw10.heap.size=qw13.heap.size by omega),⟨k0.touch t (by omega),B,k2.touch t (by omega),k3.touch t (by omega),k4.touch t (by omega),k5.touch t (by omega),k6.touch t (by omega),k7.touch t (by omega),Nat.le_trans k8 t.size,since_touch k9 t (by omega)⟩,trivial⟩
   ·have ev:vals 1=.agg #[.int .i64 r,.string d,.bool e,.int .i64 n,.int .i64 sr,.string sd,.bool se,.int .i64 sn]:=(hr ⟨1,.data⟩ (by simp) rfl).2
    have kz:Blk qw7.heap.size x #[.int .i64 0,.string ByteArray.empty,.bool false,.int .i64 0,.int .i64 0,.string ByteArray.empty,.bool false,.int .i64 0]:=by have:=k0;rw [hf] at this;exact this
    refine does_store rl_big rfl (Raw.of kz rfl) (by simp [Value.oneCell']) _ _ rfl rfl ev ?_
    intro z t B
    exact ⟨Low.touch t (show qw7.heap.size=qw7.heap.size∨qw7.heap.size=qw10.heap.size∨qw7.heap.size=qw13.heap.size by omega),⟨B,k1.touch t (by omega),k2.touch t (by omega),k3.touch t (by omega),k4.touch t (by omega),k5.touch t (by omega),k6.touch t (by omega),k7.touch t (by omega),Nat.le_trans k8 t.size,since_touch k9 t (by omega)⟩,trivial⟩
   ·have e16:vals 16=.pointer (some ⟨j,85,none⟩):=(hr ⟨16,.data⟩ (by simp) rfl).2
    have fl:x.cell? ⟨j,85,none⟩=some (.slice (some ⟨gc,0,none⟩) mc cc):=(k3.cell 85).trans (jn_tl _ 1 _ rfl)
    simp [does,doesUpon,go_sem,e16,fl]
    exact ⟨Low.since (b:=qw7.heap.size) (Since.refl _) (Or.inl rfl),⟨k0,k1,k2,k3,k4,k5,k6,k7,k8,k9⟩⟩
   ·have e15:vals 15=.pointer (some ⟨j,0,none⟩):=(hr ⟨15,.data⟩ (by simp) rfl).2
    exact does_val (.pointer (some ⟨j,85,none⟩)) x (by simp only [e15];kernel_rfl) ⟨Low.since (b:=qw7.heap.size) (Since.refl _) (Or.inl rfl),⟨k0,k1,k2,k3,k4,k5,k6,k7,k8,k9⟩,rfl⟩
   ·have e14:vals 14=.pointer (some ⟨j,0,none⟩):=(hr ⟨14,.data⟩ (by simp) rfl).2
    simp [does,doesUpon,go_sem,e14]
    exact ⟨Low.since (b:=qw7.heap.size) (Since.refl _) (Or.inl rfl),⟨k0,k1,k2,k3,k4,k5,k6,k7,k8,k9⟩⟩
   ·skip
    simp [does,doesUpon,go_sem]
    exact ⟨Low.since (b:=qw7.heap.size) (Since.refl _) (Or.inl rfl),⟨k0,k1,k2,k3,k4,k5,k6,k7,k8,k9⟩⟩
   ·have e12:vals 12=.pointer (some ⟨j,84,none⟩):=(hr ⟨12,.data⟩ (by simp) rfl).2
    have fl:x.cell? ⟨j,84,none⟩=some (.slice (some ⟨ga,0,none⟩) 0 0):=(k3.cell 84).trans (jn_tl _ 0 _ rfl)
    simp [does,doesUpon,go_sem,e12,fl]
    exact ⟨Low.since (b:=qw7.heap.size) (Since.refl _) (Or.inl rfl),⟨k0,k1,k2,k3,k4,k5,k6,k7,k8,k9⟩⟩
   ·have e11:vals 11=.pointer (some ⟨j,0,none⟩):=(hr ⟨11,.data⟩ (by simp) rfl).2
    exact does_val (.pointer (some ⟨j,84,none⟩)) x (by simp only [e11];kernel_rfl) ⟨Low.since (b:=qw7.heap.size) (Since.refl _) (Or.inl rfl),⟨k0,k1,k2,k3,k4,k5,k6,k7,k8,k9⟩,rfl⟩
   ·have e10:vals 10=.pointer (some ⟨j,0,none⟩):=(hr ⟨10,.data⟩ (by simp) rfl).2
    simp [does,doesUpon,go_sem,e10]
    exact ⟨Low.since (b:=qw7.heap.size) (Since.refl _) (Or.inl rfl),⟨k0,k1,k2,k3,k4,k5,k6,k7,k8,k9⟩⟩
   ·skip
    simp [does,doesUpon,go_sem]
    exact ⟨Low.since (b:=qw7.heap.size) (Since.refl _) (Or.inl rfl),⟨k0,k1,k2,k3,k4,k5,k6,k7,k8,k9⟩⟩
   ·have e8:vals 8=.pointer (some ⟨j,47,none⟩):=(hr ⟨8,.data⟩ (by simp) rfl).2
    exact does_part_load k3 cn_big _ rfl 47 e8 (cnCells {(abortC R qs) with pa:=some ⟨g5,0,none⟩,pc:=c5}).toList rfl (jn_R (⟨0,0,r,d,e,n,sr,sd,se,sn,{L with pa:=some ⟨g1,0,none⟩,pc:=c1},{(abortC R qs) with pa:=some ⟨g5,0,none⟩,pc:=c5},some ⟨ga,0,none⟩,0,0,some ⟨gc,0,none⟩,mc,cc⟩:Jn)) ⟨Low.since (b:=qw7.heap.size) (Since.refl _) (Or.inl rfl),⟨k0,k1,k2,k3,k4,k5,k6,k7,k8,k9⟩,rfl⟩
   ·have e7:vals 7=.pointer (some ⟨j,0,none⟩):=(hr ⟨7,.data⟩ (by simp) rfl).2
    exact does_val (.pointer (some ⟨j,47,none⟩)) x (by simp only [e7];kernel_rfl) ⟨Low.since (b:=qw7.heap.size) (Since.refl _) (Or.inl rfl),⟨k0,k1,k2,k3,k4,k5,k6,k7,k8,k9⟩,rfl⟩
   ·have e6:vals 6=.pointer (some ⟨j,0,none⟩):=(hr ⟨6,.data⟩ (by simp) rfl).2
    simp [does,doesUpon,go_sem,e6]
    exact ⟨Low.since (b:=qw7.heap.size) (Since.refl _) (Or.inl rfl),⟨k0,k1,k2,k3,k4,k5,k6,k7,k8,k9⟩⟩
   ·skip
    simp [does,doesUpon,go_sem]
    exact ⟨Low.since (b:=qw7.heap.size) (Since.refl _) (Or.inl rfl),⟨k0,k1,k2,k3,k4,k5,k6,k7,k8,k9⟩⟩
   ·have e4:vals 4=.pointer (some ⟨j,10,none⟩):=(hr ⟨4,.data⟩ (by simp) rfl).2
    exact does_part_load k3 cn_big _ rfl 10 e4 (cnCells {L with pa:=some ⟨g1,0,none⟩,pc:=c1}).toList rfl (jn_L (⟨0,0,r,d,e,n,sr,sd,se,sn,{L with pa:=some ⟨g1,0,none⟩,pc:=c1},{(abortC R qs) with pa:=some ⟨g5,0,none⟩,pc:=c5},some ⟨ga,0,none⟩,0,0,some ⟨gc,0,none⟩,mc,cc⟩:Jn)) ⟨Low.since (b:=qw7.heap.size) (Since.refl _) (Or.inl rfl),⟨k0,k1,k2,k3,k4,k5,k6,k7,k8,k9⟩,rfl⟩
   ·have e3:vals 3=.pointer (some ⟨j,0,none⟩):=(hr ⟨3,.data⟩ (by simp) rfl).2
    exact does_val (.pointer (some ⟨j,10,none⟩)) x (by simp only [e3];kernel_rfl) ⟨Low.since (b:=qw7.heap.size) (Since.refl _) (Or.inl rfl),⟨k0,k1,k2,k3,k4,k5,k6,k7,k8,k9⟩,rfl⟩
   ·have e2:vals 2=.pointer (some ⟨j,0,none⟩):=(hr ⟨2,.data⟩ (by simp) rfl).2
    simp [does,doesUpon,go_sem,e2]
    exact ⟨Low.since (b:=qw7.heap.size) (Since.refl _) (Or.inl rfl),⟨k0,k1,k2,k3,k4,k5,k6,k7,k8,k9⟩⟩
   ·skip
    simp [does,doesUpon,go_sem]
    exact ⟨Low.since (b:=qw7.heap.size) (Since.refl _) (Or.inl rfl),⟨k0,k1,k2,k3,k4,k5,k6,k7,k8,k9⟩⟩
   ·skip
    have e0:vals 0=.pointer (some ⟨j,0,none⟩):=(hr ⟨0,.data⟩ (by simp) rfl).2
    simp [does,doesUpon,go_sem,e0]
    refine (jRelay ⟨0,0,r,d,e,n,sr,sd,se,sn,{L with pa:=some ⟨g1,0,none⟩,pc:=c1},{(abortC R qs) with pa:=some ⟨g5,0,none⟩,pc:=c5},some ⟨ga,0,none⟩,0,0,some ⟨gc,0,none⟩,mc,cc⟩ j _ k3).mono ?_
    rintro _ x' ⟨rfl,h1⟩
    exact ⟨_,rfl,Low.since (b:=qw7.heap.size) h1 (Or.inl rfl),⟨k0.since h1,k1.since h1,k2.since h1,k3.since h1,k4.since h1,k5.since h1,k6.since h1,k7.since h1,Nat.le_trans k8 h1.size,k9.trans h1⟩,rfl⟩
   ·skip
    simp [does,doesUpon,go_sem]
    exact ⟨Low.since (b:=qw7.heap.size) (Since.refl _) (Or.inl rfl),⟨k0,k1,k2,k3,k4,k5,k6,k7,k8,k9⟩⟩
  intro f qv43 qw42 hK hf hv
  obtain ⟨k0,k1,k2,k3,k4,k5,k6,k7,k8,k9⟩:=hK
  clear qB11 qB14 qB17 qB41 A1 A3 H5 L5 G
  have hv0:qv43 0=_:=hv 0 (by decide)
  have hv1:qv43 1=_:=hv 1 (by decide)
  have hv2:qv43 2=_:=hv 2 (by decide)
  have hv3:qv43 3=_:=hv 3 (by decide)
  have hv4:qv43 4=_:=hv 4 (by decide)
  have hv5:qv43 5=_:=hv 5 (by decide)
  have hv6:qv43 6=_:=hv 6 (by decide)
  have hv7:qv43 7=_:=hv 7 (by decide)
  have hv8:qv43 8=_:=hv 8 (by decide)
  have hv9:qv43 9=_:=hv 9 (by decide)
  have hv10:qv43 10=_:=hv 10 (by decide)
  have hv11:qv43 11=_:=hv 11 (by decide)
  have hv12:qv43 12=_:=hv 12 (by decide)
  have hv13:qv43 13=_:=hv 13 (by decide)
  have hv14:qv43 14=_:=hv 14 (by decide)
  have hv15:qv43 15=_:=hv 15 (by decide)
  have hv16:qv43 16=_:=hv 16 (by decide)
  have hv17:qv43 17=_:=hv 17 (by decide)
  have hv21:qv43 21=_:=hv 21 (by decide)
  have hv22:qv43 22=_:=hv 22 (by decide)
  clear hv
  simp only [hv0,hv1,hv2,hv3,hv4,hv5,hv6,hv7,hv8,hv9,hv10,hv11,hv12,hv13,hv14,hv15,hv16,hv17,hv21,hv22]
  clear hv0 hv1 hv2 hv3 hv4 hv5 hv6 hv7 hv8 hv9 hv10 hv11 hv12 hv13 hv14 hv15 hv16 hv17 hv21 hv22
  have qB11:Blk qw7.heap.size qw42 #[.int .i64 r,.string d,.bool e,.int .i64 n,.int .i64 sr,.string sd,.bool se,.int .i64 sn]:=by have:=k0;rw [hf 18 (by decide)] at this;exact this
  clear k0
  have qB14:Blk qw10.heap.size qw42 (cnCells {L with pa:=some ⟨g1,0,none⟩,pc:=c1}):=by have:=k1;rw [hf 19 (by decide)] at this;exact this
  clear k1
  have qB17:Blk qw13.heap.size qw42 (cnCells {(abortC R qs) with pa:=some ⟨g5,0,none⟩,pc:=c5}):=by have:=k2;rw [hf 20 (by decide)] at this;exact this
  clear k2
  have qB41:=k3
  clear k3
  have A1:=k4
  clear k4
  have A3:=k5
  clear k5
  have H5:=k6
  clear k6
  have L5:=k7
  clear k7
  have G:=k9
  clear k9
  have qw42_l:=qB41.lt
  have qw42_n:=k8
  clear k8
  go_wp2_with (fail)
  exact bodyPost_ret (results_5 (hs:=rfl) (t:=6) (u:=7) (v:=8) (x:=9) (y:=10) rfl _ rfl rfl rfl qB11 qB14 qB17) rfl (hidI ⟨_,_,_,_,_,_,_,_,_,_,by rw [ek.out];rfl,A1,H5,by rw [ek.out];exact A3,by rw [ek.out];exact L5,⟨hnp.symm,hnq.symm⟩,G⟩)
 case false=>
  cases hgR:gaveB R
  case true=>
   have ek:Hid (kw=2):=(by rw [hkw.out];unfold rlWay;rw [e1.out,e2.out,e3.out,e4.out,hgL,hgR];rfl:kw=2)
   replace hgL:Hid _:=hgL
   replace hgR:Hid _:=hgR
   refine vR ?_
   refine vV (.pointer (some ⟨j,0,none⟩)) ?_
   refine vC (jMove2e r d e n sr sd se sn L ps R qs gL gR g1 c1 g2 c2 ga gb j w.heap.size _ E A1 A2 A3 A4 ⟨hj1,hj2,hj3,hj4⟩ hgL.out hgR.out) ?_
   rintro _ qw39 ⟨g5,c5,gc,mc,cc,rfl,qB41,H5,-,L5,-,hn5,qt40⟩
   refine ⟨_,rfl,?_⟩
   clear E
   replace qB2:=qB2.touch qt40 (by omega)
   replace qB5:=qB5.touch qt40 (by omega)
   replace qB8:=qB8.touch qt40 (by omega)
   replace qB11:=qB11.touch qt40 (by omega)
   replace qB14:=qB14.touch qt40 (by omega)
   replace qB17:=qB17.touch qt40 (by omega)
   replace A1:=A1.touch qt40 (by omega)
   replace A2:=A2.touch qt40 (by omega)
   replace A3:=A3.touch qt40 (by omega)
   replace A4:=A4.touch qt40 (by omega)
   replace G:=since_touch G qt40 (by omega)
   have qt40_s:=qt40.size
   obtain ⟨hnx,hny,hnp,hnq⟩:=hn5
   have H5_0:=H5.low'
   replace H5:=H5.raise (show w.heap.size≤g5 by omega)
   have H5_1:=H5.lt
   have L5_0:=L5.low'
   replace L5:=L5.raise (show w.heap.size≤gc by omega)
   have L5_1:=L5.lt
   clear A1 A3
   refine vE #[qz19,qz20,qz21,pX w.heap.size 0,pX qw1.heap.size 0,pX qw4.heap.size 0,pX qw7.heap.size 0,pX qw10.heap.size 0,pX qw13.heap.size 0,.slice none 0 0,.slice none 0 0,pX j 0,qz24,qz25,qz26,pX j 0,pX w.heap.size 0,qz35,.bool true,.bool true,pX w.heap.size 4,qz36,.bool true,.bool true,.bool true,qz37,.bool true,.bool true,.bool true,qz38,.bool true,.bool true,pX j 0,.tuple #[],U,U,U,U,U,U,U,U,U,U,U,U,U,U,U,U,U,U] ?_
   go_upto_region 4 with (fail)
   clear qB2 qB5 qB8
   have o_w:w.heap.size≤qw7.heap.size:=by omega
   have o_t0:qw7.heap.size<qw10.heap.size:=by omega
   have o_t1:qw10.heap.size<qw13.heap.size:=by omega
   have o_x0:qw13.heap.size<j:=by omega
   have o_y0:j<qw39.heap.size:=by omega
   have o_x1:qw13.heap.size<g5:=by omega
   have o_y1:g5<qw39.heap.size:=by omega
   have o_x2:qw13.heap.size<g2:=by omega
   have o_y2:g2<qw39.heap.size:=by omega
   have o_x3:qw13.heap.size<gc:=by omega
   have o_y3:gc<qw39.heap.size:=by omega
   have o_x4:qw13.heap.size<gb:=by omega
   have o_y4:gb<qw39.heap.size:=by omega
   have o_n:qw13.heap.size<qw39.heap.size:=by omega
   try clear qB2_l
   try clear qg3_s
   try clear qB5_l
   try clear qg6_s
   try clear qB8_l
   try clear qg9_s
   try clear qB11_l
   try clear qg12_s
   try clear qB14_l
   try clear qg15_s
   try clear qB17_l
   try clear qg18_s
   try clear qg23_s
   try clear E_l
   try clear A1_0
   try clear A1_1
   try clear A2_0
   try clear A2_1
   try clear A3_0
   try clear A3_1
   try clear A4_0
   try clear A4_1
   try clear qg28_s
   try clear qg30_s
   try clear qg32_s
   try clear qg34_s
   try clear qt40_s
   try clear H5_0
   try clear H5_1
   try clear L5_0
   try clear L5_1
   refine wp_region_low (Low (fun b=>b=qw7.heap.size∨b=qw10.heap.size∨b=qw13.heap.size)) (fun i x v=>match i with
     | 0=>v=.pointer (some ⟨j,0,none⟩)
     | 1=>v=.agg #[.int .i64 r,.string d,.bool e,.int .i64 n,.int .i64 sr,.string sd,.bool se,.int .i64 sn]
     | 2=>v=.pointer (some ⟨j,0,none⟩)
     | 3=>v=.pointer (some ⟨j,0,none⟩)
     | 4=>v=.pointer (some ⟨j,10,none⟩)
     | 5=>v=.agg (cnCells {(abortC L ps) with pa:=some ⟨g5,0,none⟩,pc:=c5})
     | 6=>v=.pointer (some ⟨j,0,none⟩)
     | 7=>v=.pointer (some ⟨j,0,none⟩)
     | 8=>v=.pointer (some ⟨j,47,none⟩)
     | 9=>v=.agg (cnCells {R with pa:=some ⟨g2,0,none⟩,pc:=c2})
     | 10=>v=.pointer (some ⟨j,0,none⟩)
     | 11=>v=.pointer (some ⟨j,0,none⟩)
     | 12=>v=.pointer (some ⟨j,84,none⟩)
     | 13=>v=.slice (some ⟨gc,0,none⟩) mc cc
     | 14=>v=.pointer (some ⟨j,0,none⟩)
     | 15=>v=.pointer (some ⟨j,0,none⟩)
     | 16=>v=.pointer (some ⟨j,85,none⟩)
     | 17=>v=.slice (some ⟨gb,0,none⟩) 0 0
     | 18=>True
     | 19=>True
     | 20=>True
     | 21=>v=.slice (some ⟨gc,0,none⟩) mc cc
     | 22=>v=.slice (some ⟨gb,0,none⟩) 0 0
     | _=>True) (fun f vals x=>Blk qw7.heap.size x (if f 18 then #[.int .i64 r,.string d,.bool e,.int .i64 n,.int .i64 sr,.string sd,.bool se,.int .i64 sn] else #[.int .i64 0,.string ByteArray.empty,.bool false,.int .i64 0,.int .i64 0,.string ByteArray.empty,.bool false,.int .i64 0])∧Blk qw10.heap.size x (if f 19 then (cnCells {(abortC L ps) with pa:=some ⟨g5,0,none⟩,pc:=c5}) else (cnCells cnZero))∧Blk qw13.heap.size x (if f 20 then (cnCells {R with pa:=some ⟨g2,0,none⟩,pc:=c2}) else (cnCells cnZero))∧Blk j x (jnCells ⟨0,0,r,d,e,n,sr,sd,se,sn,{(abortC L ps) with pa:=some ⟨g5,0,none⟩,pc:=c5},{R with pa:=some ⟨g2,0,none⟩,pc:=c2},some ⟨gc,0,none⟩,mc,cc,some ⟨gb,0,none⟩,0,0⟩)∧Held shP x w.heap.size g2 R.pn c2 qs∧Held shG x w.heap.size gb 0 0 ([]:List Sg)∧Held shP x w.heap.size g5 L.pn c5 ps∧Held shG x w.heap.size gc mc cc (abortS L ps)∧qw39.heap.size≤x.heap.size∧Since w x) (fun v=>{tmps:=#[qz19,qz20,qz21,.pointer (some ⟨w.heap.size,0,none⟩),.pointer (some ⟨qw1.heap.size,0,none⟩),.pointer (some ⟨qw4.heap.size,0,none⟩),.pointer (some ⟨qw7.heap.size,0,none⟩),.pointer (some ⟨qw10.heap.size,0,none⟩),.pointer (some ⟨qw13.heap.size,0,none⟩),v 21,v 22,.pointer (some ⟨j,0,none⟩),qz24,qz25,qz26,.pointer (some ⟨j,0,none⟩),.pointer (some ⟨w.heap.size,0,none⟩),qz35,.bool true,.bool true,.pointer (some ⟨w.heap.size,4,none⟩),qz36,.bool true,.bool true,.bool true,qz37,.bool true,.bool true,.bool true,qz38,.bool true,.bool true,.pointer (some ⟨j,0,none⟩),.tuple #[],v 0,v 1,v 2,v 3,v 4,v 5,v 6,v 7,v 8,v 9,v 10,v 11,v 12,v 13,v 14,v 15,v 16,v 17],defers:=[]}) (by kernel_rfl) (by kernel_rfl) ?_ ?_ (fun vals=>by kernel_rfl) ?_ ?_
   case refine_1=>
    intro j x y v hl hv
    match j,hv with
    | 0,hv|1,hv|2,hv|3,hv|4,hv|5,hv|6,hv|7,hv|8,hv|9,hv|10,hv|11,hv|12,hv|13,hv|14,hv|15,hv|16,hv|17,hv|21,hv|22,hv=>exact hv
    | 18,hv|19,hv|20,hv=>trivial
    | n+23,_=>trivial
   case refine_2=>
    intro f vals hf
    refine ⟨(by rw [hf 18];exact qB11.since ((Since.refl _).drew)),(by rw [hf 19];exact qB14.since ((Since.refl _).drew)),(by rw [hf 20];exact qB17.since ((Since.refl _).drew)),qB41.since ((Since.refl _).drew),A2.since ((Since.refl _).drew),A4.since ((Since.refl _).drew),H5.since ((Since.refl _).drew),L5.since ((Since.refl _).drew),((Since.refl _).drew).size,G.trans ((Since.refl _).drew)⟩
   case refine_3=>
    repeat (first|exact eachLow_nil|refine eachLow_cons ?_ ?_)
    all_goals intro f vals x hf hr hK
    all_goals obtain ⟨k0,k1,k2,k3,k4,k5,k6,k7,k8,k9⟩:=hK
    ·have e17:vals 17=.slice (some ⟨gb,0,none⟩) 0 0:=(hr ⟨17,.data⟩ (by simp) rfl).2
     simp [does,doesUpon,go_sem,e17]
     exact ⟨Low.since (b:=qw7.heap.size) (Since.refl _) (Or.inl rfl),⟨k0,k1,k2,k3,k4,k5,k6,k7,k8,k9⟩⟩
    ·have e13:vals 13=.slice (some ⟨gc,0,none⟩) mc cc:=(hr ⟨13,.data⟩ (by simp) rfl).2
     simp [does,doesUpon,go_sem,e13]
     exact ⟨Low.since (b:=qw7.heap.size) (Since.refl _) (Or.inl rfl),⟨k0,k1,k2,k3,k4,k5,k6,k7,k8,k9⟩⟩
    ·have ev:vals 9=.agg (cnCells {R with pa:=some ⟨g2,0,none⟩,pc:=c2}):=(hr ⟨9,.data⟩ (by simp) rfl).2
     have kz:Blk qw13.heap.size x (cnCells cnZero):=by have:=k2;rw [hf] at this;exact this
     refine does_store cn_big (cn_size _) (Raw.of kz (cn_size _)) (cn_one _) _ _ rfl rfl ev ?_
     intro z t B
     exact ⟨Low.touch t (show qw13.heap.size=qw7.heap.size∨qw13.heap.size=qw10.heap.size∨qw13.heap.size=qw13.heap.size by omega),⟨k0.touch t (by omega),k1.touch t (by omega),B,k3.touch t (by omega),k4.touch t (by omega),k5.touch t (by omega),k6.touch t (by omega),k7.touch t (by omega),Nat.le_trans k8 t.size,since_touch k9 t (by omega)⟩,trivial⟩
    ·have ev:vals 5=.agg (cnCells {(abortC L ps) with pa:=some ⟨g5,0,none⟩,pc:=c5}):=(hr ⟨5,.data⟩ (by simp) rfl).2
     have kz:Blk qw10.heap.size x (cnCells cnZero):=by have:=k1;rw [hf] at this;exact this
     refine does_store cn_big (cn_size _) (Raw.of kz (cn_size _)) (cn_one _) _ _ rfl rfl ev ?_
     intro z t B
     exact ⟨Low.touch t (show qw10.heap.size=qw7.heap.size∨qw10.heap.size=qw10.heap.size∨qw10.heap.size=qw13.heap.size by omega),⟨k0.touch t (by omega),B,k2.touch t (by omega),k3.touch t (by omega),k4.touch t (by omega),k5.touch t (by omega),k6.touch t (by omega),k7.touch t (by omega),Nat.le_trans k8 t.size,since_touch k9 t (by omega)⟩,trivial⟩
    ·have ev:vals 1=.agg #[.int .i64 r,.string d,.bool e,.int .i64 n,.int .i64 sr,.string sd,.bool se,.int .i64 sn]:=(hr ⟨1,.data⟩ (by simp) rfl).2
     have kz:Blk qw7.heap.size x #[.int .i64 0,.string ByteArray.empty,.bool false,.int .i64 0,.int .i64 0,.string ByteArray.empty,.bool false,.int .i64 0]:=by have:=k0;rw [hf] at this;exact this
     refine does_store rl_big rfl (Raw.of kz rfl) (by simp [Value.oneCell']) _ _ rfl rfl ev ?_
     intro z t B
     exact ⟨Low.touch t (show qw7.heap.size=qw7.heap.size∨qw7.heap.size=qw10.heap.size∨qw7.heap.size=qw13.heap.size by omega),⟨B,k1.touch t (by omega),k2.touch t (by omega),k3.touch t (by omega),k4.touch t (by omega),k5.touch t (by omega),k6.touch t (by omega),k7.touch t (by omega),Nat.le_trans k8 t.size,since_touch k9 t (by omega)⟩,trivial⟩
    ·have e16:vals 16=.pointer (some ⟨j,85,none⟩):=(hr ⟨16,.data⟩ (by simp) rfl).2
     have fl:x.cell? ⟨j,85,none⟩=some (.slice (some ⟨gb,0,none⟩) 0 0):=(k3.cell 85).trans (jn_tl _ 1 _ rfl)
     simp [does,doesUpon,go_sem,e16,fl]
     exact ⟨Low.since (b:=qw7.heap.size) (Since.refl _) (Or.inl rfl),⟨k0,k1,k2,k3,k4,k5,k6,k7,k8,k9⟩⟩
    ·have e15:vals 15=.pointer (some ⟨j,0,none⟩):=(hr ⟨15,.data⟩ (by simp) rfl).2
     exact does_val (.pointer (some ⟨j,85,none⟩)) x (by simp only [e15];kernel_rfl) ⟨Low.since (b:=qw7.heap.size) (Since.refl _) (Or.inl rfl),⟨k0,k1,k2,k3,k4,k5,k6,k7,k8,k9⟩,rfl⟩
    ·have e14:vals 14=.pointer (some ⟨j,0,none⟩):=(hr ⟨14,.data⟩ (by simp) rfl).2
     simp [does,doesUpon,go_sem,e14]
     exact ⟨Low.since (b:=qw7.heap.size) (Since.refl _) (Or.inl rfl),⟨k0,k1,k2,k3,k4,k5,k6,k7,k8,k9⟩⟩
    ·skip
     simp [does,doesUpon,go_sem]
     exact ⟨Low.since (b:=qw7.heap.size) (Since.refl _) (Or.inl rfl),⟨k0,k1,k2,k3,k4,k5,k6,k7,k8,k9⟩⟩
    ·have e12:vals 12=.pointer (some ⟨j,84,none⟩):=(hr ⟨12,.data⟩ (by simp) rfl).2
     have fl:x.cell? ⟨j,84,none⟩=some (.slice (some ⟨gc,0,none⟩) mc cc):=(k3.cell 84).trans (jn_tl _ 0 _ rfl)
     simp [does,doesUpon,go_sem,e12,fl]
     exact ⟨Low.since (b:=qw7.heap.size) (Since.refl _) (Or.inl rfl),⟨k0,k1,k2,k3,k4,k5,k6,k7,k8,k9⟩⟩
    ·have e11:vals 11=.pointer (some ⟨j,0,none⟩):=(hr ⟨11,.data⟩ (by simp) rfl).2
     exact does_val (.pointer (some ⟨j,84,none⟩)) x (by simp only [e11];kernel_rfl) ⟨Low.since (b:=qw7.heap.size) (Since.refl _) (Or.inl rfl),⟨k0,k1,k2,k3,k4,k5,k6,k7,k8,k9⟩,rfl⟩
    ·have e10:vals 10=.pointer (some ⟨j,0,none⟩):=(hr ⟨10,.data⟩ (by simp) rfl).2
     simp [does,doesUpon,go_sem,e10]
     exact ⟨Low.since (b:=qw7.heap.size) (Since.refl _) (Or.inl rfl),⟨k0,k1,k2,k3,k4,k5,k6,k7,k8,k9⟩⟩
    ·skip
     simp [does,doesUpon,go_sem]
     exact ⟨Low.since (b:=qw7.heap.size) (Since.refl _) (Or.inl rfl),⟨k0,k1,k2,k3,k4,k5,k6,k7,k8,k9⟩⟩
    ·have e8:vals 8=.pointer (some ⟨j,47,none⟩):=(hr ⟨8,.data⟩ (by simp) rfl).2
     exact does_part_load k3 cn_big _ rfl 47 e8 (cnCells {R with pa:=some ⟨g2,0,none⟩,pc:=c2}).toList rfl (jn_R (⟨0,0,r,d,e,n,sr,sd,se,sn,{(abortC L ps) with pa:=some ⟨g5,0,none⟩,pc:=c5},{R with pa:=some ⟨g2,0,none⟩,pc:=c2},some ⟨gc,0,none⟩,mc,cc,some ⟨gb,0,none⟩,0,0⟩:Jn)) ⟨Low.since (b:=qw7.heap.size) (Since.refl _) (Or.inl rfl),⟨k0,k1,k2,k3,k4,k5,k6,k7,k8,k9⟩,rfl⟩
    ·have e7:vals 7=.pointer (some ⟨j,0,none⟩):=(hr ⟨7,.data⟩ (by simp) rfl).2
     exact does_val (.pointer (some ⟨j,47,none⟩)) x (by simp only [e7];kernel_rfl) ⟨Low.since (b:=qw7.heap.size) (Since.refl _) (Or.inl rfl),⟨k0,k1,k2,k3,k4,k5,k6,k7,k8,k9⟩,rfl⟩
    ·have e6:vals 6=.pointer (some ⟨j,0,none⟩):=(hr ⟨6,.data⟩ (by simp) rfl).2
     simp [does,doesUpon,go_sem,e6]
     exact ⟨Low.since (b:=qw7.heap.size) (Since.refl _) (Or.inl rfl),⟨k0,k1,k2,k3,k4,k5,k6,k7,k8,k9⟩⟩
    ·skip
     simp [does,doesUpon,go_sem]
     exact ⟨Low.since (b:=qw7.heap.size) (Since.refl _) (Or.inl rfl),⟨k0,k1,k2,k3,k4,k5,k6,k7,k8,k9⟩⟩
    ·have e4:vals 4=.pointer (some ⟨j,10,none⟩):=(hr ⟨4,.data⟩ (by simp) rfl).2
     exact does_part_load k3 cn_big _ rfl 10 e4 (cnCells {(abortC L ps) with pa:=some ⟨g5,0,none⟩,pc:=c5}).toList rfl (jn_L (⟨0,0,r,d,e,n,sr,sd,se,sn,{(abortC L ps) with pa:=some ⟨g5,0,none⟩,pc:=c5},{R with pa:=some ⟨g2,0,none⟩,pc:=c2},some ⟨gc,0,none⟩,mc,cc,some ⟨gb,0,none⟩,0,0⟩:Jn)) ⟨Low.since (b:=qw7.heap.size) (Since.refl _) (Or.inl rfl),⟨k0,k1,k2,k3,k4,k5,k6,k7,k8,k9⟩,rfl⟩
    ·have e3:vals 3=.pointer (some ⟨j,0,none⟩):=(hr ⟨3,.data⟩ (by simp) rfl).2
     exact does_val (.pointer (some ⟨j,10,none⟩)) x (by simp only [e3];kernel_rfl) ⟨Low.since (b:=qw7.heap.size) (Since.refl _) (Or.inl rfl),⟨k0,k1,k2,k3,k4,k5,k6,k7,k8,k9⟩,rfl⟩
    ·have e2:vals 2=.pointer (some ⟨j,0,none⟩):=(hr ⟨2,.data⟩ (by simp) rfl).2
     simp [does,doesUpon,go_sem,e2]
     exact ⟨Low.since (b:=qw7.heap.size) (Since.refl _) (Or.inl rfl),⟨k0,k1,k2,k3,k4,k5,k6,k7,k8,k9⟩⟩
    ·skip
     simp [does,doesUpon,go_sem]
     exact ⟨Low.since (b:=qw7.heap.size) (Since.refl _) (Or.inl rfl),⟨k0,k1,k2,k3,k4,k5,k6,k7,k8,k9⟩⟩
    ·skip
     have e0:vals 0=.pointer (some ⟨j,0,none⟩):=(hr ⟨0,.data⟩ (by simp) rfl).2
     simp [does,doesUpon,go_sem,e0]
     refine (jRelay ⟨0,0,r,d,e,n,sr,sd,se,sn,{(abortC L ps) with pa:=some ⟨g5,0,none⟩,pc:=c5},{R with pa:=some ⟨g2,0,none⟩,pc:=c2},some ⟨gc,0,none⟩,mc,cc,some ⟨gb,0,none⟩,0,0⟩ j _ k3).mono ?_
     rintro _ x' ⟨rfl,h1⟩
     exact ⟨_,rfl,Low.since (b:=qw7.heap.size) h1 (Or.inl rfl),⟨k0.since h1,k1.since h1,k2.since h1,k3.since h1,k4.since h1,k5.since h1,k6.since h1,k7.since h1,Nat.le_trans k8 h1.size,k9.trans h1⟩,rfl⟩
    ·skip
     simp [does,doesUpon,go_sem]
     exact ⟨Low.since (b:=qw7.heap.size) (Since.refl _) (Or.inl rfl),⟨k0,k1,k2,k3,k4,k5,k6,k7,k8,k9⟩⟩
   intro f qv43 qw42 hK hf hv
   obtain ⟨k0,k1,k2,k3,k4,k5,k6,k7,k8,k9⟩:=hK
   clear qB11 qB14 qB17 qB41 A2 A4 H5 L5 G
   have hv0:qv43 0=_:=hv 0 (by decide)
   have hv1:qv43 1=_:=hv 1 (by decide)
   have hv2:qv43 2=_:=hv 2 (by decide)
   have hv3:qv43 3=_:=hv 3 (by decide)
   have hv4:qv43 4=_:=hv 4 (by decide)
   have hv5:qv43 5=_:=hv 5 (by decide)
   have hv6:qv43 6=_:=hv 6 (by decide)
   have hv7:qv43 7=_:=hv 7 (by decide)
   have hv8:qv43 8=_:=hv 8 (by decide)
   have hv9:qv43 9=_:=hv 9 (by decide)
   have hv10:qv43 10=_:=hv 10 (by decide)
   have hv11:qv43 11=_:=hv 11 (by decide)
   have hv12:qv43 12=_:=hv 12 (by decide)
   have hv13:qv43 13=_:=hv 13 (by decide)
   have hv14:qv43 14=_:=hv 14 (by decide)
   have hv15:qv43 15=_:=hv 15 (by decide)
   have hv16:qv43 16=_:=hv 16 (by decide)
   have hv17:qv43 17=_:=hv 17 (by decide)
   have hv21:qv43 21=_:=hv 21 (by decide)
   have hv22:qv43 22=_:=hv 22 (by decide)
   clear hv
   simp only [hv0,hv1,hv2,hv3,hv4,hv5,hv6,hv7,hv8,hv9,hv10,hv11,hv12,hv13,hv14,hv15,hv16,hv17,hv21,hv22]
   clear hv0 hv1 hv2 hv3 hv4 hv5 hv6 hv7 hv8 hv9 hv10 hv11 hv12 hv13 hv14 hv15 hv16 hv17 hv21 hv22
   have qB11:Blk qw7.heap.size qw42 #[.int .i64 r,.string d,.bool e,.int .i64 n,.int .i64 sr,.string sd,.bool se,.int .i64 sn]:=by have:=k0;rw [hf 18 (by decide)] at this;exact this
   clear k0
   have qB14:Blk qw10.heap.size qw42 (cnCells {(abortC L ps) with pa:=some ⟨g5,0,none⟩,pc:=c5}):=by have:=k1;rw [hf 19 (by decide)] at this;exact this
   clear k1
   have qB17:Blk qw13.heap.size qw42 (cnCells {R with pa:=some ⟨g2,0,none⟩,pc:=c2}):=by have:=k2;rw [hf 20 (by decide)] at this;exact this
   clear k2
   have qB41:=k3
   clear k3
   have A2:=k4
   clear k4
   have A4:=k5
   clear k5
   have H5:=k6
   clear k6
   have L5:=k7
   clear k7
   have G:=k9
   clear k9
   have qw42_l:=qB41.lt
   have qw42_n:=k8
   clear k8
   go_wp2_with (fail)
   exact bodyPost_ret (results_5 (hs:=rfl) (t:=6) (u:=7) (v:=8) (x:=9) (y:=10) rfl _ rfl rfl rfl qB11 qB14 qB17) rfl (hidI ⟨_,_,_,_,_,_,_,_,_,_,by rw [ek.out];rfl,H5,A2,by rw [ek.out];exact L5,by rw [ek.out];exact A4,⟨hnp,hnq⟩,G⟩)
  case false=>
   have ek:Hid (kw=3):=(by rw [hkw.out];unfold rlWay;rw [e1.out,e2.out,e3.out,e4.out,hgL,hgR];rfl:kw=3)
   replace hgL:Hid _:=hgL
   replace hgR:Hid _:=hgR
   refine vR ?_
   refine vV (.pointer (some ⟨j,0,none⟩)) ?_
   refine vC (jMove3e r d e n sr sd se sn L ps R qs gL gR g1 c1 g2 c2 ga gb j w.heap.size _ E A1 A2 A3 A4 ⟨hj1,hj2,hj3,hj4⟩ e1.out e2.out e3.out e4.out hgL.out hgR.out) ?_
   rintro _ qw39 ⟨g7,c7,g8,c8,rfl,qB41,H8,H7,-,-,hn7,qt40⟩
   refine ⟨_,rfl,?_⟩
   clear E
   replace qB2:=qB2.touch qt40 (by omega)
   replace qB5:=qB5.touch qt40 (by omega)
   replace qB8:=qB8.touch qt40 (by omega)
   replace qB11:=qB11.touch qt40 (by omega)
   replace qB14:=qB14.touch qt40 (by omega)
   replace qB17:=qB17.touch qt40 (by omega)
   replace A1:=A1.touch qt40 (by omega)
   replace A2:=A2.touch qt40 (by omega)
   replace A3:=A3.touch qt40 (by omega)
   replace A4:=A4.touch qt40 (by omega)
   replace G:=since_touch G qt40 (by omega)
   have qt40_s:=qt40.size
   obtain ⟨hnx,hny,hnp⟩:=hn7
   have H8_0:=H8.low'
   replace H8:=H8.raise (show w.heap.size≤g8 by omega)
   have H8_1:=H8.lt
   have H7_0:=H7.low'
   replace H7:=H7.raise (show w.heap.size≤g7 by omega)
   have H7_1:=H7.lt
   clear A1 A2
   refine vE #[qz19,qz20,qz21,pX w.heap.size 0,pX qw1.heap.size 0,pX qw4.heap.size 0,pX qw7.heap.size 0,pX qw10.heap.size 0,pX qw13.heap.size 0,.slice none 0 0,.slice none 0 0,pX j 0,qz24,qz25,qz26,pX j 0,pX w.heap.size 0,qz35,.bool true,.bool true,pX w.heap.size 4,qz36,.bool true,.bool true,.bool true,qz37,.bool true,.bool true,.bool true,qz38,.bool true,.bool true,pX j 0,.tuple #[],U,U,U,U,U,U,U,U,U,U,U,U,U,U,U,U,U,U] ?_
   go_upto_region 4 with (fail)
   clear qB2 qB5 qB8
   have o_w:w.heap.size≤qw7.heap.size:=by omega
   have o_t0:qw7.heap.size<qw10.heap.size:=by omega
   have o_t1:qw10.heap.size<qw13.heap.size:=by omega
   have o_x0:qw13.heap.size<j:=by omega
   have o_y0:j<qw39.heap.size:=by omega
   have o_x1:qw13.heap.size<g8:=by omega
   have o_y1:g8<qw39.heap.size:=by omega
   have o_x2:qw13.heap.size<g7:=by omega
   have o_y2:g7<qw39.heap.size:=by omega
   have o_x3:qw13.heap.size<ga:=by omega
   have o_y3:ga<qw39.heap.size:=by omega
   have o_x4:qw13.heap.size<gb:=by omega
   have o_y4:gb<qw39.heap.size:=by omega
   have o_n:qw13.heap.size<qw39.heap.size:=by omega
   try clear qB2_l
   try clear qg3_s
   try clear qB5_l
   try clear qg6_s
   try clear qB8_l
   try clear qg9_s
   try clear qB11_l
   try clear qg12_s
   try clear qB14_l
   try clear qg15_s
   try clear qB17_l
   try clear qg18_s
   try clear qg23_s
   try clear E_l
   try clear A1_0
   try clear A1_1
   try clear A2_0
   try clear A2_1
   try clear A3_0
   try clear A3_1
   try clear A4_0
   try clear A4_1
   try clear qg28_s
   try clear qg30_s
   try clear qg32_s
   try clear qg34_s
   try clear qt40_s
   try clear H8_0
   try clear H8_1
   try clear H7_0
   try clear H7_1
   refine wp_region_low (Low (fun b=>b=qw7.heap.size∨b=qw10.heap.size∨b=qw13.heap.size)) (fun i x v=>match i with
     | 0=>v=.pointer (some ⟨j,0,none⟩)
     | 1=>v=.agg #[.int .i64 r,.string (mvD r d n L ps R qs),.bool (mvE r d e n L ps R qs),.int .i64 (mvN r d n L ps R qs),.int .i64 sr,.string (mvD sr sd sn (mvT r d e n L ps R qs) qs (mvF r d n L ps R qs) ps),.bool (mvE sr sd se sn (mvT r d e n L ps R qs) qs (mvF r d n L ps R qs) ps),.int .i64 (mvN sr sd sn (mvT r d e n L ps R qs) qs (mvF r d n L ps R qs) ps)]
     | 2=>v=.pointer (some ⟨j,0,none⟩)
     | 3=>v=.pointer (some ⟨j,0,none⟩)
     | 4=>v=.pointer (some ⟨j,10,none⟩)
     | 5=>v=.agg (cnCells {(mvT sr sd se sn (mvT r d e n L ps R qs) qs (mvF r d n L ps R qs) ps) with pa:=some ⟨g8,0,none⟩,pc:=c8})
     | 6=>v=.pointer (some ⟨j,0,none⟩)
     | 7=>v=.pointer (some ⟨j,0,none⟩)
     | 8=>v=.pointer (some ⟨j,47,none⟩)
     | 9=>v=.agg (cnCells {(mvF sr sd sn (mvT r d e n L ps R qs) qs (mvF r d n L ps R qs) ps) with pa:=some ⟨g7,0,none⟩,pc:=c7})
     | 10=>v=.pointer (some ⟨j,0,none⟩)
     | 11=>v=.pointer (some ⟨j,0,none⟩)
     | 12=>v=.pointer (some ⟨j,84,none⟩)
     | 13=>v=.slice (some ⟨ga,0,none⟩) 0 0
     | 14=>v=.pointer (some ⟨j,0,none⟩)
     | 15=>v=.pointer (some ⟨j,0,none⟩)
     | 16=>v=.pointer (some ⟨j,85,none⟩)
     | 17=>v=.slice (some ⟨gb,0,none⟩) 0 0
     | 18=>True
     | 19=>True
     | 20=>True
     | 21=>v=.slice (some ⟨ga,0,none⟩) 0 0
     | 22=>v=.slice (some ⟨gb,0,none⟩) 0 0
     | _=>True) (fun f vals x=>Blk qw7.heap.size x (if f 18 then #[.int .i64 r,.string (mvD r d n L ps R qs),.bool (mvE r d e n L ps R qs),.int .i64 (mvN r d n L ps R qs),.int .i64 sr,.string (mvD sr sd sn (mvT r d e n L ps R qs) qs (mvF r d n L ps R qs) ps),.bool (mvE sr sd se sn (mvT r d e n L ps R qs) qs (mvF r d n L ps R qs) ps),.int .i64 (mvN sr sd sn (mvT r d e n L ps R qs) qs (mvF r d n L ps R qs) ps)] else #[.int .i64 0,.string ByteArray.empty,.bool false,.int .i64 0,.int .i64 0,.string ByteArray.empty,.bool false,.int .i64 0])∧Blk qw10.heap.size x (if f 19 then (cnCells {(mvT sr sd se sn (mvT r d e n L ps R qs) qs (mvF r d n L ps R qs) ps) with pa:=some ⟨g8,0,none⟩,pc:=c8}) else (cnCells cnZero))∧Blk qw13.heap.size x (if f 20 then (cnCells {(mvF sr sd sn (mvT r d e n L ps R qs) qs (mvF r d n L ps R qs) ps) with pa:=some ⟨g7,0,none⟩,pc:=c7}) else (cnCells cnZero))∧Blk j x (jnCells ⟨0,0,r,(mvD r d n L ps R qs),(mvE r d e n L ps R qs),(mvN r d n L ps R qs),sr,(mvD sr sd sn (mvT r d e n L ps R qs) qs (mvF r d n L ps R qs) ps),(mvE sr sd se sn (mvT r d e n L ps R qs) qs (mvF r d n L ps R qs) ps),(mvN sr sd sn (mvT r d e n L ps R qs) qs (mvF r d n L ps R qs) ps),{(mvT sr sd se sn (mvT r d e n L ps R qs) qs (mvF r d n L ps R qs) ps) with pa:=some ⟨g8,0,none⟩,pc:=c8},{(mvF sr sd sn (mvT r d e n L ps R qs) qs (mvF r d n L ps R qs) ps) with pa:=some ⟨g7,0,none⟩,pc:=c7},some ⟨ga,0,none⟩,0,0,some ⟨gb,0,none⟩,0,0⟩)∧Held shG x w.heap.size ga 0 0 ([]:List Sg)∧Held shG x w.heap.size gb 0 0 ([]:List Sg)∧Held shP x w.heap.size g8 L.pn c8 ps∧Held shP x w.heap.size g7 R.pn c7 qs∧qw39.heap.size≤x.heap.size∧Since w x) (fun v=>{tmps:=#[qz19,qz20,qz21,.pointer (some ⟨w.heap.size,0,none⟩),.pointer (some ⟨qw1.heap.size,0,none⟩),.pointer (some ⟨qw4.heap.size,0,none⟩),.pointer (some ⟨qw7.heap.size,0,none⟩),.pointer (some ⟨qw10.heap.size,0,none⟩),.pointer (some ⟨qw13.heap.size,0,none⟩),v 21,v 22,.pointer (some ⟨j,0,none⟩),qz24,qz25,qz26,.pointer (some ⟨j,0,none⟩),.pointer (some ⟨w.heap.size,0,none⟩),qz35,.bool true,.bool true,.pointer (some ⟨w.heap.size,4,none⟩),qz36,.bool true,.bool true,.bool true,qz37,.bool true,.bool true,.bool true,qz38,.bool true,.bool true,.pointer (some ⟨j,0,none⟩),.tuple #[],v 0,v 1,v 2,v 3,v 4,v 5,v 6,v 7,v 8,v 9,v 10,v 11,v 12,v 13,v 14,v 15,v 16,v 17],defers:=[]}) (by kernel_rfl) (by kernel_rfl) ?_ ?_ (fun vals=>by kernel_rfl) ?_ ?_
   case refine_1=>
    intro j x y v hl hv
    match j,hv with
    | 0,hv|1,hv|2,hv|3,hv|4,hv|5,hv|6,hv|7,hv|8,hv|9,hv|10,hv|11,hv|12,hv|13,hv|14,hv|15,hv|16,hv|17,hv|21,hv|22,hv=>exact hv
    | 18,hv|19,hv|20,hv=>trivial
    | n+23,_=>trivial
   case refine_2=>
    intro f vals hf
    refine ⟨(by rw [hf 18];exact qB11.since ((Since.refl _).drew)),(by rw [hf 19];exact qB14.since ((Since.refl _).drew)),(by rw [hf 20];exact qB17.since ((Since.refl _).drew)),qB41.since ((Since.refl _).drew),A3.since ((Since.refl _).drew),A4.since ((Since.refl _).drew),H8.since ((Since.refl _).drew),H7.since ((Since.refl _).drew),((Since.refl _).drew).size,G.trans ((Since.refl _).drew)⟩
   case refine_3=>
    repeat (first|exact eachLow_nil|refine eachLow_cons ?_ ?_)
    all_goals intro f vals x hf hr hK
    all_goals obtain ⟨k0,k1,k2,k3,k4,k5,k6,k7,k8,k9⟩:=hK
    ·have e17:vals 17=.slice (some ⟨gb,0,none⟩) 0 0:=(hr ⟨17,.data⟩ (by simp) rfl).2
     simp [does,doesUpon,go_sem,e17]
     exact ⟨Low.since (b:=qw7.heap.size) (Since.refl _) (Or.inl rfl),⟨k0,k1,k2,k3,k4,k5,k6,k7,k8,k9⟩⟩
    ·have e13:vals 13=.slice (some ⟨ga,0,none⟩) 0 0:=(hr ⟨13,.data⟩ (by simp) rfl).2
     simp [does,doesUpon,go_sem,e13]
     exact ⟨Low.since (b:=qw7.heap.size) (Since.refl _) (Or.inl rfl),⟨k0,k1,k2,k3,k4,k5,k6,k7,k8,k9⟩⟩
    ·have ev:vals 9=.agg (cnCells {(mvF sr sd sn (mvT r d e n L ps R qs) qs (mvF r d n L ps R qs) ps) with pa:=some ⟨g7,0,none⟩,pc:=c7}):=(hr ⟨9,.data⟩ (by simp) rfl).2
     have kz:Blk qw13.heap.size x (cnCells cnZero):=by have:=k2;rw [hf] at this;exact this
     refine does_store cn_big (cn_size _) (Raw.of kz (cn_size _)) (cn_one _) _ _ rfl rfl ev ?_
     intro z t B
     exact ⟨Low.touch t (show qw13.heap.size=qw7.heap.size∨qw13.heap.size=qw10.heap.size∨qw13.heap.size=qw13.heap.size by omega),⟨k0.touch t (by omega),k1.touch t (by omega),B,k3.touch t (by omega),k4.touch t (by omega),k5.touch t (by omega),k6.touch t (by omega),k7.touch t (by omega),Nat.le_trans k8 t.size,since_touch k9 t (by omega)⟩,trivial⟩
    ·have ev:vals 5=.agg (cnCells {(mvT sr sd se sn (mvT r d e n L ps R qs) qs (mvF r d n L ps R qs) ps) with pa:=some ⟨g8,0,none⟩,pc:=c8}):=(hr ⟨5,.data⟩ (by simp) rfl).2
     have kz:Blk qw10.heap.size x (cnCells cnZero):=by have:=k1;rw [hf] at this;exact this
     refine does_store cn_big (cn_size _) (Raw.of kz (cn_size _)) (cn_one _) _ _ rfl rfl ev ?_
     intro z t B
     exact ⟨Low.touch t (show qw10.heap.size=qw7.heap.size∨qw10.heap.size=qw10.heap.size∨qw10.heap.size=qw13.heap.size by omega),⟨k0.touch t (by omega),B,k2.touch t (by omega),k3.touch t (by omega),k4.touch t (by omega),k5.touch t (by omega),k6.touch t (by omega),k7.touch t (by omega),Nat.le_trans k8 t.size,since_touch k9 t (by omega)⟩,trivial⟩
    ·have ev:vals 1=.agg #[.int .i64 r,.string (mvD r d n L ps R qs),.bool (mvE r d e n L ps R qs),.int .i64 (mvN r d n L ps R qs),.int .i64 sr,.string (mvD sr sd sn (mvT r d e n L ps R qs) qs (mvF r d n L ps R qs) ps),.bool (mvE sr sd se sn (mvT r d e n L ps R qs) qs (mvF r d n L ps R qs) ps),.int .i64 (mvN sr sd sn (mvT r d e n L ps R qs) qs (mvF r d n L ps R qs) ps)]:=(hr ⟨1,.data⟩ (by simp) rfl).2
     have kz:Blk qw7.heap.size x #[.int .i64 0,.string ByteArray.empty,.bool false,.int .i64 0,.int .i64 0,.string ByteArray.empty,.bool false,.int .i64 0]:=by have:=k0;rw [hf] at this;exact this
     refine does_store rl_big rfl (Raw.of kz rfl) (by simp [Value.oneCell']) _ _ rfl rfl ev ?_
     intro z t B
     exact ⟨Low.touch t (show qw7.heap.size=qw7.heap.size∨qw7.heap.size=qw10.heap.size∨qw7.heap.size=qw13.heap.size by omega),⟨B,k1.touch t (by omega),k2.touch t (by omega),k3.touch t (by omega),k4.touch t (by omega),k5.touch t (by omega),k6.touch t (by omega),k7.touch t (by omega),Nat.le_trans k8 t.size,since_touch k9 t (by omega)⟩,trivial⟩
    ·have e16:vals 16=.pointer (some ⟨j,85,none⟩):=(hr ⟨16,.data⟩ (by simp) rfl).2
     have fl:x.cell? ⟨j,85,none⟩=some (.slice (some ⟨gb,0,none⟩) 0 0):=(k3.cell 85).trans (jn_tl _ 1 _ rfl)
     simp [does,doesUpon,go_sem,e16,fl]
     exact ⟨Low.since (b:=qw7.heap.size) (Since.refl _) (Or.inl rfl),⟨k0,k1,k2,k3,k4,k5,k6,k7,k8,k9⟩⟩
    ·have e15:vals 15=.pointer (some ⟨j,0,none⟩):=(hr ⟨15,.data⟩ (by simp) rfl).2
     exact does_val (.pointer (some ⟨j,85,none⟩)) x (by simp only [e15];kernel_rfl) ⟨Low.since (b:=qw7.heap.size) (Since.refl _) (Or.inl rfl),⟨k0,k1,k2,k3,k4,k5,k6,k7,k8,k9⟩,rfl⟩
    ·have e14:vals 14=.pointer (some ⟨j,0,none⟩):=(hr ⟨14,.data⟩ (by simp) rfl).2
     simp [does,doesUpon,go_sem,e14]
     exact ⟨Low.since (b:=qw7.heap.size) (Since.refl _) (Or.inl rfl),⟨k0,k1,k2,k3,k4,k5,k6,k7,k8,k9⟩⟩
    ·skip
     simp [does,doesUpon,go_sem]
     exact ⟨Low.since (b:=qw7.heap.size) (Since.refl _) (Or.inl rfl),⟨k0,k1,k2,k3,k4,k5,k6,k7,k8,k9⟩⟩
    ·have e12:vals 12=.pointer (some ⟨j,84,none⟩):=(hr ⟨12,.data⟩ (by simp) rfl).2
     have fl:x.cell? ⟨j,84,none⟩=some (.slice (some ⟨ga,0,none⟩) 0 0):=(k3.cell 84).trans (jn_tl _ 0 _ rfl)
     simp [does,doesUpon,go_sem,e12,fl]
     exact ⟨Low.since (b:=qw7.heap.size) (Since.refl _) (Or.inl rfl),⟨k0,k1,k2,k3,k4,k5,k6,k7,k8,k9⟩⟩
    ·have e11:vals 11=.pointer (some ⟨j,0,none⟩):=(hr ⟨11,.data⟩ (by simp) rfl).2
     exact does_val (.pointer (some ⟨j,84,none⟩)) x (by simp only [e11];kernel_rfl) ⟨Low.since (b:=qw7.heap.size) (Since.refl _) (Or.inl rfl),⟨k0,k1,k2,k3,k4,k5,k6,k7,k8,k9⟩,rfl⟩
    ·have e10:vals 10=.pointer (some ⟨j,0,none⟩):=(hr ⟨10,.data⟩ (by simp) rfl).2
     simp [does,doesUpon,go_sem,e10]
     exact ⟨Low.since (b:=qw7.heap.size) (Since.refl _) (Or.inl rfl),⟨k0,k1,k2,k3,k4,k5,k6,k7,k8,k9⟩⟩
    ·skip
     simp [does,doesUpon,go_sem]
     exact ⟨Low.since (b:=qw7.heap.size) (Since.refl _) (Or.inl rfl),⟨k0,k1,k2,k3,k4,k5,k6,k7,k8,k9⟩⟩
    ·have e8:vals 8=.pointer (some ⟨j,47,none⟩):=(hr ⟨8,.data⟩ (by simp) rfl).2
     exact does_part_load k3 cn_big _ rfl 47 e8 (cnCells {(mvF sr sd sn (mvT r d e n L ps R qs) qs (mvF r d n L ps R qs) ps) with pa:=some ⟨g7,0,none⟩,pc:=c7}).toList rfl (jn_R (⟨0,0,r,(mvD r d n L ps R qs),(mvE r d e n L ps R qs),(mvN r d n L ps R qs),sr,(mvD sr sd sn (mvT r d e n L ps R qs) qs (mvF r d n L ps R qs) ps),(mvE sr sd se sn (mvT r d e n L ps R qs) qs (mvF r d n L ps R qs) ps),(mvN sr sd sn (mvT r d e n L ps R qs) qs (mvF r d n L ps R qs) ps),{(mvT sr sd se sn (mvT r d e n L ps R qs) qs (mvF r d n L ps R qs) ps) with pa:=some ⟨g8,0,none⟩,pc:=c8},{(mvF sr sd sn (mvT r d e n L ps R qs) qs (mvF r d n L ps R qs) ps) with pa:=some ⟨g7,0,none⟩,pc:=c7},some ⟨ga,0,none⟩,0,0,some ⟨gb,0,none⟩,0,0⟩:Jn)) ⟨Low.since (b:=qw7.heap.size) (Since.refl _) (Or.inl rfl),⟨k0,k1,k2,k3,k4,k5,k6,k7,k8,k9⟩,rfl⟩
    ·have e7:vals 7=.pointer (some ⟨j,0,none⟩):=(hr ⟨7,.data⟩ (by simp) rfl).2
     exact does_val (.pointer (some ⟨j,47,none⟩)) x (by simp only [e7];kernel_rfl) ⟨Low.since (b:=qw7.heap.size) (Since.refl _) (Or.inl rfl),⟨k0,k1,k2,k3,k4,k5,k6,k7,k8,k9⟩,rfl⟩
    ·have e6:vals 6=.pointer (some ⟨j,0,none⟩):=(hr ⟨6,.data⟩ (by simp) rfl).2
     simp [does,doesUpon,go_sem,e6]
     exact ⟨Low.since (b:=qw7.heap.size) (Since.refl _) (Or.inl rfl),⟨k0,k1,k2,k3,k4,k5,k6,k7,k8,k9⟩⟩
    ·skip
     simp [does,doesUpon,go_sem]
     exact ⟨Low.since (b:=qw7.heap.size) (Since.refl _) (Or.inl rfl),⟨k0,k1,k2,k3,k4,k5,k6,k7,k8,k9⟩⟩
    ·have e4:vals 4=.pointer (some ⟨j,10,none⟩):=(hr ⟨4,.data⟩ (by simp) rfl).2
     exact does_part_load k3 cn_big _ rfl 10 e4 (cnCells {(mvT sr sd se sn (mvT r d e n L ps R qs) qs (mvF r d n L ps R qs) ps) with pa:=some ⟨g8,0,none⟩,pc:=c8}).toList rfl (jn_L (⟨0,0,r,(mvD r d n L ps R qs),(mvE r d e n L ps R qs),(mvN r d n L ps R qs),sr,(mvD sr sd sn (mvT r d e n L ps R qs) qs (mvF r d n L ps R qs) ps),(mvE sr sd se sn (mvT r d e n L ps R qs) qs (mvF r d n L ps R qs) ps),(mvN sr sd sn (mvT r d e n L ps R qs) qs (mvF r d n L ps R qs) ps),{(mvT sr sd se sn (mvT r d e n L ps R qs) qs (mvF r d n L ps R qs) ps) with pa:=some ⟨g8,0,none⟩,pc:=c8},{(mvF sr sd sn (mvT r d e n L ps R qs) qs (mvF r d n L ps R qs) ps) with pa:=some ⟨g7,0,none⟩,pc:=c7},some ⟨ga,0,none⟩,0,0,some ⟨gb,0,none⟩,0,0⟩:Jn)) ⟨Low.since (b:=qw7.heap.size) (Since.refl _) (Or.inl rfl),⟨k0,k1,k2,k3,k4,k5,k6,k7,k8,k9⟩,rfl⟩
    ·have e3:vals 3=.pointer (some ⟨j,0,none⟩):=(hr ⟨3,.data⟩ (by simp) rfl).2
     exact does_val (.pointer (some ⟨j,10,none⟩)) x (by simp only [e3];kernel_rfl) ⟨Low.since (b:=qw7.heap.size) (Since.refl _) (Or.inl rfl),⟨k0,k1,k2,k3,k4,k5,k6,k7,k8,k9⟩,rfl⟩
    ·have e2:vals 2=.pointer (some ⟨j,0,none⟩):=(hr ⟨2,.data⟩ (by simp) rfl).2
     simp [does,doesUpon,go_sem,e2]
     exact ⟨Low.since (b:=qw7.heap.size) (Since.refl _) (Or.inl rfl),⟨k0,k1,k2,k3,k4,k5,k6,k7,k8,k9⟩⟩
    ·skip
     simp [does,doesUpon,go_sem]
     exact ⟨Low.since (b:=qw7.heap.size) (Since.refl _) (Or.inl rfl),⟨k0,k1,k2,k3,k4,k5,k6,k7,k8,k9⟩⟩
    ·skip
     have e0:vals 0=.pointer (some ⟨j,0,none⟩):=(hr ⟨0,.data⟩ (by simp) rfl).2
     simp [does,doesUpon,go_sem,e0]
     refine (jRelay ⟨0,0,r,(mvD r d n L ps R qs),(mvE r d e n L ps R qs),(mvN r d n L ps R qs),sr,(mvD sr sd sn (mvT r d e n L ps R qs) qs (mvF r d n L ps R qs) ps),(mvE sr sd se sn (mvT r d e n L ps R qs) qs (mvF r d n L ps R qs) ps),(mvN sr sd sn (mvT r d e n L ps R qs) qs (mvF r d n L ps R qs) ps),{(mvT sr sd se sn (mvT r d e n L ps R qs) qs (mvF r d n L ps R qs) ps) with pa:=some ⟨g8,0,none⟩,pc:=c8},{(mvF sr sd sn (mvT r d e n L ps R qs) qs (mvF r d n L ps R qs) ps) with pa:=some ⟨g7,0,none⟩,pc:=c7},some ⟨ga,0,none⟩,0,0,some ⟨gb,0,none⟩,0,0⟩ j _ k3).mono ?_
     rintro _ x' ⟨rfl,h1⟩
     exact ⟨_,rfl,Low.since (b:=qw7.heap.size) h1 (Or.inl rfl),⟨k0.since h1,k1.since h1,k2.since h1,k3.since h1,k4.since h1,k5.since h1,k6.since h1,k7.since h1,Nat.le_trans k8 h1.size,k9.trans h1⟩,rfl⟩
    ·skip
     simp [does,doesUpon,go_sem]
     exact ⟨Low.since (b:=qw7.heap.size) (Since.refl _) (Or.inl rfl),⟨k0,k1,k2,k3,k4,k5,k6,k7,k8,k9⟩⟩
   intro f qv43 qw42 hK hf hv
   obtain ⟨k0,k1,k2,k3,k4,k5,k6,k7,k8,k9⟩:=hK
   clear qB11 qB14 qB17 qB41 A3 A4 H8 H7 G
   have hv0:qv43 0=_:=hv 0 (by decide)
   have hv1:qv43 1=_:=hv 1 (by decide)
   have hv2:qv43 2=_:=hv 2 (by decide)
   have hv3:qv43 3=_:=hv 3 (by decide)
   have hv4:qv43 4=_:=hv 4 (by decide)
   have hv5:qv43 5=_:=hv 5 (by decide)
   have hv6:qv43 6=_:=hv 6 (by decide)
   have hv7:qv43 7=_:=hv 7 (by decide)
   have hv8:qv43 8=_:=hv 8 (by decide)
   have hv9:qv43 9=_:=hv 9 (by decide)
   have hv10:qv43 10=_:=hv 10 (by decide)
   have hv11:qv43 11=_:=hv 11 (by decide)
   have hv12:qv43 12=_:=hv 12 (by decide)
   have hv13:qv43 13=_:=hv 13 (by decide)
   have hv14:qv43 14=_:=hv 14 (by decide)
   have hv15:qv43 15=_:=hv 15 (by decide)
   have hv16:qv43 16=_:=hv 16 (by decide)
   have hv17:qv43 17=_:=hv 17 (by decide)
   have hv21:qv43 21=_:=hv 21 (by decide)
   have hv22:qv43 22=_:=hv 22 (by decide)
   clear hv
   simp only [hv0,hv1,hv2,hv3,hv4,hv5,hv6,hv7,hv8,hv9,hv10,hv11,hv12,hv13,hv14,hv15,hv16,hv17,hv21,hv22]
   clear hv0 hv1 hv2 hv3 hv4 hv5 hv6 hv7 hv8 hv9 hv10 hv11 hv12 hv13 hv14 hv15 hv16 hv17 hv21 hv22
   have qB11:Blk qw7.heap.size qw42 #[.int .i64 r,.string (mvD r d n L ps R qs),.bool (mvE r d e n L ps R qs),.int .i64 (mvN r d n L ps R qs),.int .i64 sr,.string (mvD sr sd sn (mvT r d e n L ps R qs) qs (mvF r d n L ps R qs) ps),.bool (mvE sr sd se sn (mvT r d e n L ps R qs) qs (mvF r d n L ps R qs) ps),.int .i64 (mvN sr sd sn (mvT r d e n L ps R qs) qs (mvF r d n L ps R qs) ps)]:=by have:=k0;rw [hf 18 (by decide)] at this;exact this
   clear k0
   have qB14:Blk qw10.heap.size qw42 (cnCells {(mvT sr sd se sn (mvT r d e n L ps R qs) qs (mvF r d n L ps R qs) ps) with pa:=some ⟨g8,0,none⟩,pc:=c8}):=by have:=k1;rw [hf 19 (by decide)] at this;exact this
   clear k1
   have qB17:Blk qw13.heap.size qw42 (cnCells {(mvF sr sd sn (mvT r d e n L ps R qs) qs (mvF r d n L ps R qs) ps) with pa:=some ⟨g7,0,none⟩,pc:=c7}):=by have:=k2;rw [hf 20 (by decide)] at this;exact this
   clear k2
   have qB41:=k3
   clear k3
   have A3:=k4
   clear k4
   have A4:=k5
   clear k5
   have H8:=k6
   clear k6
   have H7:=k7
   clear k7
   have G:=k9
   clear k9
   have qw42_l:=qB41.lt
   have qw42_n:=k8
   clear k8
   go_wp2_with (fail)
   exact bodyPost_ret (results_5 (hs:=rfl) (t:=6) (u:=7) (v:=8) (x:=9) (y:=10) rfl _ rfl rfl rfl qB11 qB14 qB17) rfl (hidI ⟨_,_,_,_,_,_,_,_,_,_,by rw [ek.out];rfl,H8,H7,by rw [ek.out];exact A3,by rw [ek.out];exact A4,⟨hnp.symm,hdab⟩,G⟩)

set_option maxRecDepth 20000 in
set_option maxHeartbeats 16000000 in
theorem implRelay (r:Int) (d:ByteArray) (e:Bool) (n:Int) (sr:Int) (sd:ByteArray) (se:Bool) (sn:Int) (L:Cn) (ps:List (Int×ByteArray)) (R:Cn) (qs:List (Int×ByteArray)) (gL:GoodC L ps) (gR:GoodC R qs) (hd:d.size≤1048576) (hf:sd.size≤1048576) (q p q2 p2:Nat) (w:World) (RL:Rd shP w (some ⟨q,0,none⟩) L.pn ps) (RR:Rd shP w (some ⟨q2,0,none⟩) R.pn qs)  :
  Calls Tryz.prog 9 #[.agg #[.int .i64 r,.string d,.bool e,.int .i64 n,.int .i64 sr,.string sd,.bool se,.int .i64 sn],.agg (cnCells {L with pa:=some ⟨q,0,none⟩,pc:=p}),.agg (cnCells {R with pa:=some ⟨q2,0,none⟩,pc:=p2})] w fun x w'=>Hid (∃ (A:Rl) (g1 c1 g2 c2 ga ma ca gb mb cb:Nat),A=(rlAns (rlWay r d n sr sd sn L ps R qs) r d e n sr sd se sn L ps R qs)∧x=.returned (.tuple #[.agg #[.int .i64 r,.string A.d,.bool A.e,.int .i64 A.n,.int .i64 sr,.string A.f,.bool A.g,.int .i64 A.m],.agg (cnCells {A.L with pa:=some ⟨g1,0,none⟩,pc:=c1}),.agg (cnCells {A.R with pa:=some ⟨g2,0,none⟩,pc:=c2}),.slice (some ⟨ga,0,none⟩) ma ca,.slice (some ⟨gb,0,none⟩) mb cb])∧Held shP w' w.heap.size g1 L.pn c1 ps∧Held shP w' w.heap.size g2 R.pn c2 qs∧Held shG w' w.heap.size ga ma ca A.xa∧Held shG w' w.heap.size gb mb cb A.xb∧(g1≠g2∧ga≠gb)∧Since w w'):=by
 cases hno:(pipeOk r d n && (pipeOk sr sd sn && (connOk L ps && connOk R qs)))
 case false=>exact implR0 r d e n sr sd se sn L ps R qs gL gR hd hf q p q2 p2 w RL RR hno
 case true=>
 simp only [Bool.and_eq_true] at hno
 obtain ⟨e1,e2,e3,e4⟩:=hno
 exact implRy r d e n sr sd se sn L ps R qs gL gR hd hf q p q2 p2 w RL RR e1 e2 e3 e4
end Go.Proofs.YtnbopjlpemmkcaaGreat
