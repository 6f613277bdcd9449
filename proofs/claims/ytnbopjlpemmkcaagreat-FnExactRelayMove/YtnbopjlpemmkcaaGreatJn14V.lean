/-
  A junction moved under its lock.
-/
import Derived.Test.YtnbopjlpemmkcaaGreatM14
import Derived.Deep.DeepCutAuto
namespace Go.Proofs.YtnbopjlpemmkcaaGreat
open Go.ChangeShapes Go.WideShapes Go.ChangeAt Go.RowKit Go.Deep
set_option linter.unusedVariables false
set_option maxRecDepth 10000
set_option linter.unusedSimpArgs false

set_option maxRecDepth 20000 in
set_option maxHeartbeats 16000000 in
theorem condMv (r:Int) (d:ByteArray) (e:Bool) (n:Int) (F:Cn) (ps:List (Int×ByteArray)) (T:Cn) (qs:List (Int×ByteArray)) (gF:GoodC F ps) (gT:GoodC T qs) (hm:mvOk r d n F ps T qs=true) (q p q2 p2 c kk:Nat) (pre post:List Value) (w:World) (C:Cdt c kk pre post w #[.int .i64 r,.string d,.bool e,.int .i64 n]) (Rx:Rd shP w (some ⟨q,0,none⟩) F.pn ps) (R2:∀ x,Touch c w x→Rd shP x (some ⟨q2,0,none⟩) T.pn qs) :
  Calls Tryz.prog 72 #[.pointer (some ⟨c,kk,none⟩),.agg (cnCells {F with pa:=some ⟨q,0,none⟩,pc:=p}),.agg (cnCells {T with pa:=some ⟨q2,0,none⟩,pc:=p2})] w fun x w'=>∃ g cp g2 cp2,x=.returned (.tuple #[.agg (cnCells {(mvF r d n F ps T qs) with pa:=some ⟨g,0,none⟩,pc:=cp}),.agg (cnCells {(mvT r d e n F ps T qs) with pa:=some ⟨g2,0,none⟩,pc:=cp2})])∧Held shP w' w.heap.size g F.pn cp ps∧Held shP w' w.heap.size g2 T.pn cp2 qs∧g≠g2∧Touch c w w'∧Cdt c kk pre post w' #[.int .i64 r,.string (mvD r d n F ps T qs),.bool (mvE r d e n F ps T qs),.int .i64 (mvN r d n F ps T qs)]:=by
 have hp:pipeOk r d n=true:=by
  unfold mvOk at hm
  simp only [Bool.and_eq_true] at hm
  exact hm.1
 have h0:=(pipeOk_iff r d n).1 hp
 have h:=condMove r d e n (by omega) (by omega) (by omega) gF gT _ rfl _ rfl _ rfl _ rfl _ rfl _ rfl _ rfl _ rfl q p q2 p2 c kk pre post w C Rx R2
 unfold mvF mvT mvD mvE mvN
 simp only [hm,if_true]
 exact h

theorem iAbort {c:Cn} {ps:List (Int×ByteArray)} (gc:GoodC c ps) (q p:Nat) (w:World) (Rx:Rd shP w (some ⟨q,0,none⟩) c.pn ps) :
  Calls Tryz.prog 71 #[.agg (cnCells {c with pa:=some ⟨q,0,none⟩,pc:=p})] w fun e w'=>∃ g cp ga m ca,e=.returned (.tuple #[.agg (cnCells {abortC c ps with pa:=some ⟨g,0,none⟩,pc:=cp}),.slice (some ⟨ga,0,none⟩) m ca])∧Held shP w' w.heap.size g c.pn cp ps∧Held shG w' w.heap.size ga m ca (abortS c ps)∧Since w w':=by
 refine (implAbort {c with pa:=some ⟨q,0,none⟩,pc:=p} ps (good_at gc _ _) w Rx).mono ?_
 rintro e w' ⟨g,ga,m,ca,h,H,L,hne,k⟩
 refine ⟨g,c.pn,ga,m,ca,h.trans ?_,H,L,k⟩
 rw [abort_at]

def tup0:Value→Value
 | .tuple a=>a.getD 0 undef
 | _=>undef

def tup1:Value→Value
 | .tuple a=>a.getD 1 undef
 | _=>undef

structure MvK (j:Nat) (J0:Jn) (J1:Cn→Cn→Jn) (X Y:Cn) (NX NY:Nat→Nat→Cn) (P:World→Prop) (Hn:Nat→Nat→Nat→Nat→World→Prop) (b8 b12 b13 b14 b15 b16 b19 b22:Bool) (v13 v14 v15 v16:Value) (x:World):Prop where
 pre:b13=false→Blk j x (jnCells J0)∧P x
 suf:b13=true→(b8=true∧b12=true)∧∃ g5 c5 g6 c6,v13=.tuple #[.agg (cnCells (NX g5 c5)),.agg (cnCells (NY g6 c6))]∧Blk j x (jnCells (J1 (if b19 then NX g5 c5 else X) (if b22 then NY g6 c6 else Y)))∧Hn g5 c5 g6 c6 x
 m14:b14=true→b13=true∧v14=v13
 m15:b15=true→b13=true∧v15=tup0 v13
 m16:b16=true→b13=true∧v16=tup1 v13
 s19:b19=true→b13=true
 s22:b22=true→b13=true

set_option maxRecDepth 20000 in
set_option maxHeartbeats 16000000 in
theorem jMove1 (r:Int) (d:ByteArray) (e:Bool) (n:Int) (sr:Int) (sd:ByteArray) (se:Bool) (sn:Int) (L:Cn) (ps:List (Int×ByteArray)) (R:Cn) (qs:List (Int×ByteArray)) (gL:GoodC L ps) (gR:GoodC R qs) (g1 c1 g2 c2 ga gb j B:Nat) (w:World) (E:Blk j w (jnCells ⟨0,0,r,d,e,n,sr,sd,se,sn,{L with pa:=some ⟨g1,0,none⟩,pc:=c1},{R with pa:=some ⟨g2,0,none⟩,pc:=c2},some ⟨ga,0,none⟩,0,0,some ⟨gb,0,none⟩,0,0⟩)) (A1:Held shP w B g1 L.pn c1 ps) (A2:Held shP w B g2 R.pn c2 qs) (A3:Held shG w B ga 0 0 ([]:List Sg)) (A4:Held shG w B gb 0 0 ([]:List Sg)) (hj:g1<j∧g2<j∧ga<j∧gb<j) (hgL:gaveB L=true) :
  Calls Tryz.prog 33 #[.pointer (some ⟨j,0,none⟩)] w fun x w'=>x=.returned (.tuple #[])∧Hid (∃ g5 c5 gc mc cc,Blk j w' (jnCells ⟨0,0,r,d,e,n,sr,sd,se,sn,{L with pa:=some ⟨g1,0,none⟩,pc:=c1},{(abortC R qs) with pa:=some ⟨g5,0,none⟩,pc:=c5},some ⟨ga,0,none⟩,0,0,some ⟨gc,0,none⟩,mc,cc⟩)∧Held shP w' B g1 L.pn c1 ps∧Held shP w' w.heap.size g5 R.pn c5 qs∧Held shG w' B ga 0 0 ([]:List Sg)∧Held shG w' w.heap.size gc mc cc (abortS R qs)∧(g5≠j∧gc≠j∧g5≠g1∧gc≠ga)∧Touch j w w'):=by
 have hab:=fun wx Rx=>iAbort gR g2 c2 wx Rx
 obtain ⟨AC,hAC⟩:∃ x,Hid (x=abortC R qs):=⟨_,rfl⟩
 obtain ⟨LL,hLL⟩:∃ x,Hid (x=abortS R qs):=⟨_,rfl⟩
 rw [← hAC.out,← hLL.out] at hab
 rw [← hAC.out,← hLL.out]
 have hgvL:=fun wx=>gaveI {L with pa:=some ⟨g1,0,none⟩,pc:=c1} wx
 rw [show gaveB {L with pa:=some ⟨g1,0,none⟩,pc:=c1}=true from hgL] at hgvL
 replace hgL:Hid _:=hgL
 have G:=Touch.refl j w
 have hE:=E.lt
 obtain ⟨hj1,hj2,hj3,hj4⟩:=hj
 have hA1:=A1.lt
 have hA2:=A2.lt
 have hA3:=A3.lt
 have hA4:=A4.lt
 go_enter_defers Tryz.func33,Tryz.ntmps33
 go_upto_region 0 with (fail)
 refine vR ?_
 refine vV (.pointer (some ⟨j,0,none⟩)) ?_
 refine vV (.pointer (some ⟨j,0,none⟩)) ?_
 refine vV (.pointer (some ⟨j,0,none⟩)) ?_
 refine vC (jLock E rfl) ?_
 rintro _ qw1 ⟨rfl,qt2,qB3⟩
 refine ⟨_,rfl,?_⟩
 clear E
 replace A1:=A1.touch qt2 (by omega)
 replace A2:=A2.touch qt2 (by omega)
 replace A3:=A3.touch qt2 (by omega)
 replace A4:=A4.touch qt2 (by omega)
 replace G:=touch_any G qt2 (by omega)
 have qt2_s:=qt2.size
 refine vE #[.pointer (some ⟨j,0,none⟩),U,.pointer (some ⟨j,0,none⟩),.pointer (some ⟨j,0,none⟩),.pointer (some ⟨j,0,none⟩),.tuple #[],U,U,U,U,U,U,U,U,U,U,U,U,U,U,U,U,U,U,U,U,U,U,U,U,U,U,U,U,U,U,U,U,U,U,U,U,U,U,U,U,U,U,U,U,U,U,U,U,U,U,U,U,U,U,U,U,U,U,U,U,U,U,U,U,U,U,U,U,U,U,U,U,U,U,U,U,U,U,U,U,U,U,U,U,U] ?_
 go_upto_region 4 with (fail)
 refine vR ?_
 refine vV (.pointer (some ⟨j,0,none⟩)) ?_
 refine vV (.pointer (some ⟨j,0,none⟩)) ?_
 refine vV (.pointer (some ⟨j,10,none⟩)) ?_
 refine vJL qB3 ?_
 refine vK (hgvL _) ?_
 intro qw4 qg5
 replace qB3:=qB3.since qg5
 replace A1:=A1.since qg5
 replace A2:=A2.since qg5
 replace A3:=A3.since qg5
 replace A4:=A4.since qg5
 replace G:=G.trans (Touch.of_since qg5 j)
 have qg5_s:=qg5.size
 refine vV (.bool true) ?_
 refine vEd [{target:=Target.fn (Fn.func 69) #[],args:=#[.pointer (some ⟨j,0,none⟩)]}] #[.pointer (some ⟨j,0,none⟩),U,.pointer (some ⟨j,0,none⟩),.pointer (some ⟨j,0,none⟩),.pointer (some ⟨j,0,none⟩),.tuple #[],.pointer (some ⟨j,0,none⟩),.pointer (some ⟨j,0,none⟩),.pointer (some ⟨j,0,none⟩),U,U,U,U,U,U,U,U,U,U,U,U,U,U,U,U,U,U,U,U,U,U,U,U,U,U,U,U,U,U,U,U,U,U,U,U,U,U,U,U,U,U,.bool true,.pointer (some ⟨j,0,none⟩),.pointer (some ⟨j,0,none⟩),.pointer (some ⟨j,10,none⟩),.agg (cnCells {L with pa:=some ⟨g1,0,none⟩,pc:=c1}),.bool true,U,U,U,U,U,U,U,U,U,U,U,U,U,U,U,U,U,U,U,U,U,U,U,U,U,U,U,U,U,U,U,U,U,U] ?_
 go_upto_region 5 with (fail)
 refine vR ?_
 refine vV (.pointer (some ⟨j,0,none⟩)) ?_
 refine vV (.pointer (some ⟨j,0,none⟩)) ?_
 refine vV (.pointer (some ⟨j,0,none⟩)) ?_
 refine vV (.pointer (some ⟨j,0,none⟩)) ?_
 refine vV (.pointer (some ⟨j,47,none⟩)) ?_
 refine vJR qB3 ?_
 refine vC (hab _ A2.reads) ?_
 rintro _ qw6 ⟨g5,c5,gc,mc,cc,rfl,H5,L5,qg7⟩
 refine ⟨_,rfl,?_⟩
 replace qB3:=qB3.since qg7
 replace A1:=A1.since qg7
 replace A2:=A2.since qg7
 replace A3:=A3.since qg7
 replace A4:=A4.since qg7
 replace G:=G.trans (Touch.of_since qg7 j)
 have qg7_s:=qg7.size
 have H5_0:=H5.low'
 replace H5:=H5.raise (show w.heap.size≤g5 by omega)
 have H5_1:=H5.lt
 have L5_0:=L5.low'
 replace L5:=L5.raise (show w.heap.size≤gc by omega)
 have L5_1:=L5.lt
 refine vV (.tuple #[.agg (cnCells {AC with pa:=some ⟨g5,0,none⟩,pc:=c5}),.slice (some ⟨gc,0,none⟩) mc cc]) ?_
 refine vV (.agg (cnCells {AC with pa:=some ⟨g5,0,none⟩,pc:=c5})) ?_
 refine vV (.slice (some ⟨gc,0,none⟩) mc cc) ?_
 refine vV (.pointer (some ⟨j,0,none⟩)) ?_
 refine vV (.pointer (some ⟨j,47,none⟩)) ?_
 refine sP (jnCells ⟨1,0,r,d,e,n,sr,sd,se,sn,{L with pa:=some ⟨g1,0,none⟩,pc:=c1},{AC with pa:=some ⟨g5,0,none⟩,pc:=c5},some ⟨ga,0,none⟩,0,0,some ⟨gb,0,none⟩,0,0⟩) cn_big qB3 47 (cnCells {AC with pa:=some ⟨g5,0,none⟩,pc:=c5}) (jn_size _) (cn_one _) ?_
 intro qw8 qt9 qB10
 clear qB3
 replace A1:=A1.touch qt9 (by omega)
 replace A2:=A2.touch qt9 (by omega)
 replace A3:=A3.touch qt9 (by omega)
 replace A4:=A4.touch qt9 (by omega)
 replace H5:=H5.touch qt9 (by omega)
 replace L5:=L5.touch qt9 (by omega)
 replace G:=touch_any G qt9 (by omega)
 have qt9_s:=qt9.size
 refine vV (.pointer (some ⟨j,0,none⟩)) ?_
 refine vV (.pointer (some ⟨j,85,none⟩)) ?_
 refine sC (jnCells ⟨1,0,r,d,e,n,sr,sd,se,sn,{L with pa:=some ⟨g1,0,none⟩,pc:=c1},{AC with pa:=some ⟨g5,0,none⟩,pc:=c5},some ⟨ga,0,none⟩,0,0,(some ⟨gc,0,none⟩),mc,cc⟩) qB10 85 (.slice (some ⟨gc,0,none⟩) mc cc) (jn_size _) ?_
 intro qw11 qt12 qB13
 clear qB10
 replace A1:=A1.touch qt12 (by omega)
 replace A2:=A2.touch qt12 (by omega)
 replace A3:=A3.touch qt12 (by omega)
 replace A4:=A4.touch qt12 (by omega)
 replace H5:=H5.touch qt12 (by omega)
 replace L5:=L5.touch qt12 (by omega)
 replace G:=touch_any G qt12 (by omega)
 have qt12_s:=qt12.size
 refine vEd [{target:=Target.fn (Fn.func 69) #[],args:=#[.pointer (some ⟨j,0,none⟩)]}] #[.pointer (some ⟨j,0,none⟩),U,.pointer (some ⟨j,0,none⟩),.pointer (some ⟨j,0,none⟩),.pointer (some ⟨j,0,none⟩),.tuple #[],.pointer (some ⟨j,0,none⟩),.pointer (some ⟨j,0,none⟩),.pointer (some ⟨j,0,none⟩),U,U,U,U,U,U,U,U,U,U,U,U,U,U,U,U,U,U,U,U,U,U,U,U,U,U,U,U,U,U,U,U,U,U,U,U,U,U,U,U,U,U,.bool true,.pointer (some ⟨j,0,none⟩),.pointer (some ⟨j,0,none⟩),.pointer (some ⟨j,10,none⟩),.agg (cnCells {L with pa:=some ⟨g1,0,none⟩,pc:=c1}),.bool true,.tuple #[.agg (cnCells {AC with pa:=some ⟨g5,0,none⟩,pc:=c5}),.slice (some ⟨gc,0,none⟩) mc cc],.pointer (some ⟨j,0,none⟩),.pointer (some ⟨j,0,none⟩),.pointer (some ⟨j,0,none⟩),.pointer (some ⟨j,0,none⟩),.pointer (some ⟨j,47,none⟩),.agg (cnCells {R with pa:=some ⟨g2,0,none⟩,pc:=c2}),.tuple #[.agg (cnCells {AC with pa:=some ⟨g5,0,none⟩,pc:=c5}),.slice (some ⟨gc,0,none⟩) mc cc],.agg (cnCells {AC with pa:=some ⟨g5,0,none⟩,pc:=c5}),.slice (some ⟨gc,0,none⟩) mc cc,.pointer (some ⟨j,0,none⟩),.pointer (some ⟨j,47,none⟩),.pointer (some ⟨j,0,none⟩),.pointer (some ⟨j,85,none⟩),U,U,U,U,U,U,U,U,U,U,U,U,U,U,U,U,U,U,U,U] ?_
 go_wp2_with (fail)
 refine leaves_cons (f:=69) (args:=#[.pointer (some ⟨j,0,none⟩)]) (by simp) (by simp [go_sem]) ?_
 refine (Go.MuLone.unlock_deferred mLib ⟨j,0,none⟩ .returning _ ((qB13.cell 0).trans rfl) (qB13.fz 0)).mono ?_
 rintro e1 u1 w1 ⟨rfl,rfl,rfl⟩
 have tz:=(Touch.refl j qw11).put 0 (.int .i32 0)
 have bz:=qB13.put 0 (.int .i32 0) (by rw [jn_size];omega)
 replace A1:=A1.touch tz (by omega)
 replace A2:=A2.touch tz (by omega)
 replace A3:=A3.touch tz (by omega)
 replace A4:=A4.touch tz (by omega)
 replace H5:=H5.touch tz (by omega)
 replace L5:=L5.touch tz (by omega)
 replace G:=touch_any G tz (by omega)
 have fin:∃ g5 c5 gc mc cc,Blk j (qw11.setCell ⟨j,0,none⟩ (.int .i32 0)) (jnCells ⟨0,0,r,d,e,n,sr,sd,se,sn,{L with pa:=some ⟨g1,0,none⟩,pc:=c1},{AC with pa:=some ⟨g5,0,none⟩,pc:=c5},some ⟨ga,0,none⟩,0,0,some ⟨gc,0,none⟩,mc,cc⟩)∧Held shP (qw11.setCell ⟨j,0,none⟩ (.int .i32 0)) B g1 L.pn c1 ps∧Held shP (qw11.setCell ⟨j,0,none⟩ (.int .i32 0)) w.heap.size g5 R.pn c5 qs∧Held shG (qw11.setCell ⟨j,0,none⟩ (.int .i32 0)) B ga 0 0 ([]:List Sg)∧Held shG (qw11.setCell ⟨j,0,none⟩ (.int .i32 0)) w.heap.size gc mc cc LL∧(g5≠j∧gc≠j∧g5≠g1∧gc≠ga)∧Touch j w (qw11.setCell ⟨j,0,none⟩ (.int .i32 0)):=⟨g5,c5,gc,mc,cc,bz,A1,H5,A3,L5,⟨by omega,by omega,by omega,by omega⟩,G⟩
 exact ⟨_,results_none rfl _ _ _,rfl,fin⟩

set_option maxRecDepth 20000 in
set_option maxHeartbeats 16000000 in
theorem jMove2 (r:Int) (d:ByteArray) (e:Bool) (n:Int) (sr:Int) (sd:ByteArray) (se:Bool) (sn:Int) (L:Cn) (ps:List (Int×ByteArray)) (R:Cn) (qs:List (Int×ByteArray)) (gL:GoodC L ps) (gR:GoodC R qs) (g1 c1 g2 c2 ga gb j B:Nat) (w:World) (E:Blk j w (jnCells ⟨0,0,r,d,e,n,sr,sd,se,sn,{L with pa:=some ⟨g1,0,none⟩,pc:=c1},{R with pa:=some ⟨g2,0,none⟩,pc:=c2},some ⟨ga,0,none⟩,0,0,some ⟨gb,0,none⟩,0,0⟩)) (A1:Held shP w B g1 L.pn c1 ps) (A2:Held shP w B g2 R.pn c2 qs) (A3:Held shG w B ga 0 0 ([]:List Sg)) (A4:Held shG w B gb 0 0 ([]:List Sg)) (hj:g1<j∧g2<j∧ga<j∧gb<j) (hgL:gaveB L=false) (hgR:gaveB R=true) :
  Calls Tryz.prog 33 #[.pointer (some ⟨j,0,none⟩)] w fun x w'=>x=.returned (.tuple #[])∧Hid (∃ g5 c5 gc mc cc,Blk j w' (jnCells ⟨0,0,r,d,e,n,sr,sd,se,sn,{(abortC L ps) with pa:=some ⟨g5,0,none⟩,pc:=c5},{R with pa:=some ⟨g2,0,none⟩,pc:=c2},some ⟨gc,0,none⟩,mc,cc,some ⟨gb,0,none⟩,0,0⟩)∧Held shP w' w.heap.size g5 L.pn c5 ps∧Held shP w' B g2 R.pn c2 qs∧Held shG w' w.heap.size gc mc cc (abortS L ps)∧Held shG w' B gb 0 0 ([]:List Sg)∧(g5≠j∧gc≠j∧g5≠g2∧gc≠gb)∧Touch j w w'):=by
 have hab:=fun wx Rx=>iAbort gL g1 c1 wx Rx
 obtain ⟨AC,hAC⟩:∃ x,Hid (x=abortC L ps):=⟨_,rfl⟩
 obtain ⟨LL,hLL⟩:∃ x,Hid (x=abortS L ps):=⟨_,rfl⟩
 rw [← hAC.out,← hLL.out] at hab
 rw [← hAC.out,← hLL.out]
 have hgvL:=fun wx=>gaveI {L with pa:=some ⟨g1,0,none⟩,pc:=c1} wx
 rw [show gaveB {L with pa:=some ⟨g1,0,none⟩,pc:=c1}=false from hgL] at hgvL
 replace hgL:Hid _:=hgL
 have hgvR:=fun wx=>gaveI {R with pa:=some ⟨g2,0,none⟩,pc:=c2} wx
 rw [show gaveB {R with pa:=some ⟨g2,0,none⟩,pc:=c2}=true from hgR] at hgvR
 replace hgR:Hid _:=hgR
 have G:=Touch.refl j w
 have hE:=E.lt
 obtain ⟨hj1,hj2,hj3,hj4⟩:=hj
 have hA1:=A1.lt
 have hA2:=A2.lt
 have hA3:=A3.lt
 have hA4:=A4.lt
 go_enter_defers Tryz.func33,Tryz.ntmps33
 go_upto_region 0 with (fail)
 refine vR ?_
 refine vV (.pointer (some ⟨j,0,none⟩)) ?_
 refine vV (.pointer (some ⟨j,0,none⟩)) ?_
 refine vV (.pointer (some ⟨j,0,none⟩)) ?_
 refine vC (jLock E rfl) ?_
 rintro _ qw1 ⟨rfl,qt2,qB3⟩
 refine ⟨_,rfl,?_⟩
 clear E
 replace A1:=A1.touch qt2 (by omega)
 replace A2:=A2.touch qt2 (by omega)
 replace A3:=A3.touch qt2 (by omega)
 replace A4:=A4.touch qt2 (by omega)
 replace G:=touch_any G qt2 (by omega)
 have qt2_s:=qt2.size
 refine vE #[.pointer (some ⟨j,0,none⟩),U,.pointer (some ⟨j,0,none⟩),.pointer (some ⟨j,0,none⟩),.pointer (some ⟨j,0,none⟩),.tuple #[],U,U,U,U,U,U,U,U,U,U,U,U,U,U,U,U,U,U,U,U,U,U,U,U,U,U,U,U,U,U,U,U,U,U,U,U,U,U,U,U,U,U,U,U,U,U,U,U,U,U,U,U,U,U,U,U,U,U,U,U,U,U,U,U,U,U,U,U,U,U,U,U,U,U,U,U,U,U,U,U,U,U,U,U,U] ?_
 go_upto_region 4 with (fail)
 refine vR ?_
 refine vV (.pointer (some ⟨j,0,none⟩)) ?_
 refine vV (.pointer (some ⟨j,0,none⟩)) ?_
 refine vV (.pointer (some ⟨j,10,none⟩)) ?_
 refine vJL qB3 ?_
 refine vK (hgvL _) ?_
 intro qw4 qg5
 replace qB3:=qB3.since qg5
 replace A1:=A1.since qg5
 replace A2:=A2.since qg5
 replace A3:=A3.since qg5
 replace A4:=A4.since qg5
 replace G:=G.trans (Touch.of_since qg5 j)
 have qg5_s:=qg5.size
 refine vV (.bool false) ?_
 refine vEd [{target:=Target.fn (Fn.func 69) #[],args:=#[.pointer (some ⟨j,0,none⟩)]}] #[.pointer (some ⟨j,0,none⟩),U,.pointer (some ⟨j,0,none⟩),.pointer (some ⟨j,0,none⟩),.pointer (some ⟨j,0,none⟩),.tuple #[],.pointer (some ⟨j,0,none⟩),.pointer (some ⟨j,0,none⟩),.pointer (some ⟨j,0,none⟩),U,U,U,U,U,U,U,U,U,U,U,U,U,U,U,U,U,U,U,U,U,U,U,U,U,U,U,U,U,U,U,U,U,U,U,U,U,U,U,U,U,U,.bool false,.pointer (some ⟨j,0,none⟩),.pointer (some ⟨j,0,none⟩),.pointer (some ⟨j,10,none⟩),.agg (cnCells {L with pa:=some ⟨g1,0,none⟩,pc:=c1}),.bool false,U,U,U,U,U,U,U,U,U,U,U,U,U,U,U,U,U,U,U,U,U,U,U,U,U,U,U,U,U,U,U,U,U,U] ?_
 go_upto_region 6 with (fail)
 refine vR ?_
 refine vV (.pointer (some ⟨j,0,none⟩)) ?_
 refine vV (.pointer (some ⟨j,0,none⟩)) ?_
 refine vV (.pointer (some ⟨j,47,none⟩)) ?_
 refine vJR qB3 ?_
 refine vK (hgvR _) ?_
 intro qw6 qg7
 replace qB3:=qB3.since qg7
 replace A1:=A1.since qg7
 replace A2:=A2.since qg7
 replace A3:=A3.since qg7
 replace A4:=A4.since qg7
 replace G:=G.trans (Touch.of_since qg7 j)
 have qg7_s:=qg7.size
 refine vV (.bool true) ?_
 refine vEd [{target:=Target.fn (Fn.func 69) #[],args:=#[.pointer (some ⟨j,0,none⟩)]}] #[.pointer (some ⟨j,0,none⟩),U,.pointer (some ⟨j,0,none⟩),.pointer (some ⟨j,0,none⟩),.pointer (some ⟨j,0,none⟩),.tuple #[],.pointer (some ⟨j,0,none⟩),.pointer (some ⟨j,0,none⟩),.pointer (some ⟨j,0,none⟩),U,U,U,U,U,U,U,U,U,U,U,U,U,U,U,U,U,U,U,U,U,U,U,U,U,U,U,U,U,U,U,U,U,U,U,U,U,U,U,U,U,U,.bool false,.pointer (some ⟨j,0,none⟩),.pointer (some ⟨j,0,none⟩),.pointer (some ⟨j,10,none⟩),.agg (cnCells {L with pa:=some ⟨g1,0,none⟩,pc:=c1}),.bool false,U,U,U,U,U,U,U,U,U,U,U,U,U,U,.bool true,.pointer (some ⟨j,0,none⟩),.pointer (some ⟨j,0,none⟩),.pointer (some ⟨j,47,none⟩),.agg (cnCells {R with pa:=some ⟨g2,0,none⟩,pc:=c2}),.bool true,U,U,U,U,U,U,U,U,U,U,U,U,U,U] ?_
 go_upto_region 7 with (fail)
 refine vR ?_
 refine vV (.pointer (some ⟨j,0,none⟩)) ?_
 refine vV (.pointer (some ⟨j,0,none⟩)) ?_
 refine vV (.pointer (some ⟨j,0,none⟩)) ?_
 refine vV (.pointer (some ⟨j,0,none⟩)) ?_
 refine vV (.pointer (some ⟨j,10,none⟩)) ?_
 refine vJL qB3 ?_
 refine vC (hab _ A1.reads) ?_
 rintro _ qw8 ⟨g5,c5,gc,mc,cc,rfl,H5,L5,qg9⟩
 refine ⟨_,rfl,?_⟩
 replace qB3:=qB3.since qg9
 replace A1:=A1.since qg9
 replace A2:=A2.since qg9
 replace A3:=A3.since qg9
 replace A4:=A4.since qg9
 replace G:=G.trans (Touch.of_since qg9 j)
 have qg9_s:=qg9.size
 have H5_0:=H5.low'
 replace H5:=H5.raise (show w.heap.size≤g5 by omega)
 have H5_1:=H5.lt
 have L5_0:=L5.low'
 replace L5:=L5.raise (show w.heap.size≤gc by omega)
 have L5_1:=L5.lt
 refine vV (.tuple #[.agg (cnCells {AC with pa:=some ⟨g5,0,none⟩,pc:=c5}),.slice (some ⟨gc,0,none⟩) mc cc]) ?_
 refine vV (.agg (cnCells {AC with pa:=some ⟨g5,0,none⟩,pc:=c5})) ?_
 refine vV (.slice (some ⟨gc,0,none⟩) mc cc) ?_
 refine vV (.pointer (some ⟨j,0,none⟩)) ?_
 refine vV (.pointer (some ⟨j,10,none⟩)) ?_
 refine sP (jnCells ⟨1,0,r,d,e,n,sr,sd,se,sn,{AC with pa:=some ⟨g5,0,none⟩,pc:=c5},{R with pa:=some ⟨g2,0,none⟩,pc:=c2},some ⟨ga,0,none⟩,0,0,some ⟨gb,0,none⟩,0,0⟩) cn_big qB3 10 (cnCells {AC with pa:=some ⟨g5,0,none⟩,pc:=c5}) (jn_size _) (cn_one _) ?_
 intro qw10 qt11 qB12
 clear qB3
 replace A1:=A1.touch qt11 (by omega)
 replace A2:=A2.touch qt11 (by omega)
 replace A3:=A3.touch qt11 (by omega)
 replace A4:=A4.touch qt11 (by omega)
 replace H5:=H5.touch qt11 (by omega)
 replace L5:=L5.touch qt11 (by omega)
 replace G:=touch_any G qt11 (by omega)
 have qt11_s:=qt11.size
 refine vV (.pointer (some ⟨j,0,none⟩)) ?_
 refine vV (.pointer (some ⟨j,84,none⟩)) ?_
 refine sC (jnCells ⟨1,0,r,d,e,n,sr,sd,se,sn,{AC with pa:=some ⟨g5,0,none⟩,pc:=c5},{R with pa:=some ⟨g2,0,none⟩,pc:=c2},(some ⟨gc,0,none⟩),mc,cc,some ⟨gb,0,none⟩,0,0⟩) qB12 84 (.slice (some ⟨gc,0,none⟩) mc cc) (jn_size _) ?_
 intro qw13 qt14 qB15
 clear qB12
 replace A1:=A1.touch qt14 (by omega)
 replace A2:=A2.touch qt14 (by omega)
 replace A3:=A3.touch qt14 (by omega)
 replace A4:=A4.touch qt14 (by omega)
 replace H5:=H5.touch qt14 (by omega)
 replace L5:=L5.touch qt14 (by omega)
 replace G:=touch_any G qt14 (by omega)
 have qt14_s:=qt14.size
 refine vEd [{target:=Target.fn (Fn.func 69) #[],args:=#[.pointer (some ⟨j,0,none⟩)]}] #[.pointer (some ⟨j,0,none⟩),U,.pointer (some ⟨j,0,none⟩),.pointer (some ⟨j,0,none⟩),.pointer (some ⟨j,0,none⟩),.tuple #[],.pointer (some ⟨j,0,none⟩),.pointer (some ⟨j,0,none⟩),.pointer (some ⟨j,0,none⟩),U,U,U,U,U,U,U,U,U,U,U,U,U,U,U,U,U,U,U,U,U,U,U,U,U,U,U,U,U,U,U,U,U,U,U,U,U,U,U,U,U,U,.bool false,.pointer (some ⟨j,0,none⟩),.pointer (some ⟨j,0,none⟩),.pointer (some ⟨j,10,none⟩),.agg (cnCells {L with pa:=some ⟨g1,0,none⟩,pc:=c1}),.bool false,U,U,U,U,U,U,U,U,U,U,U,U,U,U,.bool true,.pointer (some ⟨j,0,none⟩),.pointer (some ⟨j,0,none⟩),.pointer (some ⟨j,47,none⟩),.agg (cnCells {R with pa:=some ⟨g2,0,none⟩,pc:=c2}),.bool true,.tuple #[.agg (cnCells {AC with pa:=some ⟨g5,0,none⟩,pc:=c5}),.slice (some ⟨gc,0,none⟩) mc cc],.pointer (some ⟨j,0,none⟩),.pointer (some ⟨j,0,none⟩),.pointer (some ⟨j,0,none⟩),.pointer (some ⟨j,0,none⟩),.pointer (some ⟨j,10,none⟩),.agg (cnCells {L with pa:=some ⟨g1,0,none⟩,pc:=c1}),.tuple #[.agg (cnCells {AC with pa:=some ⟨g5,0,none⟩,pc:=c5}),.slice (some ⟨gc,0,none⟩) mc cc],.agg (cnCells {AC with pa:=some ⟨g5,0,none⟩,pc:=c5}),.slice (some ⟨gc,0,none⟩) mc cc,.pointer (some ⟨j,0,none⟩),.pointer (some ⟨j,10,none⟩),.pointer (some ⟨j,0,none⟩),.pointer (some ⟨j,84,none⟩)] ?_
 go_wp2_with (fail)
 refine leaves_cons (f:=69) (args:=#[.pointer (some ⟨j,0,none⟩)]) (by simp) (by simp [go_sem]) ?_
 refine (Go.MuLone.unlock_deferred mLib ⟨j,0,none⟩ .returning _ ((qB15.cell 0).trans rfl) (qB15.fz 0)).mono ?_
 rintro e1 u1 w1 ⟨rfl,rfl,rfl⟩
 have tz:=(Touch.refl j qw13).put 0 (.int .i32 0)
 have bz:=qB15.put 0 (.int .i32 0) (by rw [jn_size];omega)
 replace A1:=A1.touch tz (by omega)
 replace A2:=A2.touch tz (by omega)
 replace A3:=A3.touch tz (by omega)
 replace A4:=A4.touch tz (by omega)
 replace H5:=H5.touch tz (by omega)
 replace L5:=L5.touch tz (by omega)
 replace G:=touch_any G tz (by omega)
 have fin:∃ g5 c5 gc mc cc,Blk j (qw13.setCell ⟨j,0,none⟩ (.int .i32 0)) (jnCells ⟨0,0,r,d,e,n,sr,sd,se,sn,{AC with pa:=some ⟨g5,0,none⟩,pc:=c5},{R with pa:=some ⟨g2,0,none⟩,pc:=c2},some ⟨gc,0,none⟩,mc,cc,some ⟨gb,0,none⟩,0,0⟩)∧Held shP (qw13.setCell ⟨j,0,none⟩ (.int .i32 0)) w.heap.size g5 L.pn c5 ps∧Held shP (qw13.setCell ⟨j,0,none⟩ (.int .i32 0)) B g2 R.pn c2 qs∧Held shG (qw13.setCell ⟨j,0,none⟩ (.int .i32 0)) w.heap.size gc mc cc LL∧Held shG (qw13.setCell ⟨j,0,none⟩ (.int .i32 0)) B gb 0 0 ([]:List Sg)∧(g5≠j∧gc≠j∧g5≠g2∧gc≠gb)∧Touch j w (qw13.setCell ⟨j,0,none⟩ (.int .i32 0)):=⟨g5,c5,gc,mc,cc,bz,H5,A2,L5,A4,⟨by omega,by omega,by omega,by omega⟩,G⟩
 exact ⟨_,results_none rfl _ _ _,rfl,fin⟩

set_option maxRecDepth 20000 in
set_option maxHeartbeats 16000000 in
theorem jn_setL (J:Jn) (X:Cn):setMany (jnCells J) 10 (cnCells X).toList=jnCells {J with L:=X}:=by kernel_rfl

set_option maxRecDepth 20000 in
set_option maxHeartbeats 16000000 in
theorem jn_setR (J:Jn) (X:Cn):setMany (jnCells J) 47 (cnCells X).toList=jnCells {J with R:=X}:=by kernel_rfl

set_option maxRecDepth 20000 in
set_option maxHeartbeats 16000000 in
theorem jMove3 (r:Int) (d:ByteArray) (e:Bool) (n:Int) (sr:Int) (sd:ByteArray) (se:Bool) (sn:Int) (L:Cn) (ps:List (Int×ByteArray)) (R:Cn) (qs:List (Int×ByteArray)) (gL:GoodC L ps) (gR:GoodC R qs) (g1 c1 g2 c2 ga gb j B:Nat) (w:World) (E:Blk j w (jnCells ⟨0,0,r,d,e,n,sr,sd,se,sn,{L with pa:=some ⟨g1,0,none⟩,pc:=c1},{R with pa:=some ⟨g2,0,none⟩,pc:=c2},some ⟨ga,0,none⟩,0,0,some ⟨gb,0,none⟩,0,0⟩)) (A1:Held shP w B g1 L.pn c1 ps) (A2:Held shP w B g2 R.pn c2 qs) (A3:Held shG w B ga 0 0 ([]:List Sg)) (A4:Held shG w B gb 0 0 ([]:List Sg)) (hj:g1<j∧g2<j∧ga<j∧gb<j) (hk1:pipeOk r d n=true) (hk2:pipeOk sr sd sn=true) (hkL:connOk L ps=true) (hkR:connOk R qs=true) (hgL:gaveB L=false) (hgR:gaveB R=false) :
  Calls Tryz.prog 33 #[.pointer (some ⟨j,0,none⟩)] w fun x w'=>x=.returned (.tuple #[])∧Hid (∃ g7 c7 g8 c8,Blk j w' (jnCells ⟨0,0,r,(mvD r d n L ps R qs),(mvE r d e n L ps R qs),(mvN r d n L ps R qs),sr,(mvD sr sd sn (mvT r d e n L ps R qs) qs (mvF r d n L ps R qs) ps),(mvE sr sd se sn (mvT r d e n L ps R qs) qs (mvF r d n L ps R qs) ps),(mvN sr sd sn (mvT r d e n L ps R qs) qs (mvF r d n L ps R qs) ps),{(mvT sr sd se sn (mvT r d e n L ps R qs) qs (mvF r d n L ps R qs) ps) with pa:=some ⟨g8,0,none⟩,pc:=c8},{(mvF sr sd sn (mvT r d e n L ps R qs) qs (mvF r d n L ps R qs) ps) with pa:=some ⟨g7,0,none⟩,pc:=c7},some ⟨ga,0,none⟩,0,0,some ⟨gb,0,none⟩,0,0⟩)∧Held shP w' w.heap.size g8 L.pn c8 ps∧Held shP w' w.heap.size g7 R.pn c7 qs∧Held shG w' B ga 0 0 ([]:List Sg)∧Held shG w' B gb 0 0 ([]:List Sg)∧(g7≠j∧g8≠j∧g7≠g8)∧Touch j w w'):=by
 obtain ⟨xD,hxD⟩:∃ x,Hid (x=mvD r d n L ps R qs):=⟨_,rfl⟩
 obtain ⟨xE,hxE⟩:∃ x,Hid (x=mvE r d e n L ps R qs):=⟨_,rfl⟩
 obtain ⟨xN,hxN⟩:∃ x,Hid (x=mvN r d n L ps R qs):=⟨_,rfl⟩
 obtain ⟨xF,hxF⟩:∃ x,Hid (x=mvF r d n L ps R qs):=⟨_,rfl⟩
 obtain ⟨xT,hxT⟩:∃ x,Hid (x=mvT r d e n L ps R qs):=⟨_,rfl⟩
 have gF:GoodC xF ps:=by rw [hxF.out];exact good_mvF gL
 have gT:GoodC xT qs:=by rw [hxT.out];exact good_mvT gR
 have pF:xF.pn=L.pn:=by rw [hxF.out];exact mvF_pn' _ _ _ _ _ _ _
 have pT:xT.pn=R.pn:=by rw [hxT.out];exact mvT_pn' _ _ _ _ _ _ _ _
 have m1:mvOk r d n L ps R qs=true:=by unfold mvOk;rw [hk1,hkL,hkR];rfl
 have m2:mvOk sr sd sn xT qs xF ps=true:=by unfold mvOk;rw [hk2,hxT.out,hxF.out,connOk_mvT hkR,connOk_mvF hkL];rfl
 rw [← hxD.out,← hxE.out,← hxN.out,← hxF.out,← hxT.out]
 have hc1:=fun q1 p1 q3 p3 kk pre post wx Cx Rx Ry=>condMv r d e n L ps R qs gL gR m1 q1 p1 q3 p3 j kk pre post wx Cx Rx Ry
 rw [← hxD.out,← hxE.out,← hxN.out,← hxF.out,← hxT.out] at hc1
 obtain ⟨yD,hyD⟩:∃ x,Hid (x=mvD sr sd sn xT qs xF ps):=⟨_,rfl⟩
 obtain ⟨yE,hyE⟩:∃ x,Hid (x=mvE sr sd se sn xT qs xF ps):=⟨_,rfl⟩
 obtain ⟨yN,hyN⟩:∃ x,Hid (x=mvN sr sd sn xT qs xF ps):=⟨_,rfl⟩
 obtain ⟨yF,hyF⟩:∃ x,Hid (x=mvF sr sd sn xT qs xF ps):=⟨_,rfl⟩
 obtain ⟨yT,hyT⟩:∃ x,Hid (x=mvT sr sd se sn xT qs xF ps):=⟨_,rfl⟩
 rw [← hyD.out,← hyE.out,← hyN.out,← hyF.out,← hyT.out]
 have hc2:=fun q1 p1 q3 p3 kk pre post wx Cx Rx Ry=>condMv sr sd se sn xT qs xF ps gT gF m2 q1 p1 q3 p3 j kk pre post wx Cx Rx Ry
 rw [← hyD.out,← hyE.out,← hyN.out,← hyF.out,← hyT.out] at hc2
 clear m1 m2 hk1 hk2 hkL hkR
 have hgvL:=fun wx=>gaveI {L with pa:=some ⟨g1,0,none⟩,pc:=c1} wx
 rw [show gaveB {L with pa:=some ⟨g1,0,none⟩,pc:=c1}=false from hgL] at hgvL
 replace hgL:Hid _:=hgL
 have hgvR:=fun wx=>gaveI {R with pa:=some ⟨g2,0,none⟩,pc:=c2} wx
 rw [show gaveB {R with pa:=some ⟨g2,0,none⟩,pc:=c2}=false from hgR] at hgvR
 replace hgR:Hid _:=hgR
 have G:=Touch.refl j w
 have hE:=E.lt
 obtain ⟨hj1,hj2,hj3,hj4⟩:=hj
 have hA1:=A1.lt
 have hA2:=A2.lt
 have hA3:=A3.lt
 have hA4:=A4.lt
 go_enter_defers Tryz.func33,Tryz.ntmps33
 go_upto_region 0 with (fail)
 refine vR ?_
 refine vV (.pointer (some ⟨j,0,none⟩)) ?_
 refine vV (.pointer (some ⟨j,0,none⟩)) ?_
 refine vV (.pointer (some ⟨j,0,none⟩)) ?_
 refine vC (jLock E rfl) ?_
 rintro _ qw1 ⟨rfl,qt2,qB3⟩
 refine ⟨_,rfl,?_⟩
 clear E
 replace A1:=A1.touch qt2 (by omega)
 replace A2:=A2.touch qt2 (by omega)
 replace A3:=A3.touch qt2 (by omega)
 replace A4:=A4.touch qt2 (by omega)
 replace G:=touch_any G qt2 (by omega)
 have qt2_s:=qt2.size
 refine vE #[.pointer (some ⟨j,0,none⟩),U,.pointer (some ⟨j,0,none⟩),.pointer (some ⟨j,0,none⟩),.pointer (some ⟨j,0,none⟩),.tuple #[],U,U,U,U,U,U,U,U,U,U,U,U,U,U,U,U,U,U,U,U,U,U,U,U,U,U,U,U,U,U,U,U,U,U,U,U,U,U,U,U,U,U,U,U,U,U,U,U,U,U,U,U,U,U,U,U,U,U,U,U,U,U,U,U,U,U,U,U,U,U,U,U,U,U,U,U,U,U,U,U,U,U,U,U,U] ?_
 go_upto_region 4 with (fail)
 refine vR ?_
 refine vV (.pointer (some ⟨j,0,none⟩)) ?_
 refine vV (.pointer (some ⟨j,0,none⟩)) ?_
 refine vV (.pointer (some ⟨j,10,none⟩)) ?_
 refine vJL qB3 ?_
 refine vK (hgvL _) ?_
 intro qw4 qg5
 replace qB3:=qB3.since qg5
 replace A1:=A1.since qg5
 replace A2:=A2.since qg5
 replace A3:=A3.since qg5
 replace A4:=A4.since qg5
 replace G:=G.trans (Touch.of_since qg5 j)
 have qg5_s:=qg5.size
 refine vV (.bool false) ?_
 refine vEd [{target:=Target.fn (Fn.func 69) #[],args:=#[.pointer (some ⟨j,0,none⟩)]}] #[.pointer (some ⟨j,0,none⟩),U,.pointer (some ⟨j,0,none⟩),.pointer (some ⟨j,0,none⟩),.pointer (some ⟨j,0,none⟩),.tuple #[],.pointer (some ⟨j,0,none⟩),.pointer (some ⟨j,0,none⟩),.pointer (some ⟨j,0,none⟩),U,U,U,U,U,U,U,U,U,U,U,U,U,U,U,U,U,U,U,U,U,U,U,U,U,U,U,U,U,U,U,U,U,U,U,U,U,U,U,U,U,U,.bool false,.pointer (some ⟨j,0,none⟩),.pointer (some ⟨j,0,none⟩),.pointer (some ⟨j,10,none⟩),.agg (cnCells {L with pa:=some ⟨g1,0,none⟩,pc:=c1}),.bool false,U,U,U,U,U,U,U,U,U,U,U,U,U,U,U,U,U,U,U,U,U,U,U,U,U,U,U,U,U,U,U,U,U,U] ?_
 go_upto_region 6 with (fail)
 refine vR ?_
 refine vV (.pointer (some ⟨j,0,none⟩)) ?_
 refine vV (.pointer (some ⟨j,0,none⟩)) ?_
 refine vV (.pointer (some ⟨j,47,none⟩)) ?_
 refine vJR qB3 ?_
 refine vK (hgvR _) ?_
 intro qw6 qg7
 replace qB3:=qB3.since qg7
 replace A1:=A1.since qg7
 replace A2:=A2.since qg7
 replace A3:=A3.since qg7
 replace A4:=A4.since qg7
 replace G:=G.trans (Touch.of_since qg7 j)
 have qg7_s:=qg7.size
 refine vV (.bool false) ?_
 refine vEd [{target:=Target.fn (Fn.func 69) #[],args:=#[.pointer (some ⟨j,0,none⟩)]}] #[.pointer (some ⟨j,0,none⟩),U,.pointer (some ⟨j,0,none⟩),.pointer (some ⟨j,0,none⟩),.pointer (some ⟨j,0,none⟩),.tuple #[],.pointer (some ⟨j,0,none⟩),.pointer (some ⟨j,0,none⟩),.pointer (some ⟨j,0,none⟩),U,U,U,U,U,U,U,U,U,U,U,U,U,U,U,U,U,U,U,U,U,U,U,U,U,U,U,U,U,U,U,U,U,U,U,U,U,U,U,U,U,U,.bool false,.pointer (some ⟨j,0,none⟩),.pointer (some ⟨j,0,none⟩),.pointer (some ⟨j,10,none⟩),.agg (cnCells {L with pa:=some ⟨g1,0,none⟩,pc:=c1}),.bool false,U,U,U,U,U,U,U,U,U,U,U,U,U,U,.bool false,.pointer (some ⟨j,0,none⟩),.pointer (some ⟨j,0,none⟩),.pointer (some ⟨j,47,none⟩),.agg (cnCells {R with pa:=some ⟨g2,0,none⟩,pc:=c2}),.bool false,U,U,U,U,U,U,U,U,U,U,U,U,U,U] ?_
 go_upto_region 2 with (fail)
 refine wp_region_low (Low (fun b=>b=j)) (fun i x v=>match i with
   | 0=>v=.pointer (some ⟨j,0,none⟩)
   | 1=>v=.pointer (some ⟨j,0,none⟩)
   | 2=>v=.pointer (some ⟨j,0,none⟩)
   | 3=>v=.pointer (some ⟨j,0,none⟩)
   | 4=>v=.pointer (some ⟨j,2,none⟩)
   | 5=>v=.pointer (some ⟨j,0,none⟩)
   | 6=>v=.pointer (some ⟨j,0,none⟩)
   | 7=>v=.pointer (some ⟨j,10,none⟩)
   | 8=>v=.agg (cnCells {L with pa:=some ⟨g1,0,none⟩,pc:=c1})
   | 9=>v=.pointer (some ⟨j,0,none⟩)
   | 10=>v=.pointer (some ⟨j,0,none⟩)
   | 11=>v=.pointer (some ⟨j,47,none⟩)
   | 12=>v=.agg (cnCells {R with pa:=some ⟨g2,0,none⟩,pc:=c2})
   | 17=>v=.pointer (some ⟨j,0,none⟩)
   | 18=>v=.pointer (some ⟨j,10,none⟩)
   | 20=>v=.pointer (some ⟨j,0,none⟩)
   | 21=>v=.pointer (some ⟨j,47,none⟩)
   | _=>True) (fun f vals x=>MvK j ⟨1,0,r,d,e,n,sr,sd,se,sn,{L with pa:=some ⟨g1,0,none⟩,pc:=c1},{R with pa:=some ⟨g2,0,none⟩,pc:=c2},some ⟨ga,0,none⟩,0,0,some ⟨gb,0,none⟩,0,0⟩ (fun (a b:Cn)=>(⟨1,0,r,xD,xE,xN,sr,sd,se,sn,a,b,some ⟨ga,0,none⟩,0,0,some ⟨gb,0,none⟩,0,0⟩:Jn)) {L with pa:=some ⟨g1,0,none⟩,pc:=c1} {R with pa:=some ⟨g2,0,none⟩,pc:=c2} (fun (g c:Nat)=>({xF with pa:=some ⟨g,0,none⟩,pc:=c}:Cn)) (fun (g c:Nat)=>({xT with pa:=some ⟨g,0,none⟩,pc:=c}:Cn)) (fun x=>Held shP x B g1 L.pn c1 ps∧Held shP x B g2 R.pn c2 qs) (fun g5 c5 g6 c6 x=>Held shP x w.heap.size g5 L.pn c5 ps∧Held shP x w.heap.size g6 R.pn c6 qs∧g5≠j∧g6≠j∧g5≠g6) (f 8) (f 12) (f 13) (f 14) (f 15) (f 16) (f 19) (f 22) (vals 13) (vals 14) (vals 15) (vals 16) x∧Held shG x B ga 0 0 ([]:List Sg)∧Held shG x B gb 0 0 ([]:List Sg)∧qw6.heap.size≤x.heap.size∧Touch j w x) (fun v=>{tmps:=#[.pointer (some ⟨j,0,none⟩),undef,.pointer (some ⟨j,0,none⟩),.pointer (some ⟨j,0,none⟩),.pointer (some ⟨j,0,none⟩),.tuple #[],.pointer (some ⟨j,0,none⟩),.pointer (some ⟨j,0,none⟩),.pointer (some ⟨j,0,none⟩),v 14,v 0,v 1,v 2,v 3,v 4,v 5,v 6,v 7,v 8,v 9,v 10,v 11,v 12,v 13,v 15,v 16,v 17,v 18,v 20,v 21,undef,undef,undef,undef,undef,undef,undef,undef,undef,undef,undef,undef,undef,undef,undef,undef,undef,undef,undef,undef,undef,.bool false,.pointer (some ⟨j,0,none⟩),.pointer (some ⟨j,0,none⟩),.pointer (some ⟨j,10,none⟩),.agg (cnCells {L with pa:=some ⟨g1,0,none⟩,pc:=c1}),.bool false,undef,undef,undef,undef,undef,undef,undef,undef,undef,undef,undef,undef,undef,undef,.bool false,.pointer (some ⟨j,0,none⟩),.pointer (some ⟨j,0,none⟩),.pointer (some ⟨j,47,none⟩),.agg (cnCells {R with pa:=some ⟨g2,0,none⟩,pc:=c2}),.bool false,undef,undef,undef,undef,undef,undef,undef,undef,undef,undef,undef,undef,undef,undef],defers:=[{target:=Target.fn (Fn.func 69) #[],args:=#[.pointer (some ⟨j,0,none⟩)]}]}) (by kernel_rfl) (by kernel_rfl) ?_ ?_ (fun vals=>by kernel_rfl) ?_ ?_
 case refine_1=>
  intro i x y v hl hv
  match i,hv with
  | 0,hv|1,hv|2,hv|3,hv|4,hv|5,hv|6,hv|7,hv|8,hv|9,hv|10,hv|11,hv|12,hv|17,hv|18,hv|20,hv|21,hv=>exact hv
  | 13,_|14,_|15,_|16,_|19,_|22,_=>trivial
  | n+23,_=>trivial
 case refine_2=>
  intro f vals hf
  exact ⟨⟨fun _=>⟨qB3.since ((Since.refl _).drew),A1.since ((Since.refl _).drew),A2.since ((Since.refl _).drew)⟩,(fun h=>by rw [hf 13] at h;cases h),(fun h=>by rw [hf 14] at h;cases h),(fun h=>by rw [hf 15] at h;cases h),(fun h=>by rw [hf 16] at h;cases h),(fun h=>by rw [hf 19] at h;cases h),(fun h=>by rw [hf 22] at h;cases h)⟩,A3.since ((Since.refl _).drew),A4.since ((Since.refl _).drew),((Since.refl _).drew).size,G.trans (Touch.of_since ((Since.refl _).drew) j)⟩
 case refine_3=>
  repeat (first|exact eachLow_nil|refine eachLow_cons ?_ ?_)
  all_goals intro f vals x hf hr hK
  all_goals obtain ⟨k,ka0,ka1,kn,kG⟩:=hK
  ·have f1:=(hr ⟨16,.data⟩ (by simp) rfl).1
   have e2:vals 21=.pointer (some ⟨j,47,none⟩):=(hr ⟨21,.data⟩ (by simp) rfl).2
   obtain ⟨f13,e1⟩:=k.m16 f1
   obtain ⟨hb,g5,c5,g6,c6,ev,kb,H5,H6,n5,n6,n7⟩:=k.suf f13
   rw [ev] at e1
   replace e1:vals 16=.agg (cnCells ((fun (g c:Nat)=>({xT with pa:=some ⟨g,0,none⟩,pc:=c}:Cn)) g6 c6)):=e1
   rw [hf] at kb
   refine does_part_store kb cn_big _ _ rfl 47 e2 (cnCells ((fun (g c:Nat)=>({xT with pa:=some ⟨g,0,none⟩,pc:=c}:Cn)) g6 c6)) e1 rfl (cn_one _) (by rw [jn_size];omega) (jn_setR _ _) ?_
   intro z t Bz
   exact ⟨Low.touch t rfl,⟨⟨fun h=>absurd f13 (by rw [show f 13=false from h];decide),fun _=>⟨hb,g5,c5,g6,c6,ev,Bz,H5.touch t (by omega),H6.touch t (by omega),n5,n6,n7⟩,k.m14,k.m15,k.m16,k.s19,fun _=>f13⟩,ka0.touch t (by omega),ka1.touch t (by omega),Nat.le_trans kn t.size,touch_any kG t (Or.inl rfl)⟩,trivial⟩
  ·have e1:vals 20=.pointer (some ⟨j,0,none⟩):=(hr ⟨20,.data⟩ (by simp) rfl).2
   exact does_val (.pointer (some ⟨j,47,none⟩)) x (by simp only [e1];kernel_rfl) ⟨Low.since (b:=j) (Since.refl _) rfl,⟨k,ka0,ka1,kn,kG⟩,rfl⟩
  ·have e1:vals 1=.pointer (some ⟨j,0,none⟩):=(hr ⟨1,.data⟩ (by simp) rfl).2
   exact does_val (.pointer (some ⟨j,0,none⟩)) x (by simp only [e1];kernel_rfl) ⟨Low.since (b:=j) (Since.refl _) rfl,⟨k,ka0,ka1,kn,kG⟩,rfl⟩
  ·have f1:=(hr ⟨15,.data⟩ (by simp) rfl).1
   have e2:vals 18=.pointer (some ⟨j,10,none⟩):=(hr ⟨18,.data⟩ (by simp) rfl).2
   obtain ⟨f13,e1⟩:=k.m15 f1
   obtain ⟨hb,g5,c5,g6,c6,ev,kb,H5,H6,n5,n6,n7⟩:=k.suf f13
   rw [ev] at e1
   replace e1:vals 15=.agg (cnCells ((fun (g c:Nat)=>({xF with pa:=some ⟨g,0,none⟩,pc:=c}:Cn)) g5 c5)):=e1
   rw [hf] at kb
   refine does_part_store kb cn_big _ _ rfl 10 e2 (cnCells ((fun (g c:Nat)=>({xF with pa:=some ⟨g,0,none⟩,pc:=c}:Cn)) g5 c5)) e1 rfl (cn_one _) (by rw [jn_size];omega) (jn_setL _ _) ?_
   intro z t Bz
   exact ⟨Low.touch t rfl,⟨⟨fun h=>absurd f13 (by rw [show f 13=false from h];decide),fun _=>⟨hb,g5,c5,g6,c6,ev,Bz,H5.touch t (by omega),H6.touch t (by omega),n5,n6,n7⟩,k.m14,k.m15,k.m16,fun _=>f13,k.s22⟩,ka0.touch t (by omega),ka1.touch t (by omega),Nat.le_trans kn t.size,touch_any kG t (Or.inl rfl)⟩,trivial⟩
  ·have e1:vals 17=.pointer (some ⟨j,0,none⟩):=(hr ⟨17,.data⟩ (by simp) rfl).2
   exact does_val (.pointer (some ⟨j,10,none⟩)) x (by simp only [e1];kernel_rfl) ⟨Low.since (b:=j) (Since.refl _) rfl,⟨k,ka0,ka1,kn,kG⟩,rfl⟩
  ·have e1:vals 0=.pointer (some ⟨j,0,none⟩):=(hr ⟨0,.data⟩ (by simp) rfl).2
   exact does_val (.pointer (some ⟨j,0,none⟩)) x (by simp only [e1];kernel_rfl) ⟨Low.since (b:=j) (Since.refl _) rfl,⟨k,ka0,ka1,kn,kG⟩,rfl⟩
  ·have f14:=(hr ⟨14,.data⟩ (by simp) rfl).1
   obtain ⟨f13,e14⟩:=k.m14 f14
   obtain ⟨-,g5,c5,g6,c6,ev,-⟩:=k.suf f13
   rw [ev] at e14
   exact does_val (.agg (cnCells ((fun (g c:Nat)=>({xT with pa:=some ⟨g,0,none⟩,pc:=c}:Cn)) g6 c6))) x (by simp only [e14];kernel_rfl) ⟨Low.since (b:=j) (Since.refl _) rfl,⟨⟨k.pre,k.suf,k.m14,k.m15,fun _=>⟨f13,by show .agg (cnCells ((fun (g c:Nat)=>({xT with pa:=some ⟨g,0,none⟩,pc:=c}:Cn)) g6 c6))=tup1 (vals 13);rw [ev];rfl⟩,k.s19,k.s22⟩,ka0,ka1,kn,kG⟩,trivial⟩
  ·have f14:=(hr ⟨14,.data⟩ (by simp) rfl).1
   obtain ⟨f13,e14⟩:=k.m14 f14
   obtain ⟨-,g5,c5,g6,c6,ev,-⟩:=k.suf f13
   rw [ev] at e14
   exact does_val (.agg (cnCells ((fun (g c:Nat)=>({xF with pa:=some ⟨g,0,none⟩,pc:=c}:Cn)) g5 c5))) x (by simp only [e14];kernel_rfl) ⟨Low.since (b:=j) (Since.refl _) rfl,⟨⟨k.pre,k.suf,k.m14,fun _=>⟨f13,by show .agg (cnCells ((fun (g c:Nat)=>({xF with pa:=some ⟨g,0,none⟩,pc:=c}:Cn)) g5 c5))=tup0 (vals 13);rw [ev];rfl⟩,k.m16,k.s19,k.s22⟩,ka0,ka1,kn,kG⟩,trivial⟩
  ·have f13:=(hr ⟨13,.data⟩ (by simp) rfl).1
   exact does_val (vals 13) x (by kernel_rfl) ⟨Low.since (b:=j) (Since.refl _) rfl,⟨⟨k.pre,k.suf,fun _=>⟨f13,rfl⟩,k.m15,k.m16,k.s19,k.s22⟩,ka0,ka1,kn,kG⟩,trivial⟩
  ·obtain ⟨f8,e8⟩:=hr ⟨8,.data⟩ (by simp) rfl
   obtain ⟨f12,e12⟩:=hr ⟨12,.data⟩ (by simp) rfl
   have e4:vals 4=.pointer (some ⟨j,2,none⟩):=(hr ⟨4,.data⟩ (by simp) rfl).2
   replace e8:vals 8=.agg (cnCells {L with pa:=some ⟨g1,0,none⟩,pc:=c1}):=e8
   replace e12:vals 12=.agg (cnCells {R with pa:=some ⟨g2,0,none⟩,pc:=c2}):=e12
   obtain ⟨kb,kp1,kp2⟩:=k.pre hf
   have h19:f 19=false:=by
    cases h:f 19 with
    | false=>rfl
    | true=>exact absurd (k.s19 h) (by rw [hf];decide)
   have h22:f 22=false:=by
    cases h:f 22 with
    | false=>rfl
    | true=>exact absurd (k.s22 h) (by rw [hf];decide)
   refine does_call (f:=72) (args:=#[.pointer (some ⟨j,2,none⟩),.agg (cnCells {L with pa:=some ⟨g1,0,none⟩,pc:=c1}),.agg (cnCells {R with pa:=some ⟨g2,0,none⟩,pc:=c2})]) (by simp only [e4,e8,e12];kernel_rfl) ?_
   refine (hc1 g1 c1 g2 c2 2 _ _ _ (jn_up kb) kp1.reads (fun z tz=>(kp2.touch tz (by omega)).reads)).mono ?_
   rintro _ x' ⟨g5,c5,g6,c6,rfl,H5,H6,hne,t,C⟩
   have xs:=t.size
   have l5:=H5.low'
   have l6:=H6.low'
   have jl:=kb.lt
   have gs:=kG.size
   refine ⟨_,rfl,Low.touch t rfl,⟨⟨fun h=>absurd h (by simp [andDone]),fun _=>⟨⟨f8,f12⟩,g5,c5,g6,c6,rfl,?_,H5.raise (by omega),H6.raise (by omega),by omega,by omega,hne⟩,fun h=>absurd (k.m14 h).1 (by rw [hf];decide),fun h=>absurd (k.m15 h).1 (by rw [hf];decide),fun h=>absurd (k.m16 h).1 (by rw [hf];decide),fun _=>rfl,fun _=>rfl⟩,ka0.touch t (by omega),ka1.touch t (by omega),Nat.le_trans kn t.size,touch_any kG t (Or.inl rfl)⟩,trivial⟩
   show Blk j x' (jnCells ((fun (a b:Cn)=>(⟨1,0,r,xD,xE,xN,sr,sd,se,sn,a,b,some ⟨ga,0,none⟩,0,0,some ⟨gb,0,none⟩,0,0⟩:Jn)) (if f 19 then _ else {L with pa:=some ⟨g1,0,none⟩,pc:=c1}) (if f 22 then _ else {R with pa:=some ⟨g2,0,none⟩,pc:=c2})))
   rw [h19,h22]
   exact jn_of_up C
  ·have e1:vals 11=.pointer (some ⟨j,47,none⟩):=(hr ⟨11,.data⟩ (by simp) rfl).2
   have hb:f 13=false:=by
    cases h:f 13 with
    | false=>rfl
    | true=>exact absurd (k.suf h).1.2 (by rw [hf];decide)
   obtain ⟨kb,kp⟩:=k.pre hb
   exact does_part_load kb cn_big _ rfl 47 e1 (cnCells {R with pa:=some ⟨g2,0,none⟩,pc:=c2}).toList rfl (jn_R (⟨1,0,r,d,e,n,sr,sd,se,sn,{L with pa:=some ⟨g1,0,none⟩,pc:=c1},{R with pa:=some ⟨g2,0,none⟩,pc:=c2},some ⟨ga,0,none⟩,0,0,some ⟨gb,0,none⟩,0,0⟩:Jn)) ⟨Low.since (b:=j) (Since.refl _) rfl,⟨⟨fun _=>⟨kb,kp⟩,fun h=>absurd (show f 13=true from h) (by rw [hb];decide),k.m14,k.m15,k.m16,k.s19,k.s22⟩,ka0,ka1,kn,kG⟩,rfl⟩
  ·have e1:vals 10=.pointer (some ⟨j,0,none⟩):=(hr ⟨10,.data⟩ (by simp) rfl).2
   exact does_val (.pointer (some ⟨j,47,none⟩)) x (by simp only [e1];kernel_rfl) ⟨Low.since (b:=j) (Since.refl _) rfl,⟨k,ka0,ka1,kn,kG⟩,rfl⟩
  ·have e1:vals 9=.pointer (some ⟨j,0,none⟩):=(hr ⟨9,.data⟩ (by simp) rfl).2
   exact does_val (.pointer (some ⟨j,0,none⟩)) x (by simp only [e1];kernel_rfl) ⟨Low.since (b:=j) (Since.refl _) rfl,⟨k,ka0,ka1,kn,kG⟩,rfl⟩
  ·exact does_val (.pointer (some ⟨j,0,none⟩)) x (by kernel_rfl) ⟨Low.since (b:=j) (Since.refl _) rfl,⟨k,ka0,ka1,kn,kG⟩,rfl⟩
  ·have e1:vals 7=.pointer (some ⟨j,10,none⟩):=(hr ⟨7,.data⟩ (by simp) rfl).2
   have hb:f 13=false:=by
    cases h:f 13 with
    | false=>rfl
    | true=>exact absurd (k.suf h).1.1 (by rw [hf];decide)
   obtain ⟨kb,kp⟩:=k.pre hb
   exact does_part_load kb cn_big _ rfl 10 e1 (cnCells {L with pa:=some ⟨g1,0,none⟩,pc:=c1}).toList rfl (jn_L (⟨1,0,r,d,e,n,sr,sd,se,sn,{L with pa:=some ⟨g1,0,none⟩,pc:=c1},{R with pa:=some ⟨g2,0,none⟩,pc:=c2},some ⟨ga,0,none⟩,0,0,some ⟨gb,0,none⟩,0,0⟩:Jn)) ⟨Low.since (b:=j) (Since.refl _) rfl,⟨⟨fun _=>⟨kb,kp⟩,fun h=>absurd (show f 13=true from h) (by rw [hb];decide),k.m14,k.m15,k.m16,k.s19,k.s22⟩,ka0,ka1,kn,kG⟩,rfl⟩
  ·have e1:vals 6=.pointer (some ⟨j,0,none⟩):=(hr ⟨6,.data⟩ (by simp) rfl).2
   exact does_val (.pointer (some ⟨j,10,none⟩)) x (by simp only [e1];kernel_rfl) ⟨Low.since (b:=j) (Since.refl _) rfl,⟨k,ka0,ka1,kn,kG⟩,rfl⟩
  ·have e1:vals 5=.pointer (some ⟨j,0,none⟩):=(hr ⟨5,.data⟩ (by simp) rfl).2
   exact does_val (.pointer (some ⟨j,0,none⟩)) x (by simp only [e1];kernel_rfl) ⟨Low.since (b:=j) (Since.refl _) rfl,⟨k,ka0,ka1,kn,kG⟩,rfl⟩
  ·exact does_val (.pointer (some ⟨j,0,none⟩)) x (by kernel_rfl) ⟨Low.since (b:=j) (Since.refl _) rfl,⟨k,ka0,ka1,kn,kG⟩,rfl⟩
  ·have e1:vals 3=.pointer (some ⟨j,0,none⟩):=(hr ⟨3,.data⟩ (by simp) rfl).2
   exact does_val (.pointer (some ⟨j,2,none⟩)) x (by simp only [e1];kernel_rfl) ⟨Low.since (b:=j) (Since.refl _) rfl,⟨k,ka0,ka1,kn,kG⟩,rfl⟩
  ·have e1:vals 2=.pointer (some ⟨j,0,none⟩):=(hr ⟨2,.data⟩ (by simp) rfl).2
   exact does_val (.pointer (some ⟨j,0,none⟩)) x (by simp only [e1];kernel_rfl) ⟨Low.since (b:=j) (Since.refl _) rfl,⟨k,ka0,ka1,kn,kG⟩,rfl⟩
  ·exact does_val (.pointer (some ⟨j,0,none⟩)) x (by kernel_rfl) ⟨Low.since (b:=j) (Since.refl _) rfl,⟨k,ka0,ka1,kn,kG⟩,rfl⟩
  ·exact does_val (.pointer (some ⟨j,0,none⟩)) x (by kernel_rfl) ⟨Low.since (b:=j) (Since.refl _) rfl,⟨k,ka0,ka1,kn,kG⟩,rfl⟩
  ·exact does_val (.pointer (some ⟨j,0,none⟩)) x (by kernel_rfl) ⟨Low.since (b:=j) (Since.refl _) rfl,⟨k,ka0,ka1,kn,kG⟩,rfl⟩
 case refine_4=>
  intro f qv9 qw8 hK hf hv
  obtain ⟨k,ka0,ka1,kn,kG⟩:=hK
  obtain ⟨-,g5,c5,g6,c6,ev,EB,Hg5,Hg6,ng5,ng6,nng5⟩:=k.suf (hf 13 (by decide))
  rw [hf 19 (by decide),hf 22 (by decide)] at EB
  have e14:=(k.m14 (hf 14 (by decide))).2
  have e15:=(k.m15 (hf 15 (by decide))).2
  have e16:=(k.m16 (hf 16 (by decide))).2
  rw [ev] at e14 e15 e16
  replace e15:qv9 15=.agg (cnCells {xF with pa:=some ⟨g5,0,none⟩,pc:=c5}):=e15
  replace e16:qv9 16=.agg (cnCells {xT with pa:=some ⟨g6,0,none⟩,pc:=c6}):=e16
  replace ev:qv9 13=.tuple #[.agg (cnCells {xF with pa:=some ⟨g5,0,none⟩,pc:=c5}),.agg (cnCells {xT with pa:=some ⟨g6,0,none⟩,pc:=c6})]:=ev
  replace e14:qv9 14=.tuple #[.agg (cnCells {xF with pa:=some ⟨g5,0,none⟩,pc:=c5}),.agg (cnCells {xT with pa:=some ⟨g6,0,none⟩,pc:=c6})]:=e14
  have hv0:qv9 0=.pointer (some ⟨j,0,none⟩):=hv 0 (by decide)
  have hv1:qv9 1=.pointer (some ⟨j,0,none⟩):=hv 1 (by decide)
  have hv2:qv9 2=.pointer (some ⟨j,0,none⟩):=hv 2 (by decide)
  have hv3:qv9 3=.pointer (some ⟨j,0,none⟩):=hv 3 (by decide)
  have hv4:qv9 4=.pointer (some ⟨j,2,none⟩):=hv 4 (by decide)
  have hv5:qv9 5=.pointer (some ⟨j,0,none⟩):=hv 5 (by decide)
  have hv6:qv9 6=.pointer (some ⟨j,0,none⟩):=hv 6 (by decide)
  have hv7:qv9 7=.pointer (some ⟨j,10,none⟩):=hv 7 (by decide)
  have hv8:qv9 8=.agg (cnCells {L with pa:=some ⟨g1,0,none⟩,pc:=c1}):=hv 8 (by decide)
  have hv9:qv9 9=.pointer (some ⟨j,0,none⟩):=hv 9 (by decide)
  have hv10:qv9 10=.pointer (some ⟨j,0,none⟩):=hv 10 (by decide)
  have hv11:qv9 11=.pointer (some ⟨j,47,none⟩):=hv 11 (by decide)
  have hv12:qv9 12=.agg (cnCells {R with pa:=some ⟨g2,0,none⟩,pc:=c2}):=hv 12 (by decide)
  have hv17:qv9 17=.pointer (some ⟨j,0,none⟩):=hv 17 (by decide)
  have hv18:qv9 18=.pointer (some ⟨j,10,none⟩):=hv 18 (by decide)
  have hv20:qv9 20=.pointer (some ⟨j,0,none⟩):=hv 20 (by decide)
  have hv21:qv9 21=.pointer (some ⟨j,47,none⟩):=hv 21 (by decide)
  clear hv hf k
  simp only [hv0,hv1,hv2,hv3,hv4,hv5,hv6,hv7,hv8,hv9,hv10,hv11,hv12,hv17,hv18,hv20,hv21,ev,e14,e15,e16]
  clear hv0 hv1 hv2 hv3 hv4 hv5 hv6 hv7 hv8 hv9 hv10 hv11 hv12 hv17 hv18 hv20 hv21 ev e14 e15 e16
  clear qB3 A1 A2 A3 A4 G
  have A3:=ka0
  have A4:=ka1
  have G:=kG
  have qw8_z:=G.size
  have Hg5_1:=Hg5.lt
  have Hg6_1:=Hg6.lt
  have Hg5_0:=Hg5.low'
  have Hg6_0:=Hg6.low'
  clear ka0 ka1 kG
  have EB2:Blk j qw8 (jnCells ⟨1,0,r,xD,xE,xN,sr,sd,se,sn,{xF with pa:=some ⟨g5,0,none⟩,pc:=c5},{xT with pa:=some ⟨g6,0,none⟩,pc:=c6},some ⟨ga,0,none⟩,0,0,some ⟨gb,0,none⟩,0,0⟩):=EB
  clear EB
  go_upto_region 3 with (fail)
  refine wp_region_low (Low (fun b=>b=j)) (fun i x v=>match i with
    | 0=>v=.pointer (some ⟨j,0,none⟩)
    | 1=>v=.pointer (some ⟨j,0,none⟩)
    | 2=>v=.pointer (some ⟨j,0,none⟩)
    | 3=>v=.pointer (some ⟨j,0,none⟩)
    | 4=>v=.pointer (some ⟨j,6,none⟩)
    | 5=>v=.pointer (some ⟨j,0,none⟩)
    | 6=>v=.pointer (some ⟨j,0,none⟩)
    | 7=>v=.pointer (some ⟨j,47,none⟩)
    | 8=>v=.agg (cnCells {xT with pa:=some ⟨g6,0,none⟩,pc:=c6})
    | 9=>v=.pointer (some ⟨j,0,none⟩)
    | 10=>v=.pointer (some ⟨j,0,none⟩)
    | 11=>v=.pointer (some ⟨j,10,none⟩)
    | 12=>v=.agg (cnCells {xF with pa:=some ⟨g5,0,none⟩,pc:=c5})
    | 17=>v=.pointer (some ⟨j,0,none⟩)
    | 18=>v=.pointer (some ⟨j,47,none⟩)
    | 20=>v=.pointer (some ⟨j,0,none⟩)
    | 21=>v=.pointer (some ⟨j,10,none⟩)
    | _=>True) (fun f vals x=>MvK j ⟨1,0,r,xD,xE,xN,sr,sd,se,sn,{xF with pa:=some ⟨g5,0,none⟩,pc:=c5},{xT with pa:=some ⟨g6,0,none⟩,pc:=c6},some ⟨ga,0,none⟩,0,0,some ⟨gb,0,none⟩,0,0⟩ (fun (a b:Cn)=>(⟨1,0,r,xD,xE,xN,sr,yD,yE,yN,b,a,some ⟨ga,0,none⟩,0,0,some ⟨gb,0,none⟩,0,0⟩:Jn)) {xT with pa:=some ⟨g6,0,none⟩,pc:=c6} {xF with pa:=some ⟨g5,0,none⟩,pc:=c5} (fun (g c:Nat)=>({yF with pa:=some ⟨g,0,none⟩,pc:=c}:Cn)) (fun (g c:Nat)=>({yT with pa:=some ⟨g,0,none⟩,pc:=c}:Cn)) (fun x=>Held shP x w.heap.size g5 L.pn c5 ps∧Held shP x w.heap.size g6 R.pn c6 qs) (fun g5 c5 g6 c6 x=>Held shP x w.heap.size g5 R.pn c5 qs∧Held shP x w.heap.size g6 L.pn c6 ps∧g5≠j∧g6≠j∧g5≠g6) (f 8) (f 12) (f 13) (f 14) (f 15) (f 16) (f 19) (f 22) (vals 13) (vals 14) (vals 15) (vals 16) x∧Held shG x B ga 0 0 ([]:List Sg)∧Held shG x B gb 0 0 ([]:List Sg)∧qw8.heap.size≤x.heap.size∧Touch j w x) (fun v=>{tmps:=#[.pointer (some ⟨j,0,none⟩),undef,.pointer (some ⟨j,0,none⟩),.pointer (some ⟨j,0,none⟩),.pointer (some ⟨j,0,none⟩),.tuple #[],.pointer (some ⟨j,0,none⟩),.pointer (some ⟨j,0,none⟩),.pointer (some ⟨j,0,none⟩),.tuple #[.agg (cnCells {xF with pa:=some ⟨g5,0,none⟩,pc:=c5}),.agg (cnCells {xT with pa:=some ⟨g6,0,none⟩,pc:=c6})],.pointer (some ⟨j,0,none⟩),.pointer (some ⟨j,0,none⟩),.pointer (some ⟨j,0,none⟩),.pointer (some ⟨j,0,none⟩),.pointer (some ⟨j,2,none⟩),.pointer (some ⟨j,0,none⟩),.pointer (some ⟨j,0,none⟩),.pointer (some ⟨j,10,none⟩),.agg (cnCells {L with pa:=some ⟨g1,0,none⟩,pc:=c1}),.pointer (some ⟨j,0,none⟩),.pointer (some ⟨j,0,none⟩),.pointer (some ⟨j,47,none⟩),.agg (cnCells {R with pa:=some ⟨g2,0,none⟩,pc:=c2}),.tuple #[.agg (cnCells {xF with pa:=some ⟨g5,0,none⟩,pc:=c5}),.agg (cnCells {xT with pa:=some ⟨g6,0,none⟩,pc:=c6})],.agg (cnCells {xF with pa:=some ⟨g5,0,none⟩,pc:=c5}),.agg (cnCells {xT with pa:=some ⟨g6,0,none⟩,pc:=c6}),.pointer (some ⟨j,0,none⟩),.pointer (some ⟨j,10,none⟩),.pointer (some ⟨j,0,none⟩),.pointer (some ⟨j,47,none⟩),v 14,v 0,v 1,v 2,v 3,v 4,v 5,v 6,v 7,v 8,v 9,v 10,v 11,v 12,v 13,v 15,v 16,v 17,v 18,v 20,v 21,.bool false,.pointer (some ⟨j,0,none⟩),.pointer (some ⟨j,0,none⟩),.pointer (some ⟨j,10,none⟩),.agg (cnCells {L with pa:=some ⟨g1,0,none⟩,pc:=c1}),.bool false,undef,undef,undef,undef,undef,undef,undef,undef,undef,undef,undef,undef,undef,undef,.bool false,.pointer (some ⟨j,0,none⟩),.pointer (some ⟨j,0,none⟩),.pointer (some ⟨j,47,none⟩),.agg (cnCells {R with pa:=some ⟨g2,0,none⟩,pc:=c2}),.bool false,undef,undef,undef,undef,undef,undef,undef,undef,undef,undef,undef,undef,undef,undef],defers:=[{target:=Target.fn (Fn.func 69) #[],args:=#[.pointer (some ⟨j,0,none⟩)]}]}) (by kernel_rfl) (by kernel_rfl) ?_ ?_ (fun vals=>by kernel_rfl) ?_ ?_
  case refine_1=>
   intro i x y v hl hv
   match i,hv with
   | 0,hv|1,hv|2,hv|3,hv|4,hv|5,hv|6,hv|7,hv|8,hv|9,hv|10,hv|11,hv|12,hv|17,hv|18,hv|20,hv|21,hv=>exact hv
   | 13,_|14,_|15,_|16,_|19,_|22,_=>trivial
   | n+23,_=>trivial
  case refine_2=>
   intro f vals hf
   exact ⟨⟨fun _=>⟨EB2.since ((Since.refl _).drew),Hg5.since ((Since.refl _).drew),Hg6.since ((Since.refl _).drew)⟩,(fun h=>by rw [hf 13] at h;cases h),(fun h=>by rw [hf 14] at h;cases h),(fun h=>by rw [hf 15] at h;cases h),(fun h=>by rw [hf 16] at h;cases h),(fun h=>by rw [hf 19] at h;cases h),(fun h=>by rw [hf 22] at h;cases h)⟩,A3.since ((Since.refl _).drew),A4.since ((Since.refl _).drew),((Since.refl _).drew).size,G.trans (Touch.of_since ((Since.refl _).drew) j)⟩
  case refine_3=>
   repeat (first|exact eachLow_nil|refine eachLow_cons ?_ ?_)
   all_goals intro f vals x hf hr hK
   all_goals obtain ⟨k,ka0,ka1,kn,kG⟩:=hK
   ·have f1:=(hr ⟨16,.data⟩ (by simp) rfl).1
    have e2:vals 21=.pointer (some ⟨j,10,none⟩):=(hr ⟨21,.data⟩ (by simp) rfl).2
    obtain ⟨f13,e1⟩:=k.m16 f1
    obtain ⟨hb,g5,c5,g6,c6,ev,kb,H5,H6,n5,n6,n7⟩:=k.suf f13
    rw [ev] at e1
    replace e1:vals 16=.agg (cnCells ((fun (g c:Nat)=>({yT with pa:=some ⟨g,0,none⟩,pc:=c}:Cn)) g6 c6)):=e1
    rw [hf] at kb
    refine does_part_store kb cn_big _ _ rfl 10 e2 (cnCells ((fun (g c:Nat)=>({yT with pa:=some ⟨g,0,none⟩,pc:=c}:Cn)) g6 c6)) e1 rfl (cn_one _) (by rw [jn_size];omega) (jn_setL _ _) ?_
    intro z t Bz
    exact ⟨Low.touch t rfl,⟨⟨fun h=>absurd f13 (by rw [show f 13=false from h];decide),fun _=>⟨hb,g5,c5,g6,c6,ev,Bz,H5.touch t (by omega),H6.touch t (by omega),n5,n6,n7⟩,k.m14,k.m15,k.m16,k.s19,fun _=>f13⟩,ka0.touch t (by omega),ka1.touch t (by omega),Nat.le_trans kn t.size,touch_any kG t (Or.inl rfl)⟩,trivial⟩
   ·have e1:vals 20=.pointer (some ⟨j,0,none⟩):=(hr ⟨20,.data⟩ (by simp) rfl).2
    exact does_val (.pointer (some ⟨j,10,none⟩)) x (by simp only [e1];kernel_rfl) ⟨Low.since (b:=j) (Since.refl _) rfl,⟨k,ka0,ka1,kn,kG⟩,rfl⟩
   ·have e1:vals 1=.pointer (some ⟨j,0,none⟩):=(hr ⟨1,.data⟩ (by simp) rfl).2
    exact does_val (.pointer (some ⟨j,0,none⟩)) x (by simp only [e1];kernel_rfl) ⟨Low.since (b:=j) (Since.refl _) rfl,⟨k,ka0,ka1,kn,kG⟩,rfl⟩
   ·have f1:=(hr ⟨15,.data⟩ (by simp) rfl).1
    have e2:vals 18=.pointer (some ⟨j,47,none⟩):=(hr ⟨18,.data⟩ (by simp) rfl).2
    obtain ⟨f13,e1⟩:=k.m15 f1
    obtain ⟨hb,g5,c5,g6,c6,ev,kb,H5,H6,n5,n6,n7⟩:=k.suf f13
    rw [ev] at e1
    replace e1:vals 15=.agg (cnCells ((fun (g c:Nat)=>({yF with pa:=some ⟨g,0,none⟩,pc:=c}:Cn)) g5 c5)):=e1
    rw [hf] at kb
    refine does_part_store kb cn_big _ _ rfl 47 e2 (cnCells ((fun (g c:Nat)=>({yF with pa:=some ⟨g,0,none⟩,pc:=c}:Cn)) g5 c5)) e1 rfl (cn_one _) (by rw [jn_size];omega) (jn_setR _ _) ?_
    intro z t Bz
    exact ⟨Low.touch t rfl,⟨⟨fun h=>absurd f13 (by rw [show f 13=false from h];decide),fun _=>⟨hb,g5,c5,g6,c6,ev,Bz,H5.touch t (by omega),H6.touch t (by omega),n5,n6,n7⟩,k.m14,k.m15,k.m16,fun _=>f13,k.s22⟩,ka0.touch t (by omega),ka1.touch t (by omega),Nat.le_trans kn t.size,touch_any kG t (Or.inl rfl)⟩,trivial⟩
   ·have e1:vals 17=.pointer (some ⟨j,0,none⟩):=(hr ⟨17,.data⟩ (by simp) rfl).2
    exact does_val (.pointer (some ⟨j,47,none⟩)) x (by simp only [e1];kernel_rfl) ⟨Low.since (b:=j) (Since.refl _) rfl,⟨k,ka0,ka1,kn,kG⟩,rfl⟩
   ·have e1:vals 0=.pointer (some ⟨j,0,none⟩):=(hr ⟨0,.data⟩ (by simp) rfl).2
    exact does_val (.pointer (some ⟨j,0,none⟩)) x (by simp only [e1];kernel_rfl) ⟨Low.since (b:=j) (Since.refl _) rfl,⟨k,ka0,ka1,kn,kG⟩,rfl⟩
   ·have f14:=(hr ⟨14,.data⟩ (by simp) rfl).1
    obtain ⟨f13,e14⟩:=k.m14 f14
    obtain ⟨-,g5,c5,g6,c6,ev,-⟩:=k.suf f13
    rw [ev] at e14
    exact does_val (.agg (cnCells ((fun (g c:Nat)=>({yT with pa:=some ⟨g,0,none⟩,pc:=c}:Cn)) g6 c6))) x (by simp only [e14];kernel_rfl) ⟨Low.since (b:=j) (Since.refl _) rfl,⟨⟨k.pre,k.suf,k.m14,k.m15,fun _=>⟨f13,by show .agg (cnCells ((fun (g c:Nat)=>({yT with pa:=some ⟨g,0,none⟩,pc:=c}:Cn)) g6 c6))=tup1 (vals 13);rw [ev];rfl⟩,k.s19,k.s22⟩,ka0,ka1,kn,kG⟩,trivial⟩
   ·have f14:=(hr ⟨14,.data⟩ (by simp) rfl).1
    obtain ⟨f13,e14⟩:=k.m14 f14
    obtain ⟨-,g5,c5,g6,c6,ev,-⟩:=k.suf f13
    rw [ev] at e14
    exact does_val (.agg (cnCells ((fun (g c:Nat)=>({yF with pa:=some ⟨g,0,none⟩,pc:=c}:Cn)) g5 c5))) x (by simp only [e14];kernel_rfl) ⟨Low.since (b:=j) (Since.refl _) rfl,⟨⟨k.pre,k.suf,k.m14,fun _=>⟨f13,by show .agg (cnCells ((fun (g c:Nat)=>({yF with pa:=some ⟨g,0,none⟩,pc:=c}:Cn)) g5 c5))=tup0 (vals 13);rw [ev];rfl⟩,k.m16,k.s19,k.s22⟩,ka0,ka1,kn,kG⟩,trivial⟩
   ·have f13:=(hr ⟨13,.data⟩ (by simp) rfl).1
    exact does_val (vals 13) x (by kernel_rfl) ⟨Low.since (b:=j) (Since.refl _) rfl,⟨⟨k.pre,k.suf,fun _=>⟨f13,rfl⟩,k.m15,k.m16,k.s19,k.s22⟩,ka0,ka1,kn,kG⟩,trivial⟩
   ·obtain ⟨f8,e8⟩:=hr ⟨8,.data⟩ (by simp) rfl
    obtain ⟨f12,e12⟩:=hr ⟨12,.data⟩ (by simp) rfl
    have e4:vals 4=.pointer (some ⟨j,6,none⟩):=(hr ⟨4,.data⟩ (by simp) rfl).2
    replace e8:vals 8=.agg (cnCells {xT with pa:=some ⟨g6,0,none⟩,pc:=c6}):=e8
    replace e12:vals 12=.agg (cnCells {xF with pa:=some ⟨g5,0,none⟩,pc:=c5}):=e12
    obtain ⟨kb,kp1,kp2⟩:=k.pre hf
    have h19:f 19=false:=by
     cases h:f 19 with
     | false=>rfl
     | true=>exact absurd (k.s19 h) (by rw [hf];decide)
    have h22:f 22=false:=by
     cases h:f 22 with
     | false=>rfl
     | true=>exact absurd (k.s22 h) (by rw [hf];decide)
    refine does_call (f:=72) (args:=#[.pointer (some ⟨j,6,none⟩),.agg (cnCells {xT with pa:=some ⟨g6,0,none⟩,pc:=c6}),.agg (cnCells {xF with pa:=some ⟨g5,0,none⟩,pc:=c5})]) (by simp only [e4,e8,e12];kernel_rfl) ?_
    refine (hc2 g6 c6 g5 c5 6 _ _ _ (jn_dn kb) (by rw [pT];exact kp2.reads) (fun z tz=>by rw [pF];exact (kp1.touch tz (by omega)).reads)).mono ?_
    rintro _ x' ⟨g7,c7,g8,c8,rfl,H5,H6,hne,t,C⟩
    rw [pT] at H5
    rw [pF] at H6
    have xs:=t.size
    have l5:=H5.low'
    have l6:=H6.low'
    have jl:=kb.lt
    have gs:=kG.size
    refine ⟨_,rfl,Low.touch t rfl,⟨⟨fun h=>absurd h (by simp [andDone]),fun _=>⟨⟨f8,f12⟩,g7,c7,g8,c8,rfl,?_,H5.raise (by omega),H6.raise (by omega),by omega,by omega,hne⟩,fun h=>absurd (k.m14 h).1 (by rw [hf];decide),fun h=>absurd (k.m15 h).1 (by rw [hf];decide),fun h=>absurd (k.m16 h).1 (by rw [hf];decide),fun _=>rfl,fun _=>rfl⟩,ka0.touch t (by omega),ka1.touch t (by omega),Nat.le_trans kn t.size,touch_any kG t (Or.inl rfl)⟩,trivial⟩
    show Blk j x' (jnCells ((fun (a b:Cn)=>(⟨1,0,r,xD,xE,xN,sr,yD,yE,yN,b,a,some ⟨ga,0,none⟩,0,0,some ⟨gb,0,none⟩,0,0⟩:Jn)) (if f 19 then _ else {xT with pa:=some ⟨g6,0,none⟩,pc:=c6}) (if f 22 then _ else {xF with pa:=some ⟨g5,0,none⟩,pc:=c5})))
    rw [h19,h22]
    exact jn_of_dn C
   ·have e1:vals 11=.pointer (some ⟨j,10,none⟩):=(hr ⟨11,.data⟩ (by simp) rfl).2
    have hb:f 13=false:=by
     cases h:f 13 with
     | false=>rfl
     | true=>exact absurd (k.suf h).1.2 (by rw [hf];decide)
    obtain ⟨kb,kp⟩:=k.pre hb
    exact does_part_load kb cn_big _ rfl 10 e1 (cnCells {xF with pa:=some ⟨g5,0,none⟩,pc:=c5}).toList rfl (jn_L (⟨1,0,r,xD,xE,xN,sr,sd,se,sn,{xF with pa:=some ⟨g5,0,none⟩,pc:=c5},{xT with pa:=some ⟨g6,0,none⟩,pc:=c6},some ⟨ga,0,none⟩,0,0,some ⟨gb,0,none⟩,0,0⟩:Jn)) ⟨Low.since (b:=j) (Since.refl _) rfl,⟨⟨fun _=>⟨kb,kp⟩,fun h=>absurd (show f 13=true from h) (by rw [hb];decide),k.m14,k.m15,k.m16,k.s19,k.s22⟩,ka0,ka1,kn,kG⟩,rfl⟩
   ·have e1:vals 10=.pointer (some ⟨j,0,none⟩):=(hr ⟨10,.data⟩ (by simp) rfl).2
    exact does_val (.pointer (some ⟨j,10,none⟩)) x (by simp only [e1];kernel_rfl) ⟨Low.since (b:=j) (Since.refl _) rfl,⟨k,ka0,ka1,kn,kG⟩,rfl⟩
   ·have e1:vals 9=.pointer (some ⟨j,0,none⟩):=(hr ⟨9,.data⟩ (by simp) rfl).2
    exact does_val (.pointer (some ⟨j,0,none⟩)) x (by simp only [e1];kernel_rfl) ⟨Low.since (b:=j) (Since.refl _) rfl,⟨k,ka0,ka1,kn,kG⟩,rfl⟩
   ·exact does_val (.pointer (some ⟨j,0,none⟩)) x (by kernel_rfl) ⟨Low.since (b:=j) (Since.refl _) rfl,⟨k,ka0,ka1,kn,kG⟩,rfl⟩
   ·have e1:vals 7=.pointer (some ⟨j,47,none⟩):=(hr ⟨7,.data⟩ (by simp) rfl).2
    have hb:f 13=false:=by
     cases h:f 13 with
     | false=>rfl
     | true=>exact absurd (k.suf h).1.1 (by rw [hf];decide)
    obtain ⟨kb,kp⟩:=k.pre hb
    exact does_part_load kb cn_big _ rfl 47 e1 (cnCells {xT with pa:=some ⟨g6,0,none⟩,pc:=c6}).toList rfl (jn_R (⟨1,0,r,xD,xE,xN,sr,sd,se,sn,{xF with pa:=some ⟨g5,0,none⟩,pc:=c5},{xT with pa:=some ⟨g6,0,none⟩,pc:=c6},some ⟨ga,0,none⟩,0,0,some ⟨gb,0,none⟩,0,0⟩:Jn)) ⟨Low.since (b:=j) (Since.refl _) rfl,⟨⟨fun _=>⟨kb,kp⟩,fun h=>absurd (show f 13=true from h) (by rw [hb];decide),k.m14,k.m15,k.m16,k.s19,k.s22⟩,ka0,ka1,kn,kG⟩,rfl⟩
   ·have e1:vals 6=.pointer (some ⟨j,0,none⟩):=(hr ⟨6,.data⟩ (by simp) rfl).2
    exact does_val (.pointer (some ⟨j,47,none⟩)) x (by simp only [e1];kernel_rfl) ⟨Low.since (b:=j) (Since.refl _) rfl,⟨k,ka0,ka1,kn,kG⟩,rfl⟩
   ·have e1:vals 5=.pointer (some ⟨j,0,none⟩):=(hr ⟨5,.data⟩ (by simp) rfl).2
    exact does_val (.pointer (some ⟨j,0,none⟩)) x (by simp only [e1];kernel_rfl) ⟨Low.since (b:=j) (Since.refl _) rfl,⟨k,ka0,ka1,kn,kG⟩,rfl⟩
   ·exact does_val (.pointer (some ⟨j,0,none⟩)) x (by kernel_rfl) ⟨Low.since (b:=j) (Since.refl _) rfl,⟨k,ka0,ka1,kn,kG⟩,rfl⟩
   ·have e1:vals 3=.pointer (some ⟨j,0,none⟩):=(hr ⟨3,.data⟩ (by simp) rfl).2
    exact does_val (.pointer (some ⟨j,6,none⟩)) x (by simp only [e1];kernel_rfl) ⟨Low.since (b:=j) (Since.refl _) rfl,⟨k,ka0,ka1,kn,kG⟩,rfl⟩
   ·have e1:vals 2=.pointer (some ⟨j,0,none⟩):=(hr ⟨2,.data⟩ (by simp) rfl).2
    exact does_val (.pointer (some ⟨j,0,none⟩)) x (by simp only [e1];kernel_rfl) ⟨Low.since (b:=j) (Since.refl _) rfl,⟨k,ka0,ka1,kn,kG⟩,rfl⟩
   ·exact does_val (.pointer (some ⟨j,0,none⟩)) x (by kernel_rfl) ⟨Low.since (b:=j) (Since.refl _) rfl,⟨k,ka0,ka1,kn,kG⟩,rfl⟩
   ·exact does_val (.pointer (some ⟨j,0,none⟩)) x (by kernel_rfl) ⟨Low.since (b:=j) (Since.refl _) rfl,⟨k,ka0,ka1,kn,kG⟩,rfl⟩
   ·exact does_val (.pointer (some ⟨j,0,none⟩)) x (by kernel_rfl) ⟨Low.since (b:=j) (Since.refl _) rfl,⟨k,ka0,ka1,kn,kG⟩,rfl⟩
  case refine_4=>
   intro f qv11 qw10 hK hf hv
   obtain ⟨k,ka0,ka1,kn,kG⟩:=hK
   obtain ⟨-,g7,c7,g8,c8,ev,EB,Hg7,Hg8,ng7,ng8,nng7⟩:=k.suf (hf 13 (by decide))
   rw [hf 19 (by decide),hf 22 (by decide)] at EB
   have e14:=(k.m14 (hf 14 (by decide))).2
   have e15:=(k.m15 (hf 15 (by decide))).2
   have e16:=(k.m16 (hf 16 (by decide))).2
   rw [ev] at e14 e15 e16
   replace e15:qv11 15=.agg (cnCells {yF with pa:=some ⟨g7,0,none⟩,pc:=c7}):=e15
   replace e16:qv11 16=.agg (cnCells {yT with pa:=some ⟨g8,0,none⟩,pc:=c8}):=e16
   replace ev:qv11 13=.tuple #[.agg (cnCells {yF with pa:=some ⟨g7,0,none⟩,pc:=c7}),.agg (cnCells {yT with pa:=some ⟨g8,0,none⟩,pc:=c8})]:=ev
   replace e14:qv11 14=.tuple #[.agg (cnCells {yF with pa:=some ⟨g7,0,none⟩,pc:=c7}),.agg (cnCells {yT with pa:=some ⟨g8,0,none⟩,pc:=c8})]:=e14
   have hv0:qv11 0=.pointer (some ⟨j,0,none⟩):=hv 0 (by decide)
   have hv1:qv11 1=.pointer (some ⟨j,0,none⟩):=hv 1 (by decide)
   have hv2:qv11 2=.pointer (some ⟨j,0,none⟩):=hv 2 (by decide)
   have hv3:qv11 3=.pointer (some ⟨j,0,none⟩):=hv 3 (by decide)
   have hv4:qv11 4=.pointer (some ⟨j,6,none⟩):=hv 4 (by decide)
   have hv5:qv11 5=.pointer (some ⟨j,0,none⟩):=hv 5 (by decide)
   have hv6:qv11 6=.pointer (some ⟨j,0,none⟩):=hv 6 (by decide)
   have hv7:qv11 7=.pointer (some ⟨j,47,none⟩):=hv 7 (by decide)
   have hv8:qv11 8=.agg (cnCells {xT with pa:=some ⟨g6,0,none⟩,pc:=c6}):=hv 8 (by decide)
   have hv9:qv11 9=.pointer (some ⟨j,0,none⟩):=hv 9 (by decide)
   have hv10:qv11 10=.pointer (some ⟨j,0,none⟩):=hv 10 (by decide)
   have hv11:qv11 11=.pointer (some ⟨j,10,none⟩):=hv 11 (by decide)
   have hv12:qv11 12=.agg (cnCells {xF with pa:=some ⟨g5,0,none⟩,pc:=c5}):=hv 12 (by decide)
   have hv17:qv11 17=.pointer (some ⟨j,0,none⟩):=hv 17 (by decide)
   have hv18:qv11 18=.pointer (some ⟨j,47,none⟩):=hv 18 (by decide)
   have hv20:qv11 20=.pointer (some ⟨j,0,none⟩):=hv 20 (by decide)
   have hv21:qv11 21=.pointer (some ⟨j,10,none⟩):=hv 21 (by decide)
   clear hv hf k
   simp only [hv0,hv1,hv2,hv3,hv4,hv5,hv6,hv7,hv8,hv9,hv10,hv11,hv12,hv17,hv18,hv20,hv21,ev,e14,e15,e16]
   clear hv0 hv1 hv2 hv3 hv4 hv5 hv6 hv7 hv8 hv9 hv10 hv11 hv12 hv17 hv18 hv20 hv21 ev e14 e15 e16
   clear EB2 A3 A4 Hg5 Hg6 G
   have A3:=ka0
   have A4:=ka1
   have G:=kG
   have qw10_z:=G.size
   have Hg7_1:=Hg7.lt
   have Hg8_1:=Hg8.lt
   have Hg7_0:=Hg7.low'
   have Hg8_0:=Hg8.low'
   clear ka0 ka1 kG
   have EB2:Blk j qw10 (jnCells ⟨1,0,r,xD,xE,xN,sr,yD,yE,yN,{yT with pa:=some ⟨g8,0,none⟩,pc:=c8},{yF with pa:=some ⟨g7,0,none⟩,pc:=c7},some ⟨ga,0,none⟩,0,0,some ⟨gb,0,none⟩,0,0⟩):=EB
   clear EB
   go_wp2_with (fail)
   refine leaves_cons (f:=69) (args:=#[.pointer (some ⟨j,0,none⟩)]) (by simp) (by simp [go_sem]) ?_
   refine (Go.MuLone.unlock_deferred mLib ⟨j,0,none⟩ .returning _ ((EB2.cell 0).trans rfl) (EB2.fz 0)).mono ?_
   rintro e1 u1 w1 ⟨rfl,rfl,rfl⟩
   have tz:=(Touch.refl j qw10).put 0 (.int .i32 0)
   have bz:=EB2.put 0 (.int .i32 0) (by rw [jn_size];omega)
   replace A3:=A3.touch tz (by omega)
   replace A4:=A4.touch tz (by omega)
   replace Hg7:=Hg7.touch tz (by omega)
   replace Hg8:=Hg8.touch tz (by omega)
   replace G:=touch_any G tz (by omega)
   have fin:∃ g7 c7 g8 c8,Blk j (qw10.setCell ⟨j,0,none⟩ (.int .i32 0)) (jnCells ⟨0,0,r,xD,xE,xN,sr,yD,yE,yN,{yT with pa:=some ⟨g8,0,none⟩,pc:=c8},{yF with pa:=some ⟨g7,0,none⟩,pc:=c7},some ⟨ga,0,none⟩,0,0,some ⟨gb,0,none⟩,0,0⟩)∧Held shP (qw10.setCell ⟨j,0,none⟩ (.int .i32 0)) w.heap.size g8 L.pn c8 ps∧Held shP (qw10.setCell ⟨j,0,none⟩ (.int .i32 0)) w.heap.size g7 R.pn c7 qs∧Held shG (qw10.setCell ⟨j,0,none⟩ (.int .i32 0)) B ga 0 0 ([]:List Sg)∧Held shG (qw10.setCell ⟨j,0,none⟩ (.int .i32 0)) B gb 0 0 ([]:List Sg)∧(g7≠j∧g8≠j∧g7≠g8)∧Touch j w (qw10.setCell ⟨j,0,none⟩ (.int .i32 0)):=⟨g7,c7,g8,c8,bz,Hg8,Hg7,A3,A4,⟨ng7,ng8,nng7⟩,G⟩
   exact ⟨_,results_none rfl _ _ _,rfl,fin⟩

end Go.Proofs.YtnbopjlpemmkcaaGreat
