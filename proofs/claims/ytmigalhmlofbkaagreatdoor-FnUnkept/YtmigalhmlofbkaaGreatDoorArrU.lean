/- A part of the proof. -/
import Derived.Test.YtmigalhmlofbkaaGreatDoorM37
import Derived.Test.YtmigalhmlofbkaaGreatDoorConnAskI
set_option linter.unusedVariables false
set_option maxRecDepth 20000
set_option maxHeartbeats 16000000
namespace Go.Proofs.YtmigalhmlofbkaaGreatDoor
open Go.ChangeShapes Go.WideShapes Go.ChangeAt Go.RowKit Go.Deep
theorem takeT_of {c:Cn} {ps:List (Int×ByteArray)} (h:connOk c ps=true) (a:Option Addr) (p:Nat):TakeT {c with pa:=a,pc:=p}:=by
 simp only [connOk,Bool.and_eq_true,decide_eq_true_eq] at h
 exact ⟨by show 0≤c.tat;omega,by show c.tat≤2000000000;omega,by show 0≤distI c.una c.mx;omega⟩
theorem wd_of {c:Cn} {ps:List (Int×ByteArray)} (h:GoodC c ps) (a:Option Addr) (p:Nat):Wd {c with pa:=a,pc:=p}:=
 ⟨h.w_iss,h.w_una,h.w_nxt,h.w_mx,h.w_wsq,h.w_wak,h.w_oF,h.gd.hq,h.w_fsq,h.w_cR,h.w_tsq,h.hod⟩
theorem heldGP0 {x:World} {B g n cap:Nat} {ps:List (Int×ByteArray)} {B' g' n' cap':Nat} {xs:List Sg} (h:Held shP x B g n cap ps) (k:Held shG x B' g' n' cap' xs):g≠g':=by
 intro e
 subst e
 obtain ⟨c1,h1,-⟩:=h.heap
 obtain ⟨c2,h2,-⟩:=k.heap
 rw [h1] at h2
 simp [shP,shG] at h2
theorem does_build0 {op:Oper} {a:Act} {w:World} {R:Value→World→Prop} (ho:op.op=.buildSlice 47 0 #[]) (h:R (.slice (some ⟨w.heap.size,0,none⟩) 0 0) (w.alloc (.cells #[] 41))):does Tryz.prog op a w R:=by
 have e:(Instr.buildSlice 47 0 #[]).run Tryz.prog w=.ok (.slice (some ⟨w.heap.size,0,none⟩) 0 0) (w.alloc (.cells #[] 41)):=by kernel_rfl
 have e2:(Array.map (fun y:Nat×Operand=>(y.fst,a.eval y.snd)) #[])=#[]:=by simp
 unfold does execOp
 simp only [ho,e2,Sem.run_bind,e,Result.andThen_ok,Sem.run_pure]
 exact h
def takenAt (c:Cn) (s:Sg) (now:Int) (ps:List (Int×ByteArray)):Bool:=connOk c ps && (decide (0≤now∧now≤1000000000) && (formOk s && (c.st != 0)))
def cameV (c:Cn) (s:Sg) (now:Int) (ps:List (Int×ByteArray)):Came:=if takenAt c s now ps then cameI c s now ps else (c,ps,[])
theorem implCame (c:Cn) (ps:List (Int×ByteArray)) (s:Sg) (now:Int) (gc:GoodC c ps) (w_sq:IsWord s.sq) (w_ak:IsWord s.ak) (hf:IsInt s.fl) (hds:s.d.size≤1048576) (w:World) (La:Laid0 w) (R:Rd shP w c.pa c.pn ps) :
  Calls Tryz.prog 9 #[.agg (cnCells c),.agg (sgCells s),.int .i64 now] w fun e w'=>∃ pg gp m cp gs n cp',e=.returned (.tuple #[.agg (cnCells (laidC (cameV {c with pa:=some ⟨pg,0,none⟩,pc:=c.pn} s now ps).1 gp m cp)),.slice (some ⟨gs,0,none⟩) n cp'])∧Held shP w' w.heap.size gp m cp (cameV {c with pa:=some ⟨pg,0,none⟩,pc:=c.pn} s now ps).2.1∧Held shG w' w.heap.size gs n cp' (cameV {c with pa:=some ⟨pg,0,none⟩,pc:=c.pn} s now ps).2.2∧gp≠gs∧Since w w':=by
 have hfr:=fun wx Rx=>implFresh c ps gc wx Rx
 unfold cnVal at hfr
 have hck:=fun wx Rx=>implConnOk c ps gc wx Rx
 unfold cnVal at hck
 have hit:=fun wx=>isTickI now wx
 have hfo:=fun wx=>formed s hds wx
 have G:=Since.refl w
 have hw0:=La.lt
 go_enter Tryz.func9,Tryz.ntmps9
 go_upto_region 0 with (fail)
 refine vR ?_
 refine vW (w.alloc (.cells (cnCells c) 39)) (pX w.heap.size 0) ?_
 have qB2:=Blk.new w (cnCells c) 39
 have qg3:=(Since.refl w).alloc (.cells (cnCells c) 39)
 replace R:=R.since qg3
 replace La:=La.since qg3
 replace G:=G.trans qg3
 generalize w.alloc (.cells (cnCells c) 39)=qw1 at R La G qB2 qg3 ⊢
 have qB2_l:=qB2.lt
 have qg3_s:=qg3.size
 refine vW (qw1.alloc (.cells (sgCells s) 41)) (pX qw1.heap.size 0) ?_
 have qB5:=Blk.new qw1 (sgCells s) 41
 have qg6:=(Since.refl qw1).alloc (.cells (sgCells s) 41)
 replace qB2:=qB2.since qg6
 replace R:=R.since qg6
 replace La:=La.since qg6
 replace G:=G.trans qg6
 generalize qw1.alloc (.cells (sgCells s) 41)=qw4 at qB2 R La G qB5 qg6 ⊢
 have qB5_l:=qB5.lt
 have qg6_s:=qg6.size
 refine vW (qw4.alloc (.cells (cnCells cnZero) 39)) (pX qw4.heap.size 0) ?_
 have qB8:=Blk.new qw4 (cnCells cnZero) 39
 have qg9:=(Since.refl qw4).alloc (.cells (cnCells cnZero) 39)
 replace qB2:=qB2.since qg9
 replace qB5:=qB5.since qg9
 replace R:=R.since qg9
 replace La:=La.since qg9
 replace G:=G.trans qg9
 generalize qw4.alloc (.cells (cnCells cnZero) 39)=qw7 at qB2 qB5 R La G qB8 qg9 ⊢
 have qB8_l:=qB8.lt
 have qg9_s:=qg9.size
 refine vV (.slice none 0 0) ?_
 refine vE #[.agg (cnCells c),.agg (sgCells s),iJ now,pX w.heap.size 0,pX qw1.heap.size 0,U,pX qw4.heap.size 0,.slice none 0 0,U,U,U,U,U,U,U,U,U,U,U,U,U,U,U,U,U,U,U,U,U,U,U,U,U,U,U,U,U,U,U,U,U,U,U,U,U] ?_
 go_upto_region 1 with (fail)
 refine vR ?_
 refine vW (qw7.alloc (.cells (mfCells ByteArray.empty false false false) 75)) (pX qw7.heap.size 0) ?_
 have qB11:=Blk.new qw7 (mfCells ByteArray.empty false false false) 75
 have qg12:=(Since.refl qw7).alloc (.cells (mfCells ByteArray.empty false false false) 75)
 replace qB2:=qB2.since qg12
 replace qB5:=qB5.since qg12
 replace qB8:=qB8.since qg12
 replace R:=R.since qg12
 replace La:=La.since qg12
 replace G:=G.trans qg12
 generalize qw7.alloc (.cells (mfCells ByteArray.empty false false false) 75)=qw10 at qB2 qB5 qB8 R La G qB11 qg12 ⊢
 have qB11_l:=qB11.lt
 have qg12_s:=qg12.size
 refine vE #[.agg (cnCells c),.agg (sgCells s),iJ now,pX w.heap.size 0,pX qw1.heap.size 0,U,pX qw4.heap.size 0,.slice none 0 0,pX qw7.heap.size 0,U,U,U,U,U,U,U,U,U,U,U,U,U,U,U,U,U,U,U,U,U,U,U,U,U,U,U,U,U,U,U,U,U,U,U,U] ?_
 go_upto_region 2 with (fail)
 refine wp_region_tail (wb:=qw10) 5 (fun i x v=>match i with
   | 0=>v=.agg (cnCells c)
   | 1=>∃ pg,v=.agg (cnCells {c with pa:=some ⟨pg,0,none⟩,pc:=c.pn})∧Held shP x qw10.heap.size pg c.pn c.pn ps
   | 2=>v=.agg (sgCells s)
   | 3=>v=.int .i64 now
   | 4=>∃ gs,v=.slice (some ⟨gs,0,none⟩) 0 0∧Held shG x qw10.heap.size gs 0 0 []
   | _=>True) (fun v=>{tmps:=#[.agg (cnCells c),.agg (sgCells s),iJ now,pX w.heap.size 0,pX qw1.heap.size 0,U,pX qw4.heap.size 0,.slice none 0 0,pX qw7.heap.size 0,U,v 0,v 1,v 2,v 3,v 4,U,U,U,U,U,U,U,U,U,U,U,U,U,U,U,U,U,U,U,U,U,U,U,U,U,U,U,U,U,U],defers:=[]}) (by kernel_rfl) (by kernel_rfl) (by kernel_rfl) (Since.refl _) ?_ (fun vals=>by kernel_rfl) ?_ ?_
 case refine_1=>
  intro j x x' v h1 h2
  match j,h2 with
  | 0,h2|2,h2|3,h2=>exact h2
  | 1,⟨pg,e,H⟩=>exact ⟨pg,e,H.since h1⟩
  | 4,⟨gs,e,H⟩=>exact ⟨gs,e,H.since h1⟩
  | n+5,_=>trivial
 case refine_2=>
  repeat (first|exact eachDoes_nil|refine eachDoes_cons ?_ ?_)
  all_goals intro vals x hx hv
  all_goals simp [Region.binds] at hv
  ·exact does_build0 rfl ⟨(Since.refl _).alloc _,_,rfl,(heldG0 x).raise hx.size⟩
  ·simp [does,doesUpon,go_sem,Since.refl]
  ·exact does_load seg_big rfl (qB5.since hx) _ rfl rfl ⟨Since.refl _,rfl⟩
  ·simp [does,doesUpon,go_sem,hv]
   refine (hfr _ (R.since hx)).mono ?_
   rintro _ x' ⟨pg,rfl,H,h1⟩
   exact ⟨_,rfl,h1,pg,rfl,H.raise (by have:=H.low';have:=hx.size;omega)⟩
  ·exact does_load cn_big (cn_size _) (qB2.since hx) _ rfl rfl ⟨Since.refl _,rfl⟩
 case refine_3=>
  intro vs y hx hv
  have hv0:vs 0=_:=hv 0 (by decide)
  obtain ⟨pg,hv1,P⟩:=hv 1 (by decide)
  have hv2:vs 2=_:=hv 2 (by decide)
  have hv3:vs 3=_:=hv 3 (by decide)
  obtain ⟨gs,hv4,L⟩:=hv 4 (by decide)
  clear hv
  simp only [hv0,hv1,hv2,hv3,hv4,List.drop]
  clear hv0 hv1 hv2 hv3 hv4
  replace qB2:=qB2.since hx
  replace qB5:=qB5.since hx
  replace qB8:=qB8.since hx
  replace qB11:=qB11.since hx
  replace R:=R.since hx
  replace La:=La.since hx
  replace G:=G.trans hx
  have hx_s:=hx.size
  have P_o:=P.low'
  have P_l:=P.lt
  have L_o:=L.low'
  have L_l:=L.lt
  have hgp:=heldGP0 P L
  refine VL.out ?_
  refine vV (.agg (arrCells {c with pa:=some ⟨pg,0,none⟩,pc:=c.pn} s now (.slice (some ⟨gs,0,none⟩) 0 0))) ?_
  refine vW (y.alloc (.cells (arrCells {c with pa:=some ⟨pg,0,none⟩,pc:=c.pn} s now (.slice (some ⟨gs,0,none⟩) 0 0)) 79)) (pX y.heap.size 0) ?_
  have qB14:=Blk.new y (arrCells {c with pa:=some ⟨pg,0,none⟩,pc:=c.pn} s now (.slice (some ⟨gs,0,none⟩) 0 0)) 79
  have qg15:=(Since.refl y).alloc (.cells (arrCells {c with pa:=some ⟨pg,0,none⟩,pc:=c.pn} s now (.slice (some ⟨gs,0,none⟩) 0 0)) 79)
  replace qB2:=qB2.since qg15
  replace qB5:=qB5.since qg15
  replace qB8:=qB8.since qg15
  replace qB11:=qB11.since qg15
  replace R:=R.since qg15
  replace La:=La.since qg15
  replace P:=P.since qg15
  replace L:=L.since qg15
  replace G:=G.trans qg15
  generalize y.alloc (.cells (arrCells {c with pa:=some ⟨pg,0,none⟩,pc:=c.pn} s now (.slice (some ⟨gs,0,none⟩) 0 0)) 79)=qw13 at qB2 qB5 qB8 qB11 R La P L G qB14 qg15 ⊢
  have qB14_l:=qB14.lt
  have qg15_s:=qg15.size
  refine vV (pX y.heap.size 0) ?_
  refine vE #[.agg (cnCells c),.agg (sgCells s),iJ now,pX w.heap.size 0,pX qw1.heap.size 0,U,pX qw4.heap.size 0,.slice none 0 0,pX qw7.heap.size 0,pX y.heap.size 0,.agg (cnCells c),.agg (cnCells {c with pa:=some ⟨pg,0,none⟩,pc:=c.pn}),.agg (sgCells s),iJ now,.slice (some ⟨gs,0,none⟩) 0 0,.agg (arrCells {c with pa:=some ⟨pg,0,none⟩,pc:=c.pn} s now (.slice (some ⟨gs,0,none⟩) 0 0)),pX y.heap.size 0,U,U,U,U,U,U,U,U,U,U,U,U,U,U,U,U,U,U,U,U,U,U,U,U,U,U,U,U] ?_
  refine wpList_nil ?_
  simp only [Exit.then]
  rename_i hK
  refine hK _ _ ?_
  clear hK
  apply wp_seq_k
  intro K5 hK5
  replace hK5:Hid _:=hK5
  have key5:∀ (v17 v18 v19 v20 v21 v22 v23 v24 v25 v26 v27 v28 v29 v30 v31 v32 v33 v34 v35 v36:Value) (z:World) (D:Cn) (PS:List (Int×ByteArray)) (XS:List Sg) (gp m cp g2 n2 c2:Nat),cameV {c with pa:=some ⟨pg,0,none⟩,pc:=c.pn} s now ps=(D,PS,XS)→Blk (y.heap.size) z (arrCells (laidC D gp m cp) s now (.slice (some ⟨g2,0,none⟩) n2 c2))→Held shG z qw10.heap.size g2 n2 c2 XS→Held shP z qw10.heap.size gp m cp PS→g2≠gp→Blk qw4.heap.size z (cnCells cnZero)→Since w z→K5 {tmps:=#[.agg (cnCells c),.agg (sgCells s),iJ now,pX w.heap.size 0,pX qw1.heap.size 0,U,pX qw4.heap.size 0,.slice none 0 0,pX qw7.heap.size 0,pX y.heap.size 0,.agg (cnCells c),.agg (cnCells {c with pa:=some ⟨pg,0,none⟩,pc:=c.pn}),.agg (sgCells s),iJ now,.slice (some ⟨gs,0,none⟩) 0 0,.agg (arrCells {c with pa:=some ⟨pg,0,none⟩,pc:=c.pn} s now (.slice (some ⟨gs,0,none⟩) 0 0)),pX y.heap.size 0,v17,v18,v19,v20,v21,v22,v23,v24,v25,v26,v27,v28,v29,v30,v31,v32,v33,v34,v35,v36,U,U,U,U,U,U,U,U],defers:=[]} z:=by
   intro v17 v18 v19 v20 v21 v22 v23 v24 v25 v26 v27 v28 v29 v30 v31 v32 v33 v34 v35 v36 z D PS XS gp m cp g2 n2 c2 hV Az Lz Pz i1 Zz Gz
   refine hK5.out _ _ ?_
   go_upto_region 5 with (fail)
   have hzl:=Zz.lt
   have hal:=Az.lt
   have hRz:Raw (qw4.heap.size) (cnCells (laidC D gp m cp)).size z:=⟨cnCells cnZero,rfl,Zz⟩
   refine wp_region_keep (wb:=z) (qw4.heap.size) (cnCells (laidC D gp m cp)) (fun i x v=>match i with
     | 0=>v=.pointer (some ⟨y.heap.size,0,none⟩)
     | 1=>v=.pointer (some ⟨y.heap.size,0,none⟩)
     | 2=>v=.pointer (some ⟨y.heap.size,0,none⟩)
     | 3=>v=.agg (cnCells (laidC D gp m cp))
     | 4=>v=.pointer (some ⟨y.heap.size,0,none⟩)
     | 5=>v=.pointer (some ⟨y.heap.size,0,none⟩)
     | 6=>v=.pointer (some ⟨y.heap.size,46,none⟩)
     | 7=>v=.slice (some ⟨g2,0,none⟩) n2 c2
     | 9=>v=.slice (some ⟨g2,0,none⟩) n2 c2
     | 8=>Blk (qw4.heap.size) x (cnCells (laidC D gp m cp))
     | _=>True) (fun v=>{tmps:=#[.agg (cnCells c),.agg (sgCells s),iJ now,pX w.heap.size 0,pX qw1.heap.size 0,U,pX qw4.heap.size 0,v 9,pX qw7.heap.size 0,pX y.heap.size 0,.agg (cnCells c),.agg (cnCells {c with pa:=some ⟨pg,0,none⟩,pc:=c.pn}),.agg (sgCells s),iJ now,.slice (some ⟨gs,0,none⟩) 0 0,.agg (arrCells {c with pa:=some ⟨pg,0,none⟩,pc:=c.pn} s now (.slice (some ⟨gs,0,none⟩) 0 0)),pX y.heap.size 0,v17,v18,v19,v20,v21,v22,v23,v24,v25,v26,v27,v28,v29,v30,v31,v32,v33,v34,v35,v36,v 0,v 1,v 2,v 3,v 4,v 5,v 6,v 7],defers:=[]}) (by kernel_rfl) (by kernel_rfl) (by kernel_rfl) (KeepB.refl _ _ _) ?_ (fun vals=>by kernel_rfl) ?_ ?_
   case refine_1=>
    intro j x y v h1 h2
    match j,h2 with
    | 8,h2=>exact h1.done h2
    | 0,h2|1,h2|2,h2|3,h2|4,h2|5,h2|6,h2|7,h2|9,h2=>exact h2
    | n+10,_=>trivial
   case refine_2=>
    repeat (first|exact eachDoesR_nil|refine eachDoesR_cons ?_ ?_)
    all_goals intro vals x hx hv
    all_goals simp [Region.binds] at hv
    ·simp [does,doesUpon,go_sem,hv,KeepB.refl]
    ·refine does_store cn_big (cn_size _) (hx.raw hRz) (cn_one _) _ _ rfl rfl hv.1 ?_
     intro z t B
     exact ⟨keep_of t B,B⟩
    ·have fl0:x.cell? ⟨y.heap.size,46,none⟩=some (.slice (some ⟨g2,0,none⟩) n2 c2):=(Az.touch hx.touch (by omega)).cell 46
     simp [does,doesUpon,go_sem,hv,fl0,KeepB.refl]
    ·simp [does,doesUpon,go_sem,hv,KeepB.refl]
    ·simp [does,doesUpon,go_sem,hv,KeepB.refl]
    ·simp [does,doesUpon,go_sem,KeepB.refl]
    ·exact does_aend (Az.touch hx.touch (by omega)) _ rfl hv ⟨KeepB.refl _ _ _,rfl⟩
    ·simp [does,doesUpon,go_sem,hv,KeepB.refl]
    ·simp [does,doesUpon,go_sem,hv,KeepB.refl]
    ·simp [does,doesUpon,go_sem,KeepB.refl]
   case refine_3=>
    have Lz_o:=Lz.low'
    have Pz_o:=Pz.low'
    intro vals y2 hx hv
    have Zb:Blk (qw4.heap.size) y2 (cnCells (laidC D gp m cp)):=hv 8 (by decide)
    have hv0:vals 0=_:=hv 0 (by decide)
    have hv1:vals 1=_:=hv 1 (by decide)
    have hv2:vals 2=_:=hv 2 (by decide)
    have hv3:vals 3=_:=hv 3 (by decide)
    have hv4:vals 4=_:=hv 4 (by decide)
    have hv5:vals 5=_:=hv 5 (by decide)
    have hv6:vals 6=_:=hv 6 (by decide)
    have hv7:vals 7=_:=hv 7 (by decide)
    have hv9:vals 9=_:=hv 9 (by decide)
    clear hv
    simp only [hv0,hv1,hv2,hv3,hv4,hv5,hv6,hv7,hv9]
    have hT:=hx.touch
    replace Lz:=Lz.touch hT (by omega)
    replace Pz:=Pz.touch hT (by omega)
    replace Gz:=since_touch Gz hT (by omega)
    clear hv0 hv1 hv2 hv3 hv4 hv5 hv6 hv7 hv9
    go_wp2_with (fail)
    refine bodyPost_ret (results_cn2 (t:=6) (u:=7) rfl _ rfl Zb) rfl ⟨pg,gp,m,cp,g2,n2,c2,?_,?_,?_,i1.symm,Gz⟩
    ·rw [hV]
     rfl
    ·rw [hV]
     exact Pz.raise (by omega)
    ·rw [hV]
     exact Lz.raise (by omega)
  replace key5:Hid _:=key5
  obtain ⟨b1,hb1⟩:∃ q,Hid (q=connOk c ps):=⟨_,rfl⟩
  obtain ⟨b2,hb2⟩:∃ q,Hid (q=decide (0≤now∧now≤1000000000)):=⟨_,rfl⟩
  obtain ⟨b3,hb3⟩:∃ q,Hid (q=formOk s):=⟨_,rfl⟩
  obtain ⟨b4,hb4⟩:∃ q,Hid (q=(c.st != 0)):=⟨_,rfl⟩
  have hX:Hid (cameV {c with pa:=some ⟨pg,0,none⟩,pc:=c.pn} s now ps=if b1 && (b2 && (b3 && b4)) then cameI {c with pa:=some ⟨pg,0,none⟩,pc:=c.pn} s now ps else ({c with pa:=some ⟨pg,0,none⟩,pc:=c.pn},ps,[])):=by
   show _=_
   rw [hb1.out,hb2.out,hb3.out,hb4.out]
   rfl
  rw [← hb1.out] at hck
  rw [← hb2.out] at hit
  rw [← hb3.out] at hfo
  go_upto_region 3 with (fail)
  cases b1
  case false=>
   refine vR ?_
   refine vB cn_big qB2 (cn_size _) ?_
   refine vK (hck _ R) ?_
   intro qw16 qg17
   replace qB2:=qB2.since qg17
   replace qB5:=qB5.since qg17
   replace qB8:=qB8.since qg17
   replace qB11:=qB11.since qg17
   replace qB14:=qB14.since qg17
   replace R:=R.since qg17
   replace La:=La.since qg17
   replace P:=P.since qg17
   replace L:=L.since qg17
   replace G:=G.trans qg17
   have qg17_s:=qg17.size
   clear R
   refine vV (bF) ?_
   refine vS ?_
   refine vS ?_
   refine vV (bF) ?_
   refine vV (bF) ?_
   refine vS ?_
   refine vS ?_
   refine vS ?_
   refine vS ?_
   refine vS ?_
   refine vV (bF) ?_
   refine vV (bF) ?_
   refine vS ?_
   refine vS ?_
   refine vS ?_
   refine vV (bF) ?_
   refine vE #[.agg (cnCells c),.agg (sgCells s),iJ now,pX w.heap.size 0,pX qw1.heap.size 0,U,pX qw4.heap.size 0,.slice none 0 0,pX qw7.heap.size 0,pX y.heap.size 0,.agg (cnCells c),.agg (cnCells {c with pa:=some ⟨pg,0,none⟩,pc:=c.pn}),.agg (sgCells s),iJ now,.slice (some ⟨gs,0,none⟩) 0 0,.agg (arrCells {c with pa:=some ⟨pg,0,none⟩,pc:=c.pn} s now (.slice (some ⟨gs,0,none⟩) 0 0)),pX y.heap.size 0,.agg (cnCells c),bF,bF,U,U,bF,bF,U,U,U,U,U,bF,bF,U,U,U,bF,U,U,U,U,U,U,U,U,U,U] ?_
   go_wp2_with (fail)
   exact key5.out _ _ _ _ _ _ _ _ _ _ _ _ _ _ _ _ _ _ _ _ _ {c with pa:=some ⟨pg,0,none⟩,pc:=c.pn} ps [] pg c.pn c.pn gs 0 0 hX.out qB14 L P (Ne.symm hgp) qB8 G
  case true=>
   cases b2
   case false=>
    refine vR ?_
    refine vB cn_big qB2 (cn_size _) ?_
    refine vK (hck _ R) ?_
    intro qw16 qg17
    replace qB2:=qB2.since qg17
    replace qB5:=qB5.since qg17
    replace qB8:=qB8.since qg17
    replace qB11:=qB11.since qg17
    replace qB14:=qB14.since qg17
    replace R:=R.since qg17
    replace La:=La.since qg17
    replace P:=P.since qg17
    replace L:=L.since qg17
    replace G:=G.trans qg17
    have qg17_s:=qg17.size
    clear R
    refine vV (bT) ?_
    refine vV (iJ now) ?_
    refine vC (hit _) ?_
    rintro _ _ ⟨rfl,rfl⟩
    refine ⟨_,rfl,?_⟩
    refine vV (bF) ?_
    refine vV (bF) ?_
    refine vS ?_
    refine vS ?_
    refine vS ?_
    refine vS ?_
    refine vS ?_
    refine vV (bF) ?_
    refine vV (bF) ?_
    refine vS ?_
    refine vS ?_
    refine vS ?_
    refine vV (bF) ?_
    refine vE #[.agg (cnCells c),.agg (sgCells s),iJ now,pX w.heap.size 0,pX qw1.heap.size 0,U,pX qw4.heap.size 0,.slice none 0 0,pX qw7.heap.size 0,pX y.heap.size 0,.agg (cnCells c),.agg (cnCells {c with pa:=some ⟨pg,0,none⟩,pc:=c.pn}),.agg (sgCells s),iJ now,.slice (some ⟨gs,0,none⟩) 0 0,.agg (arrCells {c with pa:=some ⟨pg,0,none⟩,pc:=c.pn} s now (.slice (some ⟨gs,0,none⟩) 0 0)),pX y.heap.size 0,.agg (cnCells c),bT,bT,iJ now,bF,bF,bF,U,U,U,U,U,bF,bF,U,U,U,bF,U,U,U,U,U,U,U,U,U,U] ?_
    go_wp2_with (fail)
    exact key5.out _ _ _ _ _ _ _ _ _ _ _ _ _ _ _ _ _ _ _ _ _ {c with pa:=some ⟨pg,0,none⟩,pc:=c.pn} ps [] pg c.pn c.pn gs 0 0 hX.out qB14 L P (Ne.symm hgp) qB8 G
   case true=>
    cases b3
    case false=>
     refine vR ?_
     refine vB cn_big qB2 (cn_size _) ?_
     refine vK (hck _ R) ?_
     intro qw16 qg17
     replace qB2:=qB2.since qg17
     replace qB5:=qB5.since qg17
     replace qB8:=qB8.since qg17
     replace qB11:=qB11.since qg17
     replace qB14:=qB14.since qg17
     replace R:=R.since qg17
     replace La:=La.since qg17
     replace P:=P.since qg17
     replace L:=L.since qg17
     replace G:=G.trans qg17
     have qg17_s:=qg17.size
     clear R
     refine vV (bT) ?_
     refine vV (iJ now) ?_
     refine vC (hit _) ?_
     rintro _ _ ⟨rfl,rfl⟩
     refine ⟨_,rfl,?_⟩
     refine vV (bT) ?_
     refine vV (bT) ?_
     refine vB seg_big qB5 rfl ?_
     refine vC (hfo _) ?_
     rintro _ qw18 ⟨⟨vm,rfl,hm⟩,qg19⟩
     refine ⟨_,rfl,?_⟩
     replace qB2:=qB2.since qg19
     replace qB5:=qB5.since qg19
     replace qB8:=qB8.since qg19
     replace qB11:=qB11.since qg19
     replace qB14:=qB14.since qg19
     replace La:=La.since qg19
     replace P:=P.since qg19
     replace L:=L.since qg19
     replace G:=G.trans qg19
     have qg19_s:=qg19.size
     refine vV (.iface 81 (pX qw7.heap.size 0)) ?_
     refine vC (as_mis false false false false vm hm _ (mfCells ByteArray.empty false false false) rfl _ La.at0 qB11) ?_
     rintro _ qw20 ⟨rfl,qt21,nc,hnc,qB22,hq⟩
     refine ⟨_,rfl,?_⟩
     clear qB11
     replace qB2:=qB2.touch qt21 (by omega)
     replace qB5:=qB5.touch qt21 (by omega)
     replace qB8:=qB8.touch qt21 (by omega)
     replace qB14:=qB14.touch qt21 (by omega)
     replace La:=La.touch qt21 (by omega)
     replace P:=P.touch qt21 (by omega)
     replace L:=L.touch qt21 (by omega)
     replace G:=since_touch G qt21 (by omega)
     have qt21_s:=qt21.size
     refine vV (bF) ?_
     refine vV (bF) ?_
     refine vV (bF) ?_
     refine vS ?_
     refine vS ?_
     refine vS ?_
     refine vV (bF) ?_
     refine vE #[.agg (cnCells c),.agg (sgCells s),iJ now,pX w.heap.size 0,pX qw1.heap.size 0,U,pX qw4.heap.size 0,.slice none 0 0,pX qw7.heap.size 0,pX y.heap.size 0,.agg (cnCells c),.agg (cnCells {c with pa:=some ⟨pg,0,none⟩,pc:=c.pn}),.agg (sgCells s),iJ now,.slice (some ⟨gs,0,none⟩) 0 0,.agg (arrCells {c with pa:=some ⟨pg,0,none⟩,pc:=c.pn} s now (.slice (some ⟨gs,0,none⟩) 0 0)),pX y.heap.size 0,.agg (cnCells c),bT,bT,iJ now,bT,bT,bT,.agg (sgCells s),vm,.iface 81 (pX qw7.heap.size 0),bT,bF,bF,bF,U,U,U,bF,U,U,U,U,U,U,U,U,U,U] ?_
     go_wp2_with (fail)
     exact key5.out _ _ _ _ _ _ _ _ _ _ _ _ _ _ _ _ _ _ _ _ _ {c with pa:=some ⟨pg,0,none⟩,pc:=c.pn} ps [] pg c.pn c.pn gs 0 0 hX.out qB14 L P (Ne.symm hgp) qB8 G
    case true=>
     cases b4
     case false=>
      refine vR ?_
      refine vB cn_big qB2 (cn_size _) ?_
      refine vK (hck _ R) ?_
      intro qw16 qg17
      replace qB2:=qB2.since qg17
      replace qB5:=qB5.since qg17
      replace qB8:=qB8.since qg17
      replace qB11:=qB11.since qg17
      replace qB14:=qB14.since qg17
      replace R:=R.since qg17
      replace La:=La.since qg17
      replace P:=P.since qg17
      replace L:=L.since qg17
      replace G:=G.trans qg17
      have qg17_s:=qg17.size
      clear R
      refine vV (bT) ?_
      refine vV (iJ now) ?_
      refine vC (hit _) ?_
      rintro _ _ ⟨rfl,rfl⟩
      refine ⟨_,rfl,?_⟩
      refine vV (bT) ?_
      refine vV (bT) ?_
      refine vB seg_big qB5 rfl ?_
      refine vC (hfo _) ?_
      rintro _ qw18 ⟨⟨vm,rfl,hm⟩,qg19⟩
      refine ⟨_,rfl,?_⟩
      replace qB2:=qB2.since qg19
      replace qB5:=qB5.since qg19
      replace qB8:=qB8.since qg19
      replace qB11:=qB11.since qg19
      replace qB14:=qB14.since qg19
      replace La:=La.since qg19
      replace P:=P.since qg19
      replace L:=L.since qg19
      replace G:=G.trans qg19
      have qg19_s:=qg19.size
      refine vV (.iface 81 (pX qw7.heap.size 0)) ?_
      refine vC (as_mis true false false false vm hm _ (mfCells ByteArray.empty false false false) rfl _ La.at0 qB11) ?_
      rintro _ qw20 ⟨rfl,qt21,nc,hnc,qB22,hq⟩
      refine ⟨_,rfl,?_⟩
      clear qB11
      replace qB2:=qB2.touch qt21 (by omega)
      replace qB5:=qB5.touch qt21 (by omega)
      replace qB8:=qB8.touch qt21 (by omega)
      replace qB14:=qB14.touch qt21 (by omega)
      replace La:=La.touch qt21 (by omega)
      replace P:=P.touch qt21 (by omega)
      replace L:=L.touch qt21 (by omega)
      replace G:=since_touch G qt21 (by omega)
      have qt21_s:=qt21.size
      refine vV (bT) ?_
      refine vV (bT) ?_
      refine vV (bT) ?_
      refine vV (pX w.heap.size 0) ?_
      refine vD (iJ c.st) (qB2.cell 0) ?_
      refine vV (.bool false) ?_ (hrun:=by rw [show false=(c.st != 0) from hb4.out];kernel_rfl)
      refine vV (bF) ?_
      refine vE #[.agg (cnCells c),.agg (sgCells s),iJ now,pX w.heap.size 0,pX qw1.heap.size 0,U,pX qw4.heap.size 0,.slice none 0 0,pX qw7.heap.size 0,pX y.heap.size 0,.agg (cnCells c),.agg (cnCells {c with pa:=some ⟨pg,0,none⟩,pc:=c.pn}),.agg (sgCells s),iJ now,.slice (some ⟨gs,0,none⟩) 0 0,.agg (arrCells {c with pa:=some ⟨pg,0,none⟩,pc:=c.pn} s now (.slice (some ⟨gs,0,none⟩) 0 0)),pX y.heap.size 0,.agg (cnCells c),bT,bT,iJ now,bT,bT,bT,.agg (sgCells s),vm,.iface 81 (pX qw7.heap.size 0),bF,bT,bT,bT,pX w.heap.size 0,iJ c.st,bF,bF,U,U,U,U,U,U,U,U,U,U] ?_
      go_wp2_with (fail)
      exact key5.out _ _ _ _ _ _ _ _ _ _ _ _ _ _ _ _ _ _ _ _ _ {c with pa:=some ⟨pg,0,none⟩,pc:=c.pn} ps [] pg c.pn c.pn gs 0 0 hX.out qB14 L P (Ne.symm hgp) qB8 G
     case true=>
      refine vR ?_
      refine vB cn_big qB2 (cn_size _) ?_
      refine vK (hck _ R) ?_
      intro qw16 qg17
      replace qB2:=qB2.since qg17
      replace qB5:=qB5.since qg17
      replace qB8:=qB8.since qg17
      replace qB11:=qB11.since qg17
      replace qB14:=qB14.since qg17
      replace R:=R.since qg17
      replace La:=La.since qg17
      replace P:=P.since qg17
      replace L:=L.since qg17
      replace G:=G.trans qg17
      have qg17_s:=qg17.size
      clear R
      refine vV (bT) ?_
      refine vV (iJ now) ?_
      refine vC (hit _) ?_
      rintro _ _ ⟨rfl,rfl⟩
      refine ⟨_,rfl,?_⟩
      refine vV (bT) ?_
      refine vV (bT) ?_
      refine vB seg_big qB5 rfl ?_
      refine vC (hfo _) ?_
      rintro _ qw18 ⟨⟨vm,rfl,hm⟩,qg19⟩
      refine ⟨_,rfl,?_⟩
      replace qB2:=qB2.since qg19
      replace qB5:=qB5.since qg19
      replace qB8:=qB8.since qg19
      replace qB11:=qB11.since qg19
      replace qB14:=qB14.since qg19
      replace La:=La.since qg19
      replace P:=P.since qg19
      replace L:=L.since qg19
      replace G:=G.trans qg19
      have qg19_s:=qg19.size
      refine vV (.iface 81 (pX qw7.heap.size 0)) ?_
      refine vC (as_mis true false false false vm hm _ (mfCells ByteArray.empty false false false) rfl _ La.at0 qB11) ?_
      rintro _ qw20 ⟨rfl,qt21,nc,hnc,qB22,hq⟩
      refine ⟨_,rfl,?_⟩
      clear qB11
      replace qB2:=qB2.touch qt21 (by omega)
      replace qB5:=qB5.touch qt21 (by omega)
      replace qB8:=qB8.touch qt21 (by omega)
      replace qB14:=qB14.touch qt21 (by omega)
      replace La:=La.touch qt21 (by omega)
      replace P:=P.touch qt21 (by omega)
      replace L:=L.touch qt21 (by omega)
      replace G:=since_touch G qt21 (by omega)
      have qt21_s:=qt21.size
      refine vV (bT) ?_
      refine vV (bT) ?_
      refine vV (bT) ?_
      refine vV (pX w.heap.size 0) ?_
      refine vD (iJ c.st) (qB2.cell 0) ?_
      refine vV (.bool true) ?_ (hrun:=by rw [show true=(c.st != 0) from hb4.out];kernel_rfl)
      refine vV (bT) ?_
      refine vE #[.agg (cnCells c),.agg (sgCells s),iJ now,pX w.heap.size 0,pX qw1.heap.size 0,U,pX qw4.heap.size 0,.slice none 0 0,pX qw7.heap.size 0,pX y.heap.size 0,.agg (cnCells c),.agg (cnCells {c with pa:=some ⟨pg,0,none⟩,pc:=c.pn}),.agg (sgCells s),iJ now,.slice (some ⟨gs,0,none⟩) 0 0,.agg (arrCells {c with pa:=some ⟨pg,0,none⟩,pc:=c.pn} s now (.slice (some ⟨gs,0,none⟩) 0 0)),pX y.heap.size 0,.agg (cnCells c),bT,bT,iJ now,bT,bT,bT,.agg (sgCells s),vm,.iface 81 (pX qw7.heap.size 0),bF,bT,bT,bT,pX w.heap.size 0,iJ c.st,bT,bT,U,U,U,U,U,U,U,U,U,U] ?_
      go_upto_region 4 with (fail)
      have hok:connOk c ps=true:=hb1.out.symm
      have htk:0≤now∧now≤1000000000:=of_decide_eq_true hb2.out.symm
      refine vR ?_
      refine vV (pX y.heap.size 0) ?_
      refine vC (implTake qw10.heap.size _ pg gs {c with pa:=some ⟨pg,0,none⟩,pc:=c.pn} s now ps htk.1 htk.2 hf hds w_sq w_ak (by omega) (by omega) (by omega) (by omega) (Ne.symm hgp) (wd_of gc _ _) gc.gd (takeT_of hok _ _) rfl _ qB14 L P La) ?_
      rintro _ wz ⟨rfl,bz,g2,n2,c2,gp,m,cp,Az,Lz,Pz,i1,i2,i3⟩
      refine ⟨_,rfl,?_⟩
      refine vE #[.agg (cnCells c),.agg (sgCells s),iJ now,pX w.heap.size 0,pX qw1.heap.size 0,U,pX qw4.heap.size 0,.slice none 0 0,pX qw7.heap.size 0,pX y.heap.size 0,.agg (cnCells c),.agg (cnCells {c with pa:=some ⟨pg,0,none⟩,pc:=c.pn}),.agg (sgCells s),iJ now,.slice (some ⟨gs,0,none⟩) 0 0,.agg (arrCells {c with pa:=some ⟨pg,0,none⟩,pc:=c.pn} s now (.slice (some ⟨gs,0,none⟩) 0 0)),pX y.heap.size 0,.agg (cnCells c),bT,bT,iJ now,bT,bT,bT,.agg (sgCells s),vm,.iface 81 (pX qw7.heap.size 0),bF,bT,bT,bT,pX w.heap.size 0,iJ c.st,bT,bT,pX y.heap.size 0,.tuple #[],U,U,U,U,U,U,U,U] ?_
      go_wp2_with (fail)
      exact key5.out _ _ _ _ _ _ _ _ _ _ _ _ _ _ _ _ _ _ _ _ _ _ _ _ gp m cp g2 n2 c2 hX.out Az Lz Pz i3 (bz.blk qB8 (by omega)) (since_base G bz (by omega))
end Go.Proofs.YtmigalhmlofbkaaGreatDoor
