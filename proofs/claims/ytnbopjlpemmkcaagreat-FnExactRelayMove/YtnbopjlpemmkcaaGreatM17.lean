/-
  Contract of spec's InOk.
  What ConnOk answers, and spec's ConnOk, at every end.
-/
import Derived.Test.YtnbopjlpemmkcaaGreatInPure
import Derived.BigQuiet
import Derived.Test.YtnbopjlpemmkcaaGreatM16
import Derived.Test.YtnbopjlpemmkcaaGreatM6
import Derived.Test.YtnbopjlpemmkcaaGreatOut
import Derived.Deep.DeepCutAuto
namespace Go.Proofs.YtnbopjlpemmkcaaGreat
open Go.ChangeShapes Go.WideShapes Go.ChangeAt Go.RowKit Go.Deep
set_option linter.unusedVariables false
set_option maxRecDepth 10000
set_option maxRecDepth 10000

set_option maxHeartbeats 2000000 in
theorem specInOk (q:Int) (d:ByteArray) (r:Int) (a:Option Addr) (n cap:Nat) (ps:List (Int×ByteArray)) (g:Good q d r n ps) (w:World) (R:Rd shP w a n ps) :
  Calls Tryz.prog 48 #[inVal q d (.slice a n cap) r] w fun e w'=>e=.returned (.bool (inOk q d r ps))∧Since w w':=by
 have G:Since w (w.alloc (.cells #[.int .u32 q,.string d,.slice a n cap,.int .i64 r] 46)):=(Since.refl _).alloc _
 have A:=Blk.new w #[.int .u32 q,.string d,.slice a n cap,.int .i64 r] 46
 have a0:=A.cell 0
 have a1:=A.cell 1
 have a2:=A.cell 2
 have a3:=A.cell 3
 simp at a0 a1 a2 a3
 have hlen:=R.len
 obtain ⟨hq,hd,⟨hr1,hr2⟩,hn,hp⟩:=g
 have i1:=fun wx=>specIn r 1 4096 wx
 unfold inVal inOk
 by_cases c1:1≤r∧r≤4096
 ·rw [show decide (1≤r∧r≤4096)=true by simp;omega] at i1 ⊢
  rw [Bool.true_and]
  by_cases c2:(d.size:Int)≤r
  ·rw [show decide ((d.size:Int)≤r)=true by simp;omega,Bool.true_and]
   obtain ⟨c1,c1'⟩:=c1
   by_cases c3:(4096:Int)<(n:Int)
   ·rw [okB_great (by omega) (by omega) (by rw [spans_len,hlen];omega)]
    clear R hp
    go_enter Tryz.func48,Tryz.ntmps48
    go_wp2_with (go_at_call 46;refine (i1 _).mono ?_;rintro _ _ ⟨rfl,rfl⟩)
    go_ret
    exact ⟨rfl,G⟩
   ·have Rw:=R.since G
    obtain ⟨W,hW⟩:∃ W,r - (d.size:Int)=W:=⟨_,rfl⟩
    obtain ⟨z,hz⟩:∃ z,Hid (okB 0 (r - d.size) (spans q ps)=z):=⟨_,rfl⟩
    rw [hz.out]
    go_enter Tryz.func48,Tryz.ntmps48
    go_wp2_with (go_at_call 46;refine (i1 _).mono ?_;rintro _ _ ⟨rfl,rfl⟩)
    go_loopw [3,4] (fun e i wr=>∃ (k:Nat) (ev:Int),k≤n∧i=.int .i64 k∧e=.int .i64 ev∧0≤ev∧ev≤4096∧Hid (okB ev (r - d.size) ((spans q ps).drop k)=z)∧Since (w.alloc (.cells #[.int .u32 q,.string d,.slice a n cap,.int .i64 r] 46)) wr) (fun _ i _=>n - (intOf i).toNat)
    case atStart=>exact ⟨0,0,by omega,rfl,rfl,by omega,by omega,by simpa using hz,Since.refl _⟩
    case round=>
     obtain ⟨k,ev,hk,rfl,rfl,he0,he1,hz',S⟩:=hrel
     have A2:=A.since S
     have b0:=A2.cell 0
     have b1:=A2.cell 1
     have b2:=A2.cell 2
     have b3:=A2.cell 3
     simp at b0 b1 b2 b3
     clear a0 a1 a2 a3 i1
     by_cases hlt:k<n
     ·obtain ⟨x,rfl,hb,p0,p1⟩:=(Rw.since S).prt k hlt
      obtain ⟨hp1,hp2⟩:=hp k hlt
      have hz2:=hz'.out
      rw [okB_step (by omega)] at hz2
      unfold spn at hz2
      have hdist:=fun wx=>specDist q (pAt ps k).1 (distI q (pAt ps k).1) hq hp1 (distI_is _ _) wx
      obtain ⟨hd1,hd2,_⟩:=distI_is q (pAt ps k).1
      generalize hO:pAt ps k=O at p0 p1 hp1 hp2 hz2 hdist hd1 hd2
      generalize distI q O.1=t at hz2 hdist hd1 hd2
      have hlt':(k:Int)<(n:Int):=by omega
      have hadd:IntKind.i64.wrap (t+(O.2.size:Int))=t+(O.2.size:Int):=by rw [IntWalk.i64_left];exact IntWalk.wrap64_in _ ⟨by omega,by omega⟩
      have hsub:IntKind.i64.wrap (r - (d.size:Int))=r - (d.size:Int):=by rw [IntWalk.i64_left];exact IntWalk.wrap64_in _ ⟨by omega,by omega⟩
      clear hp R Rw hz'
      replace hz2:Hid _:=hz2
      have xb:(x.add (k*2)).block=x.block:=add_block _ _
      have k0:∀ z:Later wr,z.val.cell? ⟨w.heap.size,0,none⟩=some (.int .u32 q):=fun z=>(Below.cell z.ok (p:=⟨w.heap.size,0,none⟩) A2.lt).trans b0
      have k1:∀ z:Later wr,z.val.cell? ⟨w.heap.size,1,none⟩=some (.string d):=fun z=>(Below.cell z.ok (p:=⟨w.heap.size,1,none⟩) A2.lt).trans b1
      have k2:∀ z:Later wr,z.val.cell? ⟨w.heap.size,2,none⟩=some (.slice (some x) n cap):=fun z=>(Below.cell z.ok (p:=⟨w.heap.size,2,none⟩) A2.lt).trans b2
      have k3:∀ z:Later wr,z.val.cell? ⟨w.heap.size,3,none⟩=some (.int .i64 r):=fun z=>(Below.cell z.ok (p:=⟨w.heap.size,3,none⟩) A2.lt).trans b3
      have m0:∀ z:Later wr,z.val.cell? (x.add (k*2))=some (.int .u32 O.1):=fun z=>(Below.cell z.ok (p:=x.add (k*2)) (by rw [xb];exact hb)).trans p0
      have m1:∀ z:Later wr,z.val.cell? ⟨(x.add (k*2)).block,(x.add (k*2)).off+1,none⟩=some (.string O.2):=fun z=>(Below.cell z.ok (p:=⟨(x.add (k*2)).block,(x.add (k*2)).off+1,none⟩) (by show (x.add (k*2)).block<_;rw [xb];exact hb)).trans p1
      have hcall:∀ z:Later wr,Calls Tryz.prog 51 #[.int .u32 q,.int .u32 O.1] z.val fun e w''=>e=.returned (.int .i64 t)∧∃ y:Later wr,w''=y.val:=fun z=>(hdist z.val).mono (by rintro _ _ ⟨h1,rfl⟩;exact ⟨h1,z,rfl⟩)
      clear hdist xb hb
      by_cases hc:ev<t∧t<t+(O.2.size:Int)∧t+(O.2.size:Int)≤r - (d.size:Int)
      ·obtain ⟨hc1,hc2,hc3⟩:=hc
       have hd3:((O.2.size:Int) == 0)=false:=by rw [beq_eq_false_iff_ne];omega
       have hd4:decide ((4096:Int)<(O.2.size:Int))=false:=decide_eq_false (by omega)
       have hd5:decide (t≤ev)=false:=decide_eq_false (by omega)
       have hd6:decide (r - (d.size:Int)<t+(O.2.size:Int))=false:=decide_eq_false (by omega)
       go_wp2
       have hne:Nonempty (Later wr):=⟨⟨wr,Since.refl _⟩⟩
       refine wp_region_calm (wb:=wr) (by kernel_rfl) (by kernel_rfl) (Since.refl _) ?_
       repeat (go_big_quiet_step (exact hcall _))
       refine wpQuiet_nil ?_
       rintro _ ⟨y,rfl⟩
       have d0:=k0 y
       have d1:=k1 y
       have d2:=k2 y
       have d3:=k3 y
       have e1:=m1 y
       clear k0 k1 k2 k3 m0 m1 hcall b0 b1 b2 b3 p0 p1
       go_wp2
       go_quiet (fail)
       go_wp2
       have hz3:=hz2.out
       rw [show decide (ev<t∧t<t+(O.2.size:Int)∧t+(O.2.size:Int)≤r - (d.size:Int))=true from decide_eq_true ⟨hc1,hc2,hc3⟩,Bool.true_and] at hz3
       clear hz2
       replace hz3:Hid _:=hz3
       go_roundw
       case rel=>exact ⟨k+1,t+O.2.size,by omega,by go_num,rfl,by omega,by omega,hz3,since_drews (S.trans y.ok) _⟩
       case measure=>simp [intOf];omega
      ·by_cases s3:(O.2.size:Int)=0
       ·have hz3:z=false:=by rw [← hz2.out,decide_eq_false hc,Bool.false_and]
        subst hz3
        clear hz2 hc
        have hd3:((O.2.size:Int) == 0)=true:=by rw [beq_iff_eq];omega
        go_wp2
        have hne:Nonempty (Later wr):=⟨⟨wr,Since.refl _⟩⟩
        refine wp_region_calm (wb:=wr) (by kernel_rfl) (by kernel_rfl) (Since.refl _) ?_
        repeat (go_big_quiet_step (exact hcall _))
        refine wpQuiet_nil ?_
        rintro _ ⟨y,rfl⟩
        have d0:=k0 y
        have d1:=k1 y
        have d2:=k2 y
        have d3:=k3 y
        have e1:=m1 y
        clear k0 k1 k2 k3 m0 m1 hcall b0 b1 b2 b3 p0 p1
        go_wp2
        go_quiet (fail)
        go_wp2
        go_ret
        exact ⟨rfl,G.trans (since_drews (S.trans y.ok) _)⟩
       by_cases s4:(4096:Int)<(O.2.size:Int)
       ·have hz3:z=false:=by rw [← hz2.out,decide_eq_false hc,Bool.false_and]
        subst hz3
        clear hz2 hc
        have hd3:((O.2.size:Int) == 0)=false:=by rw [beq_eq_false_iff_ne];omega
        have hd4:decide ((4096:Int)<(O.2.size:Int))=true:=decide_eq_true (by omega)
        go_wp2
        have hne:Nonempty (Later wr):=⟨⟨wr,Since.refl _⟩⟩
        refine wp_region_calm (wb:=wr) (by kernel_rfl) (by kernel_rfl) (Since.refl _) ?_
        repeat (go_big_quiet_step (exact hcall _))
        refine wpQuiet_nil ?_
        rintro _ ⟨y,rfl⟩
        have d0:=k0 y
        have d1:=k1 y
        have d2:=k2 y
        have d3:=k3 y
        have e1:=m1 y
        clear k0 k1 k2 k3 m0 m1 hcall b0 b1 b2 b3 p0 p1
        go_wp2
        go_quiet (fail)
        go_wp2
        go_ret
        exact ⟨rfl,G.trans (since_drews (S.trans y.ok) _)⟩
       by_cases s5:t≤ev
       ·have hz3:z=false:=by rw [← hz2.out,decide_eq_false hc,Bool.false_and]
        subst hz3
        clear hz2 hc
        have hd3:((O.2.size:Int) == 0)=false:=by rw [beq_eq_false_iff_ne];omega
        have hd4:decide ((4096:Int)<(O.2.size:Int))=false:=decide_eq_false (by omega)
        have hd5:decide (t≤ev)=true:=decide_eq_true (by omega)
        go_wp2
        have hne:Nonempty (Later wr):=⟨⟨wr,Since.refl _⟩⟩
        refine wp_region_calm (wb:=wr) (by kernel_rfl) (by kernel_rfl) (Since.refl _) ?_
        repeat (go_big_quiet_step (exact hcall _))
        refine wpQuiet_nil ?_
        rintro _ ⟨y,rfl⟩
        have d0:=k0 y
        have d1:=k1 y
        have d2:=k2 y
        have d3:=k3 y
        have e1:=m1 y
        clear k0 k1 k2 k3 m0 m1 hcall b0 b1 b2 b3 p0 p1
        go_wp2
        go_quiet (fail)
        go_wp2
        go_ret
        exact ⟨rfl,G.trans (since_drews (S.trans y.ok) _)⟩
       have s6:r - (d.size:Int)<t+(O.2.size:Int):=by omega
       have hz3:z=false:=by rw [← hz2.out,decide_eq_false hc,Bool.false_and]
       subst hz3
       clear hz2 hc
       have hd3:((O.2.size:Int) == 0)=false:=by rw [beq_eq_false_iff_ne];omega
       have hd4:decide ((4096:Int)<(O.2.size:Int))=false:=decide_eq_false (by omega)
       have hd5:decide (t≤ev)=false:=decide_eq_false (by omega)
       have hd6:decide (r - (d.size:Int)<t+(O.2.size:Int))=true:=decide_eq_true (by omega)
       go_wp2
       have hne:Nonempty (Later wr):=⟨⟨wr,Since.refl _⟩⟩
       refine wp_region_calm (wb:=wr) (by kernel_rfl) (by kernel_rfl) (Since.refl _) ?_
       repeat (go_big_quiet_step (exact hcall _))
       refine wpQuiet_nil ?_
       rintro _ ⟨y,rfl⟩
       have d0:=k0 y
       have d1:=k1 y
       have d2:=k2 y
       have d3:=k3 y
       have e1:=m1 y
       clear k0 k1 k2 k3 m0 m1 hcall b0 b1 b2 b3 p0 p1
       go_wp2
       go_quiet (fail)
       go_wp2
       go_ret
       exact ⟨rfl,G.trans (since_drews (S.trans y.ok) _)⟩
     ·have hkn:k=n:=by omega
      subst hkn
      have hz2:=hz'.out
      rw [okB_end (by omega)] at hz2
      subst hz2
      clear hp R Rw hz' hz
      go_wp2
      go_ret
      exact ⟨rfl,G.trans S⟩
  ·rw [show decide ((d.size:Int)≤r)=false from decide_eq_false c2,Bool.false_and]
   obtain ⟨c1,c1'⟩:=c1
   clear R hp
   go_enter Tryz.func48,Tryz.ntmps48
   go_wp2_with (go_at_call 46;refine (i1 _).mono ?_;rintro _ _ ⟨rfl,rfl⟩)
   go_ret
   exact ⟨rfl,G⟩
 ·rw [show decide (1≤r∧r≤4096)=false from decide_eq_false c1] at i1 ⊢
  rw [Bool.false_and]
  clear R hp c1
  go_enter Tryz.func48,Tryz.ntmps48
  go_wp2_with (go_at_call 46;refine (i1 _).mono ?_;rintro _ _ ⟨rfl,rfl⟩)
  go_ret
  exact ⟨rfl,G⟩
end Go.Proofs.YtnbopjlpemmkcaaGreat

namespace Go.Proofs.YtnbopjlpemmkcaaGreat
open Go.ChangeShapes Go.WideShapes Go.ChangeAt Go.RowKit
set_option linter.unusedVariables false
set_option maxRecDepth 10000

def connOk (c:Cn) (ps:List (Int×ByteArray)):Bool:=
 decide (0≤c.st∧c.st≤9) && (
 outOk c.oD c.oR && (
 inOk c.iN c.iD c.iR ps && (
 rttOk c.rA c.rS c.rV c.rD && (
 congOk c.cX c.cT c.cD && (
 decide (0≤c.wnd∧c.wnd≤65535) && (
 decide (0≤c.trs∧c.trs≤10) && (
 decide (0≤c.why∧c.why≤4) && (
 decide (0≤distI c.una c.nxt∧distI c.una c.nxt≤4098) && (
 decide (0≤distI c.una c.mx∧distI c.una c.mx≤4098) && (
 decide (0≤distI c.nxt c.mx) && (
 decide (0≤c.agn∧c.agn≤2000000000) && (
 decide (0≤c.prb∧c.prb≤2000000000) && (
 decide (0≤c.rst∧c.rst≤2000000000) && (
 decide (0≤c.tat∧c.tat≤2000000000) && (
 (decide (c.oF=c.una) || (decide (c.st=1∨c.st=2∨c.st=0) && decide (c.oF=(c.una+1) % 4294967296) || c.fsn && decide (c.oF=(c.una - 1) % 4294967296))))))))))))))))))

structure GoodC (c:Cn) (ps:List (Int×ByteArray)):Prop where
 w_iss:IsWord c.iss
 w_una:IsWord c.una
 w_nxt:IsWord c.nxt
 w_mx:IsWord c.mx
 w_wsq:IsWord c.wsq
 w_wak:IsWord c.wak
 w_oF:IsWord c.oF
 w_fsq:IsWord c.fsq
 w_cR:IsWord c.cR
 w_tsq:IsWord c.tsq
 hod:c.oD.size≤1048576
 gd:Good c.iN c.iD c.iR c.pn ps

set_option maxRecDepth 20000 in
set_option maxHeartbeats 8000000 in
theorem specConnOk (c:Cn) (ps:List (Int×ByteArray)) (gc:GoodC c ps) (w:World) (R:Rd shP w c.pa c.pn ps) :
  Calls Tryz.prog 22 #[cnVal c] w fun e w'=>e=.returned (.bool (connOk c ps))∧Since w w':=by
 have hod:=gc.hod
 have gd:=gc.gd
 have n1:=gc.w_una
 have n2:=gc.w_nxt
 have n3:=gc.w_mx
 have B:=Blk.new w (cnCells c) 50
 have G:=(Since.refl w).alloc (.cells (cnCells c) 50)
 replace R:=R.since G
 obtain ⟨x0,hx0⟩:∃ x,x=connOk c ps:=⟨_,rfl⟩
 rw [← hx0]
 unfold connOk at hx0
 unfold cnVal
 clear gc
 go_enter Tryz.func22,Tryz.ntmps22
 go_upto_region 1 with (fail)
 generalize w.alloc (.cells (cnCells c) 50)=w1 at B G R ⊢
 have f_st:w1.cell? ⟨w.heap.size,0,none⟩=some (.int .i64 c.st):=B.cell 0
 go_wp2_with (fail)
 refine (specIn c.st 0 9 _).mono ?_
 generalize decide (0≤c.st∧c.st≤9)=k0 at hx0 ⊢
 rintro _ _ ⟨rfl,rfl⟩
 clear f_st
 cases k0
 ·go_wp2_with (fail)
  go_ret
  exact ⟨ret_bool (by rw [hx0];rfl),G⟩
 simp only [Bool.true_and] at hx0
 have f_oF:w1.cell? ⟨w.heap.size,8,none⟩=some (.int .u32 c.oF):=B.cell 8
 have f_oD:w1.cell? ⟨w.heap.size,9,none⟩=some (.string c.oD):=B.cell 9
 have f_oR:w1.cell? ⟨w.heap.size,10,none⟩=some (.int .i64 c.oR):=B.cell 10
 go_wp2_with (fail)
 refine (specOutOk c.oF c.oD c.oR _).mono ?_
 generalize outOk c.oD c.oR=k1 at hx0 ⊢
 rintro _ w2 ⟨rfl,g2⟩
 replace G:=G.trans g2
 replace B:=B.since g2
 replace R:=R.since g2
 clear f_oF f_oD f_oR
 cases k1
 ·go_wp2_with (fail)
  go_ret
  exact ⟨ret_bool (by rw [hx0];rfl),G⟩
 simp only [Bool.true_and] at hx0
 have f_iN:w2.cell? ⟨w.heap.size,11,none⟩=some (.int .u32 c.iN):=B.cell 11
 have f_iD:w2.cell? ⟨w.heap.size,12,none⟩=some (.string c.iD):=B.cell 12
 have f_iP:w2.cell? ⟨w.heap.size,13,none⟩=some (.slice c.pa c.pn c.pc):=B.cell 13
 have f_iR:w2.cell? ⟨w.heap.size,14,none⟩=some (.int .i64 c.iR):=B.cell 14
 go_wp2_with (fail)
 refine (specInOk c.iN c.iD c.iR c.pa c.pn c.pc ps gd _ R).mono ?_
 generalize inOk c.iN c.iD c.iR ps=k2 at hx0 ⊢
 rintro _ w3 ⟨rfl,g3⟩
 replace G:=G.trans g3
 replace B:=B.since g3
 replace R:=R.since g3
 clear f_iN f_iD f_iP f_iR
 cases k2
 ·go_wp2_with (fail)
  go_ret
  exact ⟨ret_bool (by rw [hx0];rfl),G⟩
 simp only [Bool.true_and] at hx0
 have f_rA:w3.cell? ⟨w.heap.size,19,none⟩=some (.bool c.rA):=B.cell 19
 have f_rS:w3.cell? ⟨w.heap.size,20,none⟩=some (.int .i64 c.rS):=B.cell 20
 have f_rV:w3.cell? ⟨w.heap.size,21,none⟩=some (.int .i64 c.rV):=B.cell 21
 have f_rD:w3.cell? ⟨w.heap.size,22,none⟩=some (.int .i64 c.rD):=B.cell 22
 go_wp2_with (fail)
 refine (specRttOk c.rA c.rS c.rV c.rD _).mono ?_
 generalize rttOk c.rA c.rS c.rV c.rD=k3 at hx0 ⊢
 rintro _ w4 ⟨rfl,hw⟩
 have g4:Since w3 w4:=by
  rw [hw]
  exact (Since.refl _).alloc _
 clear hw
 replace G:=G.trans g4
 replace B:=B.since g4
 replace R:=R.since g4
 clear f_rA f_rS f_rV f_rD
 cases k3
 ·go_wp2_with (fail)
  go_ret
  exact ⟨ret_bool (by rw [hx0];rfl),G⟩
 simp only [Bool.true_and] at hx0
 have f_cX:w4.cell? ⟨w.heap.size,23,none⟩=some (.int .i64 c.cX):=B.cell 23
 have f_cT:w4.cell? ⟨w.heap.size,24,none⟩=some (.int .i64 c.cT):=B.cell 24
 have f_cD:w4.cell? ⟨w.heap.size,25,none⟩=some (.int .i64 c.cD):=B.cell 25
 have f_cF:w4.cell? ⟨w.heap.size,26,none⟩=some (.bool c.cF):=B.cell 26
 have f_cR:w4.cell? ⟨w.heap.size,27,none⟩=some (.int .u32 c.cR):=B.cell 27
 go_wp2_with (fail)
 refine (specCongOk c.cX c.cT c.cD c.cF c.cR _).mono ?_
 generalize congOk c.cX c.cT c.cD=k4 at hx0 ⊢
 rintro _ w5 ⟨rfl,hw⟩
 have g5:Since w4 w5:=by
  rw [hw]
  exact (Since.refl _).alloc _
 clear hw
 replace G:=G.trans g5
 replace B:=B.since g5
 replace R:=R.since g5
 clear f_cX f_cT f_cD f_cF f_cR
 cases k4
 ·go_wp2_with (fail)
  go_ret
  exact ⟨ret_bool (by rw [hx0];rfl),G⟩
 simp only [Bool.true_and] at hx0
 have f_wnd:w5.cell? ⟨w.heap.size,5,none⟩=some (.int .i64 c.wnd):=B.cell 5
 go_wp2_with (fail)
 refine (specIn c.wnd 0 65535 _).mono ?_
 generalize decide (0≤c.wnd∧c.wnd≤65535)=k5 at hx0 ⊢
 rintro _ _ ⟨rfl,rfl⟩
 clear f_wnd
 cases k5
 ·go_wp2_with (fail)
  go_ret
  exact ⟨ret_bool (by rw [hx0];rfl),G⟩
 simp only [Bool.true_and] at hx0
 have f_trs:w5.cell? ⟨w.heap.size,34,none⟩=some (.int .i64 c.trs):=B.cell 34
 go_wp2_with (fail)
 refine (specIn c.trs 0 10 _).mono ?_
 generalize decide (0≤c.trs∧c.trs≤10)=k6 at hx0 ⊢
 rintro _ _ ⟨rfl,rfl⟩
 clear f_trs
 cases k6
 ·go_wp2_with (fail)
  go_ret
  exact ⟨ret_bool (by rw [hx0];rfl),G⟩
 simp only [Bool.true_and] at hx0
 have f_why:w5.cell? ⟨w.heap.size,35,none⟩=some (.int .i64 c.why):=B.cell 35
 go_wp2_with (fail)
 refine (specIn c.why 0 4 _).mono ?_
 generalize decide (0≤c.why∧c.why≤4)=k7 at hx0 ⊢
 rintro _ _ ⟨rfl,rfl⟩
 clear f_why
 cases k7
 ·go_wp2_with (fail)
  go_ret
  exact ⟨ret_bool (by rw [hx0];rfl),G⟩
 simp only [Bool.true_and] at hx0
 clear R gd
 have f_una:w5.cell? ⟨w.heap.size,2,none⟩=some (.int .u32 c.una):=B.cell 2
 have f_nxt:w5.cell? ⟨w.heap.size,3,none⟩=some (.int .u32 c.nxt):=B.cell 3
 go_wp2_with (fail)
 refine (specDist c.una c.nxt _ n1 n2 (distI_is _ _) _).mono ?_
 rintro _ _ ⟨rfl,rfl⟩
 go_wp2_with (fail)
 refine (specIn (distI c.una c.nxt) 0 4098 _).mono ?_
 generalize decide (0≤distI c.una c.nxt∧distI c.una c.nxt≤4098)=k8 at hx0 ⊢
 rintro _ _ ⟨rfl,rfl⟩
 cases k8
 ·go_wp2_with (fail)
  go_ret
  exact ⟨ret_bool (by rw [hx0];rfl),G⟩
 simp only [Bool.true_and] at hx0
 have f_mx:w5.cell? ⟨w.heap.size,4,none⟩=some (.int .u32 c.mx):=B.cell 4
 go_wp2_with (fail)
 refine (specDist c.una c.mx _ n1 n3 (distI_is _ _) _).mono ?_
 rintro _ _ ⟨rfl,rfl⟩
 go_wp2_with (fail)
 refine (specIn (distI c.una c.mx) 0 4098 _).mono ?_
 generalize decide (0≤distI c.una c.mx∧distI c.una c.mx≤4098)=k9 at hx0 ⊢
 rintro _ _ ⟨rfl,rfl⟩
 cases k9
 ·go_wp2_with (fail)
  go_ret
  exact ⟨ret_bool (by rw [hx0];rfl),G⟩
 simp only [Bool.true_and] at hx0
 go_wp2_with (fail)
 refine (specLessEq c.nxt c.mx _ n2 n3 (distI_is _ _) _).mono ?_
 generalize decide (0≤distI c.nxt c.mx)=ka at hx0 ⊢
 rintro _ _ ⟨rfl,rfl⟩
 cases ka
 ·go_wp2_with (fail)
  go_ret
  exact ⟨ret_bool (by rw [hx0];rfl),G⟩
 simp only [Bool.true_and] at hx0
 clear f_nxt f_mx n2 n3
 have f_agn:w5.cell? ⟨w.heap.size,31,none⟩=some (.int .i64 c.agn):=B.cell 31
 go_wp2_with (fail)
 refine (specIn c.agn 0 2000000000 _).mono ?_
 generalize decide (0≤c.agn∧c.agn≤2000000000)=kb at hx0 ⊢
 rintro _ _ ⟨rfl,rfl⟩
 clear f_agn
 cases kb
 ·go_wp2_with (fail)
  go_ret
  exact ⟨ret_bool (by rw [hx0];rfl),G⟩
 simp only [Bool.true_and] at hx0
 have f_prb:w5.cell? ⟨w.heap.size,32,none⟩=some (.int .i64 c.prb):=B.cell 32
 go_wp2_with (fail)
 refine (specIn c.prb 0 2000000000 _).mono ?_
 generalize decide (0≤c.prb∧c.prb≤2000000000)=kc at hx0 ⊢
 rintro _ _ ⟨rfl,rfl⟩
 clear f_prb
 cases kc
 ·go_wp2_with (fail)
  go_ret
  exact ⟨ret_bool (by rw [hx0];rfl),G⟩
 simp only [Bool.true_and] at hx0
 have f_rst:w5.cell? ⟨w.heap.size,33,none⟩=some (.int .i64 c.rst):=B.cell 33
 go_wp2_with (fail)
 refine (specIn c.rst 0 2000000000 _).mono ?_
 generalize decide (0≤c.rst∧c.rst≤2000000000)=kd at hx0 ⊢
 rintro _ _ ⟨rfl,rfl⟩
 clear f_rst
 cases kd
 ·go_wp2_with (fail)
  go_ret
  exact ⟨ret_bool (by rw [hx0];rfl),G⟩
 simp only [Bool.true_and] at hx0
 have f_tat:w5.cell? ⟨w.heap.size,30,none⟩=some (.int .i64 c.tat):=B.cell 30
 go_wp2_with (fail)
 refine (specIn c.tat 0 2000000000 _).mono ?_
 generalize decide (0≤c.tat∧c.tat≤2000000000)=ke at hx0 ⊢
 rintro _ _ ⟨rfl,rfl⟩
 clear f_tat
 cases ke
 ·go_wp2_with (fail)
  go_ret
  exact ⟨ret_bool (by rw [hx0];rfl),G⟩
 simp only [Bool.true_and] at hx0
 have f_st:w5.cell? ⟨w.heap.size,0,none⟩=some (.int .i64 c.st):=B.cell 0
 have f_oF:w5.cell? ⟨w.heap.size,8,none⟩=some (.int .u32 c.oF):=B.cell 8
 have f_fsn:w5.cell? ⟨w.heap.size,16,none⟩=some (.bool c.fsn):=B.cell 16
 go_wp2_with (fail)
 all_goals go_ret
 all_goals refine ⟨ret_bool ?_,G⟩
 all_goals rw [hx0,Bool.eq_iff_iff]
 all_goals simp [*]
 all_goals omega
end Go.Proofs.YtnbopjlpemmkcaaGreat
