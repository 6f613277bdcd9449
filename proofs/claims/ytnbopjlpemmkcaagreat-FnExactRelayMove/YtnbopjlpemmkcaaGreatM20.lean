/-
  What InRead answers; contracts of spec's l07Copy and InRead.
  Contract of spec's InRead.
-/
import Derived.Test.YtnbopjlpemmkcaaGreatInHeldS
import Derived.Test.YtnbopjlpemmkcaaGreatM7
import Derived.Test.YtnbopjlpemmkcaaGreatM8
namespace Go.Proofs.YtnbopjlpemmkcaaGreat
open Go.ChangeShapes Go.WideShapes Go.ChangeAt Go.RowKit Go.Deep
set_option linter.unusedVariables false
set_option maxRecDepth 10000
set_option maxRecDepth 10000

theorem app_empty {α:Type} {S:Shape α} {sl bytes:Nat} (L:Laid S sl bytes) {ops:Array Oper} {rest:List Oper} {o:Oper} {a:Act} {Q:Exit→Act→World→Prop} {w:World} {B g:Nat} (hgd:o.guard=none) (s x:Operand)
  (ho:o.op=.call {callee:=.builtin .append,args:=#[s,x],argTypes:=#[sl,sl]}) (hs:a.eval s=.slice (some ⟨g,0,none⟩) 0 0) (T:Held S w B g 0 0 []) {ao:Option Addr} {m c:Nat} {ys:List α} (hx:a.eval x=.slice ao m c) (R:Rd S w ao m ys) (hnil:ao=none→c=0) (hby:m*bytes≤140737488355328) (hB:B≤w.heap.size)
  (k:∀ g' cap' w',Held S w' B g' m cap' ys→Since w w'→wpList Tryz.prog ops Q rest (a.put o.dst (.slice (some ⟨g',0,none⟩) m cap')) w'):wpList Tryz.prog ops Q (o :: rest) a w:=by
 refine wpList_plain hgd fun K hK'=>?_
 obtain ⟨g',cap',w',hrun,T',S'⟩:=run_append_empty L o.type w T R hnil hby hB
 unfold Oper.wp
 simp [execOp,ho,resolve,invoke,builtin,hs,hx,hrun,Result.andThen]
 exact hK' _ _ (k g' cap' w' T' S')

theorem laidP:Laid shP 44 24:=by
 obtain ⟨ii,hi,hz0,hz1,hz2⟩:=info_parts info_P
 exact ⟨Tryz.underlying44,ii,_,hi,hz0,hz1,hz2,rfl⟩

set_option maxHeartbeats 1000000 in
theorem copyIn (q:Int) (d:ByteArray) (r:Int) (a:Option Addr) (n cap:Nat) (ps:List (Int×ByteArray)) (hn:n≤1048576) (hnil:a=none→cap=0) (w:World) (R:Rd shP w a n ps) :
  Calls Tryz.prog 45 #[inVal q d (.slice a n cap) r] w fun e w'=>∃ g c,e=.returned (inVal q d (.slice (some ⟨g,0,none⟩) n c) r)∧Held shP w' w.heap.size g n c ps∧Since w w':=by
 unfold inVal
 have G:Since w ((w.alloc (.cells #[.int .u32 q,.string d,.slice a n cap,.int .i64 r] 46)).alloc (.cells #[.int .u32 0,.string ⟨#[]⟩,.slice none 0 0,.int .i64 0] 46)):=((Since.refl _).alloc _).alloc _
 have A:=(Blk.new w #[.int .u32 q,.string d,.slice a n cap,.int .i64 r] 46).since ((Since.refl _).alloc (.cells #[.int .u32 0,.string ⟨#[]⟩,.slice none 0 0,.int .i64 0] 46))
 have B:=Blk.new (w.alloc (.cells #[.int .u32 q,.string d,.slice a n cap,.int .i64 r] 46)) #[.int .u32 0,.string ⟨#[]⟩,.slice none 0 0,.int .i64 0] 46
 simp only [World.size_alloc] at A B
 have T0:=Held.empty (S:=shP) ((w.alloc (.cells #[.int .u32 q,.string d,.slice a n cap,.int .i64 r] 46)).alloc (.cells #[.int .u32 0,.string ⟨#[]⟩,.slice none 0 0,.int .i64 0] 46))
 have G1:=G.alloc (.cells #[] 131)
 have A1:=A.since ((Since.refl _).alloc (.cells #[] 131))
 have R1:=R.since G1
 have c2:=A1.cell 2
 simp at c2
 simp only [World.size_alloc] at T0
 go_enter Tryz.func45,Tryz.ntmps45
 go_wp2_with (at_builtin;refine app_empty laidP rfl _ _ rfl rfl T0 rfl R1 hnil (by omega) (by simp) ?_;intro g c w2 T2 g2;have A2:=A1.since g2;have B2:=(B.since ((Since.refl _).alloc (.cells #[] 131))).since g2;have a0:=A2.cell 0;have a1:=A2.cell 1;have a2:=A2.cell 2;have a3:=A2.cell 3;simp at a0 a1 a2 a3;have b0:=B2.cell 0;have b1:=B2.cell 1;have b2:=B2.cell 2;have b3:=B2.cell 3;simp at b0 b1 b2 b3;have z0:=B2.fz 0;have z1:=B2.fz 1;have z2:=B2.fz 2;have z3:=B2.fz 3;have y2:=A2.fz 2)
 have B3:=B2.other (show w.heap.size+1≠w.heap.size by omega) 2 (.slice (some ⟨g,0,none⟩) n c)
 have B4:=(((B3.put 0 (.int .u32 q) (by simp)).put 1 (.string d) (by simp)).put 2 (.slice (some ⟨g,0,none⟩) n c) (by simp)).put 3 (.int .i64 r) (by simp)
 have k0:=B4.cell 0
 have k1:=B4.cell 1
 have k2:=B4.cell 2
 have k3:=B4.cell 3
 simp at k0 k1 k2 k3
 have hgl:=T2.low'
 refine bodyPost_ret (v:=.agg #[.int .u32 q,.string d,.slice (some ⟨g,0,none⟩) n c,.int .i64 r]) ?_ rfl ⟨g,c,rfl,?_,?_⟩
 ·simp [results,go_sem,k0,k1,k2,k3]
 ·exact (((((T2.other (by omega) _ _).other (by omega) _ _).other (by omega) _ _).other (by omega) _ _).other (by omega) _ _).raise (by omega)
 ·exact since_put1 (since_put1 (since_put1 (since_put1 (since_put1 (G1.trans g2) (by omega) _ _) (by omega) _ _) (by omega) _ _) (by omega) _ _) (by omega) _ _

def readN (q:Int) (d:ByteArray) (r:Int) (ps:List (Int×ByteArray)) (n:Int):Nat:=if inOk q d r ps=true∧0≤n∧n≤4096 then min n.toNat d.size else 0

def readD (q:Int) (d:ByteArray) (r:Int) (ps:List (Int×ByteArray)) (n:Int):ByteArray:=if inOk q d r ps=true∧0≤n∧n≤4096 then d.extract (readN q d r ps n) d.size else d

def readT (q:Int) (d:ByteArray) (r:Int) (ps:List (Int×ByteArray)) (n:Int):ByteArray:=if inOk q d r ps=true∧0≤n∧n≤4096 then d.extract 0 (readN q d r ps n) else ⟨#[]⟩
end Go.Proofs.YtnbopjlpemmkcaaGreat

namespace Go.Proofs.YtnbopjlpemmkcaaGreat
open Go.ChangeShapes Go.WideShapes Go.ChangeAt Go.RowKit Go.Deep
set_option linter.unusedVariables false
set_option maxRecDepth 10000
set_option maxRecDepth 10000

set_option maxHeartbeats 1000000 in
theorem specInRead (q:Int) (d:ByteArray) (r:Int) (a:Option Addr) (n cap:Nat) (ps:List (Int×ByteArray)) (nn:Int) (gd:Good q d r n ps) (hnil:a=none→cap=0) (hnn:IsInt nn) (w:World) (R:Rd shP w a n ps) :
  Calls Tryz.prog 80 #[inVal q d (.slice a n cap) r,.int .i64 nn] w fun e w'=>∃ g c,e=.returned (.tuple #[inVal q (readD q d r ps nn) (.slice (some ⟨g,0,none⟩) n c) r,.string (readT q d r ps nn)])∧Held shP w' w.heap.size g n c ps∧Since w w':=by
 have hn:=gd.hn
 have hd:=gd.hd
 obtain ⟨hnn1,hnn2⟩:=hnn
 have hok:=fun wx Rx=>specInOk q d r a n cap ps gd wx Rx
 have hcp:=fun wx Rx=>copyIn q d r a n cap ps hn hnil wx Rx
 have hi1:=fun wx=>specIn nn 0 4096 wx
 have G:Since w ((w.alloc (.cells #[.int .u32 q,.string d,.slice a n cap,.int .i64 r] 46)).alloc (.cells #[.int .u32 0,.string ⟨#[]⟩,.slice none 0 0,.int .i64 0] 46)):=((Since.refl _).alloc _).alloc _
 have A:=(Blk.new w #[.int .u32 q,.string d,.slice a n cap,.int .i64 r] 46).since ((Since.refl _).alloc (.cells #[.int .u32 0,.string ⟨#[]⟩,.slice none 0 0,.int .i64 0] 46))
 have B:=Blk.new (w.alloc (.cells #[.int .u32 q,.string d,.slice a n cap,.int .i64 r] 46)) #[.int .u32 0,.string ⟨#[]⟩,.slice none 0 0,.int .i64 0] 46
 simp only [World.size_alloc] at A B
 unfold readD readT readN inVal
 cases hk:inOk q d r ps
 ·rw [if_neg (by simp)]
  rw [if_neg (by simp)]
  rw [hk] at hok
  go_enter Tryz.func80,Tryz.ntmps80
  go_wp2_with (fail)
  refine (hcp _ (R.since G)).mono ?_
  rintro _ w2 ⟨g,c,rfl,T,g2⟩
  unfold inVal at *
  have hgt:=T.lt
  have X:=Blk.new w2 #[.int .u32 q,.string d,.slice (some ⟨g,0,none⟩) n c,.int .i64 r] 46
  have k3:=(Since.refl w2).alloc (.cells #[.int .u32 q,.string d,.slice (some ⟨g,0,none⟩) n c,.int .i64 r] 46)
  replace A:=(A.since g2).since k3
  replace B:=(B.since g2).since k3
  replace G:=(G.trans g2).trans k3
  replace T:=T.since k3
  have hsz:=g2.le
  simp at hsz
  have hgl:=T.low'
  simp at hgl
  have a0:=A.cell 0
  have a1:=A.cell 1
  have a2:=A.cell 2
  have a3:=A.cell 3
  simp at a0 a1 a2 a3
  clear hcp k3
  have hok1:=hok _ (R.since G)
  clear hok
  go_wp2_with (first|(go_at_call 48;refine hok1.mono ?_;rintro _ w4 ⟨rfl,g4⟩;replace A:=A.since g4;replace B:=B.since g4;replace X:=X.since g4;replace G:=G.trans g4;replace T:=T.since g4;clear a0 a1 a2 a3;have a0:=A.cell 0;have a1:=A.cell 1;have a2:=A.cell 2;have a3:=A.cell 3;simp at a0 a1 a2 a3;have b0:=B.cell 0;have b1:=B.cell 1;have b2:=B.cell 2;have b3:=B.cell 3;simp at b0 b1 b2 b3;have x0:=X.cell 0;have x1:=X.cell 1;have x2:=X.cell 2;have x3:=X.cell 3;simp at x0 x1 x2 x3;have z0:=B.fz 0;have z1:=B.fz 1;have z2:=B.fz 2;have z3:=B.fz 3;have u1:=X.fz 1)|(go_at_call 46;refine (hi1 _).mono ?_;rintro _ _ ⟨rfl,rfl⟩))
  have B4:=(((B.put 0 (.int .u32 q) (by simp)).put 1 (.string d) (by simp)).put 2 (.slice (some ⟨g,0,none⟩) n c) (by simp)).put 3 (.int .i64 r) (by simp)
  have k0:=B4.cell 0
  have k1:=B4.cell 1
  have k2:=B4.cell 2
  have k3:=B4.cell 3
  simp at k0 k1 k2 k3
  refine bodyPost_ret (v:=.tuple #[.agg #[.int .u32 q,.string d,.slice (some ⟨g,0,none⟩) n c,.int .i64 r],.string ⟨#[]⟩]) ?_ rfl ⟨g,c,rfl,?_,?_⟩
  ·simp [results,go_sem,k0,k1,k2,k3]
  ·exact ((((T.other (by omega) _ _).other (by omega) _ _).other (by omega) _ _).other (by omega) _ _).raise (by omega)
  ·exact since_put1 (since_put1 (since_put1 (since_put1 G (by omega) _ _) (by omega) _ _) (by omega) _ _) (by omega) _ _
 ·rw [hk] at hok
  by_cases c1:0≤nn∧nn≤4096
  ·rw [if_pos ⟨rfl,c1⟩,if_pos ⟨rfl,c1⟩,if_pos ⟨rfl,c1⟩]
   rw [show decide (0≤nn∧nn≤4096)=true from decide_eq_true c1] at hi1
   obtain ⟨m,rfl⟩:=Int.eq_ofNat_of_zero_le c1.1
   obtain ⟨_,c2⟩:=c1
   obtain ⟨t,ht⟩:∃ t,min ((m:Nat):Int).toNat d.size=t:=⟨_,rfl⟩
   rw [ht]
   have ht1:t≤m:=by omega
   have ht2:t≤d.size:=by omega
   by_cases hlt:(d.size:Int)<(m:Int)
   ·have htd:t=d.size:=by omega
    rw [htd,show d.extract d.size d.size=ByteArray.empty by simp,show d.extract 0 d.size=d by simp]
    clear ht hnn1 hnn2 htd ht1 ht2
    go_enter Tryz.func80,Tryz.ntmps80
    go_wp2_with (fail)
    refine (hcp _ (R.since G)).mono ?_
    rintro _ w2 ⟨g,c,rfl,T,g2⟩
    unfold inVal at *
    have hgt:=T.lt
    have X:=Blk.new w2 #[.int .u32 q,.string d,.slice (some ⟨g,0,none⟩) n c,.int .i64 r] 46
    have k3:=(Since.refl w2).alloc (.cells #[.int .u32 q,.string d,.slice (some ⟨g,0,none⟩) n c,.int .i64 r] 46)
    replace A:=(A.since g2).since k3
    replace B:=(B.since g2).since k3
    replace G:=(G.trans g2).trans k3
    replace T:=T.since k3
    have hsz:=g2.le
    simp at hsz
    have hgl:=T.low'
    simp at hgl
    have a0:=A.cell 0
    have a1:=A.cell 1
    have a2:=A.cell 2
    have a3:=A.cell 3
    simp at a0 a1 a2 a3
    clear hcp k3
    have hok1:=hok _ (R.since G)
    clear hok
    go_wp2_with (first|(go_at_call 48;refine hok1.mono ?_;rintro _ w4 ⟨rfl,g4⟩;replace A:=A.since g4;replace B:=B.since g4;replace X:=X.since g4;replace G:=G.trans g4;replace T:=T.since g4;clear a0 a1 a2 a3;have a0:=A.cell 0;have a1:=A.cell 1;have a2:=A.cell 2;have a3:=A.cell 3;simp at a0 a1 a2 a3;have b0:=B.cell 0;have b1:=B.cell 1;have b2:=B.cell 2;have b3:=B.cell 3;simp at b0 b1 b2 b3;have x0:=X.cell 0;have x1:=X.cell 1;have x2:=X.cell 2;have x3:=X.cell 3;simp at x0 x1 x2 x3;have z0:=B.fz 0;have z1:=B.fz 1;have z2:=B.fz 2;have z3:=B.fz 3;have u1:=X.fz 1)|(go_at_call 46;refine (hi1 _).mono ?_;rintro _ _ ⟨rfl,rfl⟩))
    have X1:=X.put 1 (.string ByteArray.empty) (by simp)
    have hxl:=X.lt
    have A1:=A.other (show w.heap.size≠w2.heap.size by omega) 1 (.string ByteArray.empty)
    have B1:=B.other (show w.heap.size+1≠w2.heap.size by omega) 1 (.string ByteArray.empty)
    have G1:=since_put1 G (show w.heap.size≤w2.heap.size by omega) 1 (.string ByteArray.empty)
    have T1:=T.other (show g≠w2.heap.size by omega) 1 (.string ByteArray.empty)
    obtain ⟨w6,hw6⟩:∃ w6,w4.setCell ⟨w2.heap.size,1,none⟩ (.string ByteArray.empty)=w6:=⟨_,rfl⟩
    rw [hw6] at X1 A1 B1 G1 T1 ⊢
    have hAl:=A1.lt
    have hgl6:=T1.low'
    clear hw6 a0 a1 a2 a3 b0 b1 b2 b3 x0 x1 x2 x3 z0 z1 z2 z3 u1
    refine wp_region_keep (wb:=w6) (w.heap.size+1) #[.int .u32 q,.string ByteArray.empty,.slice (some ⟨g,0,none⟩) n c,.int .i64 r] (fun i x v=>match i with
      | 0=>v=.agg #[.int .u32 q,.string ByteArray.empty,.slice (some ⟨g,0,none⟩) n c,.int .i64 r]
      | 1=>v=.pointer (some ⟨w.heap.size,1,none⟩)
      | 2=>v=.string d
      | 3=>v=.int .i64 d.size
      | 4=>v=.string d
      | 5=>Blk (w.heap.size+1) x #[.int .u32 q,.string ByteArray.empty,.slice (some ⟨g,0,none⟩) n c,.int .i64 r]
      | 6=>v=.string d
      | _=>True) (fun v=>{tmps:=#[Value.agg #[Value.int IntKind.u32 q,Value.string d,Value.slice a n cap,Value.int IntKind.i64 r],Value.int IntKind.i64 (d.size:Int),Value.pointer (some ⟨w.heap.size,0,none⟩),undef,Value.pointer (some ⟨w.heap.size+1,0,none⟩),v 6,Value.pointer (some ⟨w2.heap.size,0,none⟩),Value.agg #[Value.int IntKind.u32 q,Value.string d,Value.slice a n cap,Value.int IntKind.i64 r],Value.agg #[Value.int IntKind.u32 q,Value.string d,Value.slice (some ⟨g,0,none⟩) n c,Value.int IntKind.i64 r],Value.agg #[Value.int IntKind.u32 q,Value.string d,Value.slice a n cap,Value.int IntKind.i64 r],Value.bool true,Value.bool false,Value.bool false,Value.int IntKind.i64 (m:Int),Value.bool true,Value.bool false,Value.bool false,undef,Value.int IntKind.i64 (m:Int),Value.pointer (some ⟨w.heap.size,1,none⟩),Value.string d,Value.int IntKind.i64 (d.size:Int),Value.bool true,Value.pointer (some ⟨w.heap.size,1,none⟩),Value.string d,Value.int IntKind.i64 (d.size:Int),Value.pointer (some ⟨w.heap.size,1,none⟩),Value.string d,Value.int IntKind.i64 (d.size:Int),Value.string ByteArray.empty,Value.pointer (some ⟨w2.heap.size,1,none⟩),v 0,v 1,v 2,v 3,v 4],defers:=[]}) (by kernel_rfl) (by kernel_rfl) (by kernel_rfl) (KeepB.refl _ _ _) ?_ (fun vals=>by kernel_rfl) ?_ ?_
    case refine_1=>
     intro j x x' v h1 h2
     match j,h2 with
     | 5,h2=>
      exact h1.done h2
     | 0,h2|1,h2|2,h2|3,h2|4,h2|6,h2=>exact h2
     | n+7,_=>trivial
    case refine_2=>
     repeat (first|exact eachDoesR_nil|refine eachDoesR_cons ?_ ?_)
     all_goals intro vals x hx hv
     all_goals simp [Region.binds] at hv
     ·simp [does,doesUpon,go_sem,hv,KeepB.refl]
     ·have hraw:Raw (w.heap.size+1) 4 x:=hx.raw (show Raw (w.heap.size+1) 4 _ from ⟨_,rfl,B1⟩)
      obtain ⟨u0,e0⟩:=hraw.cell 0 (by decide)
      obtain ⟨u1,e1⟩:=hraw.cell 1 (by decide)
      obtain ⟨u2,e2⟩:=hraw.cell 2 (by decide)
      obtain ⟨u3,e3⟩:=hraw.cell 3 (by decide)
      have z0:=hraw.fz 0
      have z1:=hraw.fz 1
      have z2:=hraw.fz 2
      have z3:=hraw.fz 3
      simp [does,doesUpon,go_sem,hv,e0,e1,e2,e3,z0,z1,z2,z3]
      exact hraw.store4 _ _ _ _
     ·obtain ⟨h2,h3⟩:=hv
      simp [does,doesUpon,go_sem,h2,h3,KeepB.refl]
     ·simp [does,doesUpon,go_sem,KeepB.refl]
     ·have e1:=(A1.touch hx.touch (by omega)).cell 1
      simp at e1
      simp [does,doesUpon,go_sem,hv,e1,KeepB.refl]
     ·simp [does,doesUpon,go_sem,KeepB.refl]
     ·have e0:=(X1.touch hx.touch (by omega)).cell 0
      have e1:=(X1.touch hx.touch (by omega)).cell 1
      have e2:=(X1.touch hx.touch (by omega)).cell 2
      have e3:=(X1.touch hx.touch (by omega)).cell 3
      simp at e0 e1 e2 e3
      simp [does,doesUpon,go_sem,e0,e1,e2,e3,KeepB.refl]
    case refine_3=>
     intro vals x hx hv
     have hst:=hv 5 (by decide)
     have hl:vals 6=_:=hv 6 (by decide)
     clear hv
     have k0:=hst.cell 0
     have k1:=hst.cell 1
     have k2:=hst.cell 2
     have k3:=hst.cell 3
     simp at k0 k1 k2 k3
     replace hst:Hid _:=hst
     simp only [hl]
     go_wp2
     refine bodyPost_ret (v:=.tuple #[.agg #[.int .u32 q,.string ByteArray.empty,.slice (some ⟨g,0,none⟩) n c,.int .i64 r],.string d]) ?_ rfl ⟨g,c,rfl,?_,?_⟩
     ·simp [results,go_sem,k0,k1,k2,k3]
     ·exact (T1.touch hx.touch (by omega)).raise (by omega)
     ·exact KeepB.since G1 hx (by omega)
   ·have htm:t=m:=by omega
    subst htm
    clear ht hnn1 hnn2
    go_enter Tryz.func80,Tryz.ntmps80
    go_wp2_with (fail)
    refine (hcp _ (R.since G)).mono ?_
    rintro _ w2 ⟨g,c,rfl,T,g2⟩
    unfold inVal at *
    have hgt:=T.lt
    have X:=Blk.new w2 #[.int .u32 q,.string d,.slice (some ⟨g,0,none⟩) n c,.int .i64 r] 46
    have k3:=(Since.refl w2).alloc (.cells #[.int .u32 q,.string d,.slice (some ⟨g,0,none⟩) n c,.int .i64 r] 46)
    replace A:=(A.since g2).since k3
    replace B:=(B.since g2).since k3
    replace G:=(G.trans g2).trans k3
    replace T:=T.since k3
    have hsz:=g2.le
    simp at hsz
    have hgl:=T.low'
    simp at hgl
    have a0:=A.cell 0
    have a1:=A.cell 1
    have a2:=A.cell 2
    have a3:=A.cell 3
    simp at a0 a1 a2 a3
    clear hcp k3
    have hok1:=hok _ (R.since G)
    clear hok
    go_wp2_with (first|(go_at_call 48;refine hok1.mono ?_;rintro _ w4 ⟨rfl,g4⟩;replace A:=A.since g4;replace B:=B.since g4;replace X:=X.since g4;replace G:=G.trans g4;replace T:=T.since g4;clear a0 a1 a2 a3;have a0:=A.cell 0;have a1:=A.cell 1;have a2:=A.cell 2;have a3:=A.cell 3;simp at a0 a1 a2 a3;have b0:=B.cell 0;have b1:=B.cell 1;have b2:=B.cell 2;have b3:=B.cell 3;simp at b0 b1 b2 b3;have x0:=X.cell 0;have x1:=X.cell 1;have x2:=X.cell 2;have x3:=X.cell 3;simp at x0 x1 x2 x3;have z0:=B.fz 0;have z1:=B.fz 1;have z2:=B.fz 2;have z3:=B.fz 3;have u1:=X.fz 1)|(go_at_call 46;refine (hi1 _).mono ?_;rintro _ _ ⟨rfl,rfl⟩))
    have X1:=X.put 1 (.string (d.extract t d.size)) (by simp)
    have hxl:=X.lt
    have A1:=A.other (show w.heap.size≠w2.heap.size by omega) 1 (.string (d.extract t d.size))
    have B1:=B.other (show w.heap.size+1≠w2.heap.size by omega) 1 (.string (d.extract t d.size))
    have G1:=since_put1 G (show w.heap.size≤w2.heap.size by omega) 1 (.string (d.extract t d.size))
    have T1:=T.other (show g≠w2.heap.size by omega) 1 (.string (d.extract t d.size))
    obtain ⟨w6,hw6⟩:∃ w6,w4.setCell ⟨w2.heap.size,1,none⟩ (.string (d.extract t d.size))=w6:=⟨_,rfl⟩
    rw [hw6] at X1 A1 B1 G1 T1 ⊢
    have hAl:=A1.lt
    have hgl6:=T1.low'
    clear hw6 a0 a1 a2 a3 b0 b1 b2 b3 x0 x1 x2 x3 z0 z1 z2 z3 u1
    refine wp_region_keep (wb:=w6) (w.heap.size+1) #[.int .u32 q,.string (d.extract t d.size),.slice (some ⟨g,0,none⟩) n c,.int .i64 r] (fun i x v=>match i with
      | 0=>v=.agg #[.int .u32 q,.string (d.extract t d.size),.slice (some ⟨g,0,none⟩) n c,.int .i64 r]
      | 1=>v=.pointer (some ⟨w.heap.size,1,none⟩)
      | 2=>v=.string d
      | 3=>v=.int .i64 t
      | 4=>v=.string (d.extract 0 t)
      | 5=>Blk (w.heap.size+1) x #[.int .u32 q,.string (d.extract t d.size),.slice (some ⟨g,0,none⟩) n c,.int .i64 r]
      | 6=>v=.string (d.extract 0 t)
      | _=>True) (fun v=>{tmps:=#[Value.agg #[Value.int IntKind.u32 q,Value.string d,Value.slice a n cap,Value.int IntKind.i64 r],Value.int IntKind.i64 (t:Int),Value.pointer (some ⟨w.heap.size,0,none⟩),undef,Value.pointer (some ⟨w.heap.size+1,0,none⟩),v 6,Value.pointer (some ⟨w2.heap.size,0,none⟩),Value.agg #[Value.int IntKind.u32 q,Value.string d,Value.slice a n cap,Value.int IntKind.i64 r],Value.agg #[Value.int IntKind.u32 q,Value.string d,Value.slice (some ⟨g,0,none⟩) n c,Value.int IntKind.i64 r],Value.agg #[Value.int IntKind.u32 q,Value.string d,Value.slice a n cap,Value.int IntKind.i64 r],Value.bool true,Value.bool false,Value.bool false,Value.int IntKind.i64 (t:Int),Value.bool true,Value.bool false,Value.bool false,undef,Value.int IntKind.i64 (t:Int),Value.pointer (some ⟨w.heap.size,1,none⟩),Value.string d,Value.int IntKind.i64 (d.size:Int),Value.bool (decide (d.size<t)),undef,undef,undef,Value.pointer (some ⟨w.heap.size,1,none⟩),Value.string d,Value.int IntKind.i64 (t:Int),Value.string (d.extract t d.size),Value.pointer (some ⟨w2.heap.size,1,none⟩),v 0,v 1,v 2,v 3,v 4],defers:=[]}) (by kernel_rfl) (by kernel_rfl) (by kernel_rfl) (KeepB.refl _ _ _) ?_ (fun vals=>by kernel_rfl) ?_ ?_
    case refine_1=>
     intro j x x' v h1 h2
     match j,h2 with
     | 5,h2=>
      exact h1.done h2
     | 0,h2|1,h2|2,h2|3,h2|4,h2|6,h2=>exact h2
     | n+7,_=>trivial
    case refine_2=>
     repeat (first|exact eachDoesR_nil|refine eachDoesR_cons ?_ ?_)
     all_goals intro vals x hx hv
     all_goals simp [Region.binds] at hv
     ·simp [does,doesUpon,go_sem,hv,KeepB.refl]
     ·have hraw:Raw (w.heap.size+1) 4 x:=hx.raw (show Raw (w.heap.size+1) 4 _ from ⟨_,rfl,B1⟩)
      obtain ⟨u0,e0⟩:=hraw.cell 0 (by decide)
      obtain ⟨u1,e1⟩:=hraw.cell 1 (by decide)
      obtain ⟨u2,e2⟩:=hraw.cell 2 (by decide)
      obtain ⟨u3,e3⟩:=hraw.cell 3 (by decide)
      have z0:=hraw.fz 0
      have z1:=hraw.fz 1
      have z2:=hraw.fz 2
      have z3:=hraw.fz 3
      simp [does,doesUpon,go_sem,hv,e0,e1,e2,e3,z0,z1,z2,z3]
      exact hraw.store4 _ _ _ _
     ·obtain ⟨h2,h3⟩:=hv
      simp [does,doesUpon,go_sem,h2,h3,KeepB.refl,ht2]
     ·simp [does,doesUpon,go_sem,KeepB.refl]
     ·have e1:=(A1.touch hx.touch (by omega)).cell 1
      simp at e1
      simp [does,doesUpon,go_sem,hv,e1,KeepB.refl]
     ·simp [does,doesUpon,go_sem,KeepB.refl]
     ·have e0:=(X1.touch hx.touch (by omega)).cell 0
      have e1:=(X1.touch hx.touch (by omega)).cell 1
      have e2:=(X1.touch hx.touch (by omega)).cell 2
      have e3:=(X1.touch hx.touch (by omega)).cell 3
      simp at e0 e1 e2 e3
      simp [does,doesUpon,go_sem,e0,e1,e2,e3,KeepB.refl]
    case refine_3=>
     intro vals x hx hv
     have hst:=hv 5 (by decide)
     have hl:vals 6=_:=hv 6 (by decide)
     clear hv
     have k0:=hst.cell 0
     have k1:=hst.cell 1
     have k2:=hst.cell 2
     have k3:=hst.cell 3
     simp at k0 k1 k2 k3
     replace hst:Hid _:=hst
     simp only [hl]
     go_wp2
     refine bodyPost_ret (v:=.tuple #[.agg #[.int .u32 q,.string (d.extract t d.size),.slice (some ⟨g,0,none⟩) n c,.int .i64 r],.string (d.extract 0 t)]) ?_ rfl ⟨g,c,rfl,?_,?_⟩
     ·simp [results,go_sem,k0,k1,k2,k3]
     ·exact (T1.touch hx.touch (by omega)).raise (by omega)
     ·exact KeepB.since G1 hx (by omega)
  ·rw [if_neg (fun h=>c1 h.2),if_neg (fun h=>c1 h.2)]
   rw [show decide (0≤nn∧nn≤4096)=false from decide_eq_false c1] at hi1
   clear c1
   go_enter Tryz.func80,Tryz.ntmps80
   go_wp2_with (fail)
   refine (hcp _ (R.since G)).mono ?_
   rintro _ w2 ⟨g,c,rfl,T,g2⟩
   unfold inVal at *
   have hgt:=T.lt
   have X:=Blk.new w2 #[.int .u32 q,.string d,.slice (some ⟨g,0,none⟩) n c,.int .i64 r] 46
   have k3:=(Since.refl w2).alloc (.cells #[.int .u32 q,.string d,.slice (some ⟨g,0,none⟩) n c,.int .i64 r] 46)
   replace A:=(A.since g2).since k3
   replace B:=(B.since g2).since k3
   replace G:=(G.trans g2).trans k3
   replace T:=T.since k3
   have hsz:=g2.le
   simp at hsz
   have hgl:=T.low'
   simp at hgl
   have a0:=A.cell 0
   have a1:=A.cell 1
   have a2:=A.cell 2
   have a3:=A.cell 3
   simp at a0 a1 a2 a3
   clear hcp k3
   have hok1:=hok _ (R.since G)
   clear hok
   go_wp2_with (first|(go_at_call 48;refine hok1.mono ?_;rintro _ w4 ⟨rfl,g4⟩;replace A:=A.since g4;replace B:=B.since g4;replace X:=X.since g4;replace G:=G.trans g4;replace T:=T.since g4;clear a0 a1 a2 a3;have a0:=A.cell 0;have a1:=A.cell 1;have a2:=A.cell 2;have a3:=A.cell 3;simp at a0 a1 a2 a3;have b0:=B.cell 0;have b1:=B.cell 1;have b2:=B.cell 2;have b3:=B.cell 3;simp at b0 b1 b2 b3;have x0:=X.cell 0;have x1:=X.cell 1;have x2:=X.cell 2;have x3:=X.cell 3;simp at x0 x1 x2 x3;have z0:=B.fz 0;have z1:=B.fz 1;have z2:=B.fz 2;have z3:=B.fz 3;have u1:=X.fz 1)|(go_at_call 46;refine (hi1 _).mono ?_;rintro _ _ ⟨rfl,rfl⟩))
   have B4:=(((B.put 0 (.int .u32 q) (by simp)).put 1 (.string d) (by simp)).put 2 (.slice (some ⟨g,0,none⟩) n c) (by simp)).put 3 (.int .i64 r) (by simp)
   have k0:=B4.cell 0
   have k1:=B4.cell 1
   have k2:=B4.cell 2
   have k3:=B4.cell 3
   simp at k0 k1 k2 k3
   refine bodyPost_ret (v:=.tuple #[.agg #[.int .u32 q,.string d,.slice (some ⟨g,0,none⟩) n c,.int .i64 r],.string ⟨#[]⟩]) ?_ rfl ⟨g,c,rfl,?_,?_⟩
   ·simp [results,go_sem,k0,k1,k2,k3]
   ·exact ((((T.other (by omega) _ _).other (by omega) _ _).other (by omega) _ _).other (by omega) _ _).raise (by omega)
   ·exact since_put1 (since_put1 (since_put1 (since_put1 G (by omega) _ _) (by omega) _ _) (by omega) _ _) (by omega) _ _
end Go.Proofs.YtnbopjlpemmkcaaGreat
