/-
  Single operations of a region's list, by their laws.
  The laws' functions over ends, as the laws of chapter 11 want them.
  How much an end holds: what is left is no more than there was.
-/
import Derived.Test.YtnbopjlpemmkcaaGreatM3
import Derived.Test.YtnbopjlpemmkcaaGreatM5
import Derived.Test.YtnbopjlpemmkcaaGreatConnLaw
import Derived.Test.YtnbopjlpemmkcaaGreatM17
import Derived.Great.BuildSlice
import Derived.Deep.DeepCutAuto
namespace Go.Proofs.YtnbopjlpemmkcaaGreat
open Go.ChangeShapes Go.WideShapes Go.ChangeAt Go.RowKit
set_option linter.unusedVariables false
set_option maxRecDepth 10000

theorem call_step {ops:Array Oper} {rest:List Oper} {o:Oper} {a:Act} {w:World} {Q:Exit→Act→World→Prop} (hg:o.guard=none) (f:FuncId) (args:Array Value) (hrun:(execOp a.eval o).run Tryz.prog w=.ok (.enter f args) w)
  {R:Ending→World→Prop} (hc:Calls Tryz.prog f args w R) (h:∀ e w',R e w'→∃ v,e=.returned v∧wpList Tryz.prog ops Q rest (a.put o.dst v) w'):wpList Tryz.prog ops Q (o :: rest) a w:=by
 refine wpList_plain hg fun K hK=>?_
 unfold Oper.wp
 rw [hrun,Oper.upon_enter]
 refine hc.mono fun e w'' hh=>?_
 obtain ⟨v,rfl,h'⟩:=h e w'' hh
 exact hK _ _ h'

theorem move_step {ops:Array Oper} {rest:List Oper} {o:Oper} {a:Act} {w:World} {Q:Exit→Act→World→Prop} (hg:o.guard=none) (x:Operand) (ho:o.op=.move x)
  (h:wpList Tryz.prog ops Q rest (a.put o.dst (a.eval x)) w):wpList Tryz.prog ops Q (o :: rest) a w:=by
 refine wpList_plain hg fun K hK=>?_
 unfold Oper.wp execOp
 simp only [ho]
 exact hK _ _ h

theorem step_val {ops:Array Oper} {rest:List Oper} {o:Oper} {a:Act} {w w':World} {Q:Exit→Act→World→Prop} (hg:o.guard=none) (v:Value) (hrun:(execOp a.eval o).run Tryz.prog w=.ok (.value v) w')
  (h:wpList Tryz.prog ops Q rest (a.put o.dst v) w'):wpList Tryz.prog ops Q (o :: rest) a w:=by
 refine wpList_plain hg fun K hK=>?_
 unfold Oper.wp
 rw [hrun]
 exact hK _ _ h

theorem step_does {ops:Array Oper} {rest:List Oper} {o:Oper} {a:Act} {w:World} {Q:Exit→Act→World→Prop} (hg:o.guard=none) {R:Value→World→Prop} (hd:does Tryz.prog o a w R)
  (h:∀ v w',R v w'→wpList Tryz.prog ops Q rest (a.put o.dst v) w'):wpList Tryz.prog ops Q (o :: rest) a w:=by
 refine wpList_plain hg fun K hK=>?_
 unfold does at hd
 unfold Oper.wp
 generalize (execOp a.eval o).run Tryz.prog w=r at hd
 cases r with
 | ok n w'=>
  cases n<;>simp only [doesUpon] at hd<;>simp only [Oper.upon]
  case value u=>exact hK _ _ (h u w' hd)
  case skip=>exact hK _ _ (h undef w' hd)
  case enter f args=>exact hd.mono fun e w'' ⟨v,he,h1⟩=>by subst he;exact hK _ _ (h v w'' h1)
 | halt x w'=>simp only [doesUpon] at hd

theorem text_empty {d:ByteArray} (h:¬ d=ByteArray.empty):(d.toList == [])=false:=by
 rw [beq_eq_false_iff_ne]
 intro e
 rw [ByteArray.toList_eq] at e
 refine h ?_
 obtain ⟨⟨l⟩⟩:=d
 simp at e
 subst e
 rfl
end Go.Proofs.YtnbopjlpemmkcaaGreat

namespace Go.Proofs.YtnbopjlpemmkcaaGreat
open Go.ChangeShapes Go.WideShapes Go.ChangeAt Go.RowKit Go.Deep
set_option linter.unusedVariables false
set_option maxRecDepth 10000
set_option maxRecDepth 10000

theorem lcn_big:IsBig 37 37:=⟨⟨_,Tryz.underlying37,rfl⟩,by kernel_rfl⟩

theorem good_of {c:Cn} {ps:List (Int×ByteArray)} (u:WfC c ps) (h:(c.oD.size:Int)≤1048576∧(c.iD.size:Int)≤1048576∧(c.pn:Int)≤1048576∧∀ i,i<c.pn→((pAt ps i).2.size:Int)≤1048576):GoodC c ps:=
 ⟨isWord_wf u.v_iss,isWord_wf u.v_una,isWord_wf u.v_nxt,isWord_wf u.v_mx,isWord_wf u.v_wsq,isWord_wf u.v_wak,isWord_wf u.v_oF,isWord_wf u.v_fsq,isWord_wf u.v_cR,isWord_wf u.v_tsq,by omega,
  ⟨isWord_wf u.v_iN,by omega,by have:=bounds_i64 u.v_iR;unfold IsInt;omega,by omega,fun i hi=>⟨isWord_wf (u.parts i hi).1,by have:=h.2.2.2 i hi;omega⟩⟩⟩

theorem good_at {c:Cn} {ps:List (Int×ByteArray)} (g:GoodC c ps) (a:Option Addr) (p:Nat):GoodC {c with pa:=a,pc:=p} ps:=
 ⟨g.w_iss,g.w_una,g.w_nxt,g.w_mx,g.w_wsq,g.w_wak,g.w_oF,g.w_fsq,g.w_cR,g.w_tsq,g.hod,g.gd⟩

theorem touch_grownP {w w':World} {g n c:Nat} (h:w.grownBy w' (Value.slice (some ⟨g,0,none⟩) n c).ownBlock):Touch g w w':=⟨h.os,h.tape,h.output,h.size,fun k hk hne=>h.block k hk (by simp [Value.ownBlock];omega)⟩

theorem eqCn (D:Cn) (g cp g' cp':Nat) (ps:List (Int×ByteArray)) (hn:D.pn≤1048576) (w:World) (R:Rd shP w (some ⟨g,0,none⟩) D.pn ps) (Q:Rd shP w (some ⟨g',0,none⟩) D.pn ps) :
  Calls Tryz.prog 11 #[.agg (cnCells {D with pa:=some ⟨g,0,none⟩,pc:=cp}),.agg (cnCells {D with pa:=some ⟨g',0,none⟩,pc:=cp'})] w fun e w'=>e=.returned (.bool true)∧Since w w':=
 eqConn {D with pa:=some ⟨g,0,none⟩,pc:=cp} (some ⟨g',0,none⟩) cp' ps hn w R Q

theorem markCn (D:Cn) (g cp B:Nat) (ps:List (Int×ByteArray)) (k:Int) (hk0:1≤k) (hk1:k+2*D.pn≤1073741824) (w:World) (T:Held shP w B g D.pn cp ps) :
  Calls Tryz.prog 13 #[.agg (cnCells {D with pa:=some ⟨g,0,none⟩,pc:=cp}),.int .i64 k] w fun e w'=>e=.returned (.int .i64 (k+2*D.pn))∧Touch g w w'∧∃ ms,MarkedP k D.pn ms∧Held shP w' B g D.pn cp ms:=
 (markConn {D with pa:=some ⟨g,0,none⟩,pc:=cp} B ps k hk0 hk1 w T).mono fun e w' ⟨h,⟨x,s,gr⟩,ms,m,o⟩=>⟨h,(Touch.of_since s g).trans (touch_grownP gr),ms,m,o⟩

theorem heldCn (D:Cn) (g cp B:Nat) (ms:List (Int×ByteArray)) (k:Int) (hk0:1≤k) (hk1:k+2*D.pn≤1073741824) (w:World) (T:Held shP w B g D.pn cp ms) (hM:MarkedP k D.pn ms) :
  Calls Tryz.prog 15 #[.agg (cnCells {D with pa:=some ⟨g,0,none⟩,pc:=cp}),.int .i64 k] w fun e w'=>e=.returned (.int .i64 (k+2*D.pn))∧Since w w':=
 heldConn {D with pa:=some ⟨g,0,none⟩,pc:=cp} ms k hk0 hk1 w T.reads hM
end Go.Proofs.YtnbopjlpemmkcaaGreat

namespace Go.Proofs.YtnbopjlpemmkcaaGreat
open Go.ChangeShapes Go.WideShapes Go.ChangeAt Go.RowKit
set_option linter.unusedVariables false
set_option maxRecDepth 10000

theorem szInL (q:Int) (d:ByteArray) (r:Int) (a:Option Addr) (n cap:Nat) (ps:List (Int×ByteArray)) (left:Int) (h0:0≤left) (hl:left≤1048576) (w:World) (R:Rd shP w a n ps) (hsm:∀ i,i<n→(pAt ps i).2.size≤maxLen) (hd:d.size≤maxLen) :
  Calls Tryz.prog 19 #[inVal q d (.slice a n cap) r,.int .i64 left] w fun e w'=>(∃ r:Int,e=.returned (.int .i64 r)∧r≤left∧(0≤r→(d.size:Int)≤left∧(n:Int)≤left∧∀ i,i<n→((pAt ps i).2.size:Int)≤left))∧Since w w':=by
 unfold inVal
 unfold maxLen at hd
 have hsub:IntKind.i64.wrap (left - (d.size:Int))=left - (d.size:Int):=by rw [IntWalk.i64_left];exact IntWalk.wrap64_in _ ⟨by omega,by omega⟩
 have G:Since w (w.alloc (.cells #[.int .u32 q,.string d,.slice a n cap,.int .i64 r] 31)):=(Since.refl _).alloc _
 by_cases h:left - (d.size:Int)<0
 ·clear R hsm
  go_enter Tryz.func19,Tryz.ntmps19
  go_wp2
  go_ret
  exact ⟨⟨-1,rfl,by omega,by omega⟩,G⟩
 ·have hs:=szParts a n cap ps (left - (d.size:Int)) (by omega) (by omega) _ (R.since G) hsm
  clear R hsm
  go_enter Tryz.func19,Tryz.ntmps19
  go_wp2_with (go_at_call 44;refine hs.mono ?_;rintro _ w1 ⟨⟨r,rfl,hr1,hr2⟩,g1⟩;replace hr2:Hid _:=hr2)
  ·go_ret
   exact ⟨⟨-1,rfl,by omega,by omega⟩,G.trans g1⟩
  ·go_ret
   refine ⟨⟨r,rfl,by omega,fun h0=>?_⟩,G.trans g1⟩
   obtain ⟨h1,h2⟩:=hr2.out h0
   exact ⟨by omega,by omega,fun i hi=>by have:=h2 i hi;omega⟩

set_option maxHeartbeats 2000000 in
theorem szConnL (c:Cn) (ps:List (Int×ByteArray)) (l:Int) (h0:0≤l) (hl:l≤1048576) (hd:c.oD.size≤maxLen) (he:c.iD.size≤maxLen) (w:World) (R:Rd shP w c.pa c.pn ps) (hsm:∀ i,i<c.pn→(pAt ps i).2.size≤maxLen) :
  Calls Tryz.prog 5 #[cnVal c,.int .i64 l] w fun e w'=>(∃ r:Int,e=.returned (.int .i64 r)∧r≤l∧(0≤r→(c.oD.size:Int)≤l∧(c.iD.size:Int)≤l∧(c.pn:Int)≤l∧∀ i,i<c.pn→((pAt ps i).2.size:Int)≤l))∧Since w w':=by
 have k1:=fun wx=>szOut c.oF c.oD c.oR l ⟨h0,hl⟩ (by unfold maxLen at hd;omega) wx
 unfold outVal at k1
 unfold cnVal
 have A:=Blk.new w (cnCells c) 37
 have G:=(Since.refl w).alloc (.cells (cnCells c) 37)
 by_cases h1:(c.oD.size:Int)≤l
 ·rw [if_pos h1] at k1
  have k2:=fun wx Rx=>szInL c.iN c.iD c.iR c.pa c.pn c.pc ps (l - c.oD.size) (by omega) (by omega) wx Rx hsm he
  unfold inVal at k2
  have hp:¬ l - (c.oD.size:Int)<0:=by omega
  obtain ⟨q,hq⟩:∃ q:Int,Hid (q=l - c.oD.size):=⟨_,rfl⟩
  rw [← hq.out] at k1 k2 hp
  have hql:q≤l:=by rw [hq.out];omega
  go_enter Tryz.func5,Tryz.ntmps5
  go_upto_region 1 with (fail)
  generalize w.alloc (.cells (cnCells c) 37)=x0 at A G ⊢
  have a_oF:x0.cell? ⟨w.heap.size,8,none⟩=some (.int .u32 c.oF):=A.cell 8
  have a_oD:x0.cell? ⟨w.heap.size,9,none⟩=some (.string c.oD):=A.cell 9
  have a_oR:x0.cell? ⟨w.heap.size,10,none⟩=some (.int .i64 c.oR):=A.cell 10
  go_wp2_with (fail)
  refine (k1 _).mono ?_
  rintro _ x1 ⟨rfl,g1⟩
  replace A:=A.since g1
  replace G:=G.trans g1
  have d_iN:x1.cell? ⟨w.heap.size,11,none⟩=some (.int .u32 c.iN):=A.cell 11
  have d_iD:x1.cell? ⟨w.heap.size,12,none⟩=some (.string c.iD):=A.cell 12
  have d_iP:x1.cell? ⟨w.heap.size,13,none⟩=some (.slice c.pa c.pn c.pc):=A.cell 13
  have d_iR:x1.cell? ⟨w.heap.size,14,none⟩=some (.int .i64 c.iR):=A.cell 14
  go_wp2_with (fail)
  refine (k2 _ (R.since G)).mono ?_
  rintro _ x2 ⟨⟨r,rfl,hrl,hr⟩,g2⟩
  by_cases hr0:r<0
  ·go_wp2_with (fail)
   go_ret
   exact ⟨⟨_,rfl,by omega,fun h=>by omega⟩,G.trans g2⟩
  ·go_wp2_with (fail)
   go_ret
   refine ⟨⟨_,rfl,by omega,fun h=>?_⟩,G.trans g2⟩
   obtain ⟨e1,e2,e3⟩:=hr (by omega)
   exact ⟨h1,by omega,by omega,fun i hi=>by have:=e3 i hi;omega⟩
 ·rw [if_neg h1] at k1
  go_enter Tryz.func5,Tryz.ntmps5
  go_upto_region 1 with (fail)
  generalize w.alloc (.cells (cnCells c) 37)=x0 at A G ⊢
  have a_oF:x0.cell? ⟨w.heap.size,8,none⟩=some (.int .u32 c.oF):=A.cell 8
  have a_oD:x0.cell? ⟨w.heap.size,9,none⟩=some (.string c.oD):=A.cell 9
  have a_oR:x0.cell? ⟨w.heap.size,10,none⟩=some (.int .i64 c.oR):=A.cell 10
  go_wp2_with (fail)
  refine (k1 _).mono ?_
  rintro _ x1 ⟨rfl,g1⟩
  go_wp2_with (fail)
  go_ret
  exact ⟨⟨_,rfl,by omega,fun h=>by omega⟩,G.trans g1⟩
end Go.Proofs.YtnbopjlpemmkcaaGreat
