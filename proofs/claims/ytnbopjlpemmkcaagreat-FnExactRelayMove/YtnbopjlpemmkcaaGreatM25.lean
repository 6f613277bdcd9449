/-
  A turn of both pipes, as both make it, by one answer.
  Answers that are stored into new variables in an order left open: lists of parts and variables are told apart by their blocks' types.
-/
import Derived.Test.YtnbopjlpemmkcaaGreatRl14S
import Derived.Test.YtnbopjlpemmkcaaGreatJn14R
import Derived.Test.YtnbopjlpemmkcaaGreatM11
import Derived.Test.YtnbopjlpemmkcaaGreatM3
import Derived.Test.YtnbopjlpemmkcaaGreatSegTab
namespace Go.Proofs.YtnbopjlpemmkcaaGreat
open Go.ChangeShapes Go.WideShapes Go.ChangeAt Go.RowKit
set_option linter.unusedVariables false
set_option maxRecDepth 10000

theorem abortS_len (c:Cn) (ps:List (Int×ByteArray)):(abortS c ps).length≤1:=by
 unfold abortS
 split<;>simp

theorem rlAns_pn (k:Nat) (r:Int) (d:ByteArray) (e:Bool) (n:Int) (sr:Int) (sd:ByteArray) (se:Bool) (sn:Int) (L:Cn) (ps:List (Int×ByteArray)) (R:Cn) (qs:List (Int×ByteArray)):(rlAns k r d e n sr sd se sn L ps R qs).L.pn=L.pn∧(rlAns k r d e n sr sd se sn L ps R qs).R.pn=R.pn:=by
 unfold rlAns
 split
 ·exact ⟨rfl,rfl⟩
 ·exact ⟨rfl,abort_pn _ _⟩
 ·exact ⟨abort_pn _ _,rfl⟩
 ·exact ⟨(mvT_pn' _ _ _ _ _ _ _ _).trans (mvF_pn' _ _ _ _ _ _ _),(mvF_pn' _ _ _ _ _ _ _).trans (mvT_pn' _ _ _ _ _ _ _ _)⟩

theorem rlAns_len (k:Nat) (r:Int) (d:ByteArray) (e:Bool) (n:Int) (sr:Int) (sd:ByteArray) (se:Bool) (sn:Int) (L:Cn) (ps:List (Int×ByteArray)) (R:Cn) (qs:List (Int×ByteArray)):(rlAns k r d e n sr sd se sn L ps R qs).xa.length≤1∧(rlAns k r d e n sr sd se sn L ps R qs).xb.length≤1:=by
 unfold rlAns
 split
 ·simp
 ·exact ⟨by simp,abortS_len _ _⟩
 ·exact ⟨abortS_len _ _,by simp⟩
 ·simp

theorem specRelayE (r:Int) (d:ByteArray) (e:Bool) (n:Int) (sr:Int) (sd:ByteArray) (se:Bool) (sn:Int) (L:Cn) (ps:List (Int×ByteArray)) (R:Cn) (qs:List (Int×ByteArray)) (gL:GoodC L ps) (gR:GoodC R qs) (hd:d.size≤1048576) (hf:sd.size≤1048576) (q p q2 p2:Nat) (w:World) (RL:Rd shP w (some ⟨q,0,none⟩) L.pn ps) (RR:Rd shP w (some ⟨q2,0,none⟩) R.pn qs) (A:Rl) (hA:A=rlAns (rlWay r d n sr sd sn L ps R qs) r d e n sr sd se sn L ps R qs) :
  Calls Tryz.prog 6 #[.agg #[.int .i64 r,.string d,.bool e,.int .i64 n,.int .i64 sr,.string sd,.bool se,.int .i64 sn],.agg (cnCells {L with pa:=some ⟨q,0,none⟩,pc:=p}),.agg (cnCells {R with pa:=some ⟨q2,0,none⟩,pc:=p2})] w fun x w'=>∃ g1 c1 g2 c2 ga ca gb cb,x=.returned (.tuple #[.agg #[.int .i64 r,.string A.d,.bool A.e,.int .i64 A.n,.int .i64 sr,.string A.f,.bool A.g,.int .i64 A.m],.agg (cnCells {A.L with pa:=some ⟨g1,0,none⟩,pc:=c1}),.agg (cnCells {A.R with pa:=some ⟨g2,0,none⟩,pc:=c2}),.slice (some ⟨ga,0,none⟩) A.xa.length ca,.slice (some ⟨gb,0,none⟩) A.xb.length cb])∧Held shP w' w.heap.size g1 L.pn c1 ps∧Held shP w' w.heap.size g2 R.pn c2 qs∧Held shG w' w.heap.size ga A.xa.length ca A.xa∧Held shG w' w.heap.size gb A.xb.length cb A.xb∧Since w w':=by
 refine (specRelay r d e n sr sd se sn L ps R qs gL gR hd hf q p q2 p2 w RL RR).mono ?_
 rintro e1 w1 h
 obtain ⟨A1,g1,c1,g2,c2,ga,ma,ca,gb,mb,cb,e0,rfl,H1,H2,H3,H4,hrest⟩:=h.out
 rw [← hA] at e0
 subst e0
 have l3:=H3.1
 have l4:=H4.1
 subst l3 l4
 exact ⟨g1,c1,g2,c2,ga,ca,gb,cb,rfl,H1,H2,H3,H4,hrest⟩

theorem implRelayE (r:Int) (d:ByteArray) (e:Bool) (n:Int) (sr:Int) (sd:ByteArray) (se:Bool) (sn:Int) (L:Cn) (ps:List (Int×ByteArray)) (R:Cn) (qs:List (Int×ByteArray)) (gL:GoodC L ps) (gR:GoodC R qs) (hd:d.size≤1048576) (hf:sd.size≤1048576) (q p q2 p2:Nat) (w:World) (RL:Rd shP w (some ⟨q,0,none⟩) L.pn ps) (RR:Rd shP w (some ⟨q2,0,none⟩) R.pn qs) (A:Rl) (hA:A=rlAns (rlWay r d n sr sd sn L ps R qs) r d e n sr sd se sn L ps R qs) :
  Calls Tryz.prog 9 #[.agg #[.int .i64 r,.string d,.bool e,.int .i64 n,.int .i64 sr,.string sd,.bool se,.int .i64 sn],.agg (cnCells {L with pa:=some ⟨q,0,none⟩,pc:=p}),.agg (cnCells {R with pa:=some ⟨q2,0,none⟩,pc:=p2})] w fun x w'=>∃ g1 c1 g2 c2 ga ca gb cb,x=.returned (.tuple #[.agg #[.int .i64 r,.string A.d,.bool A.e,.int .i64 A.n,.int .i64 sr,.string A.f,.bool A.g,.int .i64 A.m],.agg (cnCells {A.L with pa:=some ⟨g1,0,none⟩,pc:=c1}),.agg (cnCells {A.R with pa:=some ⟨g2,0,none⟩,pc:=c2}),.slice (some ⟨ga,0,none⟩) A.xa.length ca,.slice (some ⟨gb,0,none⟩) A.xb.length cb])∧Held shP w' w.heap.size g1 L.pn c1 ps∧Held shP w' w.heap.size g2 R.pn c2 qs∧Held shG w' w.heap.size ga A.xa.length ca A.xa∧Held shG w' w.heap.size gb A.xb.length cb A.xb∧(g1≠g2∧ga≠gb)∧Since w w':=by
 refine (implRelay r d e n sr sd se sn L ps R qs gL gR hd hf q p q2 p2 w RL RR).mono ?_
 rintro e1 w1 h
 obtain ⟨A1,g1,c1,g2,c2,ga,ma,ca,gb,mb,cb,e0,rfl,H1,H2,H3,H4,hrest⟩:=h.out
 rw [← hA] at e0
 subst e0
 have l3:=H3.1
 have l4:=H4.1
 subst l3 l4
 exact ⟨g1,c1,g2,c2,ga,ca,gb,cb,rfl,H1,H2,H3,H4,hrest⟩
end Go.Proofs.YtnbopjlpemmkcaaGreat

namespace Go.Proofs.YtnbopjlpemmkcaaGreat
open Go.ChangeShapes Go.WideShapes Go.ChangeAt Go.RowKit
set_option linter.unusedVariables false
set_option maxRecDepth 10000

def Typed (t:TypeId) (k b:Nat) (x:World):Prop:=(∃ cur,x.heap[b]?=some (.cells cur t (0,0)))∧Raw b k x

def KeepsT (x y:World):Prop:=(∀ (B g n cap:Nat) (ps:List (Int×ByteArray)),Held shP x B g n cap ps→Held shP y B g n cap ps)∧(∀ t k b,Typed t k b x→Typed t k b y)∧∀ (B g n cap:Nat) (xs:List Sg),Held shG x B g n cap xs→Held shG y B g n cap xs

theorem Typed.since {t:TypeId} {k b:Nat} {x y:World} (h:Typed t k b x) (s:Since x y):Typed t k b y:=by
 obtain ⟨⟨cur,h1⟩,cs,e,B⟩:=h
 exact ⟨⟨cur,by rw [Below.block s b B.lt];exact h1⟩,cs,e,B.since s⟩

theorem KeepsT.of_since {x y:World} (s:Since x y):KeepsT x y:=⟨fun _ _ _ _ _ h=>h.since s,fun _ _ _ h=>h.since s,fun _ _ _ _ _ h=>h.since s⟩

theorem Typed.new (x:World) (cs:Array Value) (t:TypeId) {k:Nat} (h:cs.size=k):Typed t k x.heap.size (x.alloc (.cells cs t)):=⟨⟨cs,by rw [← World.alloc_eq];simp⟩,cs,h,Blk.new x cs t⟩

theorem typed_ne {x:World} {B g n cap:Nat} {ps:List (Int×ByteArray)} {t:TypeId} {k b:Nat} (h:Held shP x B g n cap ps) (k:Typed t k b x) (ht:t≠131):g≠b:=by
 intro e
 subst e
 obtain ⟨cur,h3,-⟩:=h.heap
 obtain ⟨⟨c2,h4⟩,-⟩:=k
 rw [h3] at h4
 simp at h4
 exact ht h4.2.symm

theorem typed_neG {x:World} {B g n cap:Nat} {ps:List Sg} {t:TypeId} {k b:Nat} (h:Held shG x B g n cap ps) (k:Typed t k b x) (ht:t≠99):g≠b:=by
 intro e
 subst e
 obtain ⟨cur,h3,-⟩:=h.heap
 obtain ⟨⟨c2,h4⟩,-⟩:=k
 rw [h3] at h4
 simp at h4
 exact ht h4.2.symm

theorem heap_sets (b:Nat) (t:TypeId):∀ (vs:List Value) (o:Nat) (w:World) (cur:Array Value),w.heap[b]?=some (.cells cur t (0,0))→∃ c2,(w.setCells b o vs).heap[b]?=some (.cells c2 t (0,0))
 | [],_,_,cur,h=>⟨cur,h⟩
 | v :: r,o,w,cur,h=>by
  rw [World.setCells]
  exact heap_sets b t r (o+1) _ _ (heap_setCell_same w b o cur t v h)

theorem does_storeT {t:TypeId} {k:Nat} {cs:Array Value} {b:Nat} {w:World} {t':TypeId} (T:IsBig t k) (hs:cs.size=k) (hr:Typed t' k b w) (ht:t'≠131∧t'≠99) (h1:cs.all (·.oneCell')=true) {op:Oper} {a:Act} {R:Value→World→Prop} (x y:Operand) (ho:op.op=.store t x y)
  (hx:a.eval x=.pointer (some ⟨b,0,none⟩)) (hy:a.eval y=.agg cs) (h:∀ z,KeepsT w z→Touch b w z→Blk b z cs→R undef z):does Tryz.prog op a w R:=by
 obtain ⟨⟨cur,hh⟩,c0,e0,B⟩:=hr
 have hty:Typed t' k b w:=⟨⟨cur,hh⟩,c0,e0,B⟩
 have hth:w.there b 0 cs.size:=by have:=B.there;rwa [e0,← hs] at this
 have e:=run_storeVar_mid (P:=Tryz.prog) w b 0 t cs hth (by rw [T.size,hs]) h1
 have tt:=Touch.puts (g:=b) cs.toList 0 (Touch.refl b w)
 have bb:=blk_puts B (show cs.size=c0.size by rw [hs,e0])
 unfold does execOp
 simp only [ho,hx,hy,Instr.storeAt,Instr.sureAddr,Sem.run_bind,Sem.run_pure,Result.andThen_ok,e]
 refine h _ ⟨fun B' g n cap ps H=>H.touch tt (typed_ne H hty ht.1),fun t2 k2 b2 H=>?_,fun B' g n cap ps H=>H.touch tt (typed_neG H hty ht.2)⟩ tt bb
 obtain ⟨⟨c2,h2⟩,c3,e3,B3⟩:=H
 by_cases hb:b2=b
 ·subst hb
  obtain ⟨c4,h4⟩:=heap_sets b2 t2 cs.toList 0 w c2 h2
  refine ⟨⟨c4,h4⟩,cs,?_,bb⟩
  have q1:=B.cell k2
  have q2:=B3.cell k2
  rw [Array.getElem?_eq_none (by omega)] at q2
  rw [q2] at q1
  have q3:=Array.getElem?_eq_none_iff.1 q1.symm
  have q4:=B.cell k
  have q5:=B3.cell k
  rw [Array.getElem?_eq_none (by omega)] at q4
  rw [q4] at q5
  have q6:=Array.getElem?_eq_none_iff.1 q5.symm
  omega
 ·exact ⟨⟨c2,by rw [tt.block b2 B3.lt hb];exact h2⟩,c3,e3,B3.touch tt hb⟩

theorem does_v {op:Oper} {a:Act} {w:World} {R:Value→World→Prop} (v:Value) (h:(execOp a.eval op).run Tryz.prog w=.ok (.value v) w) (k:R v w):does Tryz.prog op a w R:=by
 unfold does
 rw [h]
 exact k

theorem does_w {op:Oper} {a:Act} {w:World} {R:Value→World→Prop} (v:Value) (w':World) (h:(execOp a.eval op).run Tryz.prog w=.ok (.value v) w') (k:R v w'):does Tryz.prog op a w R:=by
 unfold does
 rw [h]
 exact k

theorem does_c {op:Oper} {a:Act} {w:World} {R:Value→World→Prop} {f:FuncId} (args0:Array Value) {args:Array Value} {S:Ending→World→Prop} (hc:Calls Tryz.prog f args w S) (he:args0=args) (k:∀ e w',S e w'→∃ v,e=.returned v∧R v w') (h:(execOp a.eval op).run Tryz.prog w=.ok (.enter f args0) w:=by kernel_rfl):does Tryz.prog op a w R:=by
 unfold does
 rw [h,he]
 exact hc.mono k
end Go.Proofs.YtnbopjlpemmkcaaGreat
