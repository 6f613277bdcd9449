/- A part of the proof. -/
import Derived.Test.YtmigalhmlofbkaaGreatDoorMF
set_option linter.unusedVariables false
set_option maxRecDepth 10000
namespace Go.Proofs.YtmigalhmlofbkaaGreatDoor
open Go.ChangeShapes Go.WideShapes Go.ChangeAt Go.RowKit Go.Deep
structure QW (ops:Array Oper) (wb:World) (Q:Act→Prop) (l:List Oper) (a:Act):Prop where
 out:wpQuiet Tryz.prog ops (Since wb) Q l a
theorem wp_region_qs {id:Nat} {Q:Exit→Act→World→Prop} {a:Act} {w wb:World} {l:List Oper} (hm:Tryz.prog.follows .mixedOrders=true) (hB:Region.lexB .any l.toArray=true) (h0:Since wb w)
  (h:QW l.toArray wb (fun a'=>∀ w',Since wb w'→Q .normal a' w') l a):(Code.region id l.toArray true).wp Tryz.prog Q a w:=
 wp_region_quiet (C:=Since wb) hm hB h0.drew (by simpa using h.out)
section
variable {ops:Array Oper} {rest:List Oper} {o:Oper} {a:Act} {wb:World} {Q:Act→Prop}
theorem q_frame {l:List Oper} {a a':Act} (e:a=a') (h:QW ops wb Q l a'):QW ops wb Q l a:=by
 rw [e]
 exact h
theorem q_val (hw:Region.wanted o (yielded ops a.tmps)=true) (v:Value) (hrun:∀ x,Since wb x→(execOp a.eval o).run Tryz.prog x=.ok (.value v) x) (h:QW ops wb Q rest (a.put o.dst v)):QW ops wb Q (o :: rest) a:=
 ⟨Go.BigFrame.wpQuiet_want hw fun K hK=>⟨v,fun w hw=>by unfold Oper.quietAt;rw [hrun w hw];exact ⟨rfl,rfl⟩,hK _ h.out⟩⟩
theorem q_call (hw:Region.wanted o (yielded ops a.tmps)=true) (f:FuncId) (args:Array Value) (v:Value) (hrun:∀ x,(execOp a.eval o).run Tryz.prog x=.ok (.enter f args) x)
  (hc:∀ x,Since wb x→Calls Tryz.prog f args x fun e w'=>e=.returned v∧Since x w') (h:QW ops wb Q rest (a.put o.dst v)):QW ops wb Q (o :: rest) a:=
 ⟨Go.BigFrame.wpQuiet_want hw fun K hK=>⟨v,fun w hw=>by
  unfold Oper.quietAt
  rw [hrun w]
  exact ⟨rfl,(hc w hw).mono fun e w' ⟨he,hs⟩=>⟨he,hw.trans hs⟩⟩,hK _ h.out⟩⟩
theorem q_same (hw:Region.wanted o (yielded ops a.tmps)=true) (f:FuncId) (args:Array Value) (v:Value) (hrun:∀ x,(execOp a.eval o).run Tryz.prog x=.ok (.enter f args) x)
  (hc:∀ x,Calls Tryz.prog f args x fun e w'=>e=.returned v∧x=w') (h:QW ops wb Q rest (a.put o.dst v)):QW ops wb Q (o :: rest) a:=
 q_call hw f args v hrun (fun x _=>(hc x).mono fun e w' ⟨he,hs⟩=>⟨he,hs▸Since.refl _⟩) h
theorem q_skip (hw:Region.wanted o (yielded ops a.tmps)=false) (h:QW ops wb Q rest (a.put o.dst undef)):QW ops wb Q (o :: rest) a:=⟨Go.BigFrame.wpQuiet_skip hw h.out⟩
theorem qV (v:Value) (h:QW ops wb Q rest (a.put o.dst v)) (hw:Region.wanted o (yielded ops a.tmps)=true:=by kernel_rfl) (hrun:∀ x,Since wb x→(execOp a.eval o).run Tryz.prog x=.ok (.value v) x:=by intro x hx;kernel_rfl):QW ops wb Q (o :: rest) a:=q_val hw v hrun h
theorem qS (h:QW ops wb Q rest (a.put o.dst undef)) (hw:Region.wanted o (yielded ops a.tmps)=false:=by kernel_rfl):QW ops wb Q (o :: rest) a:=q_skip hw h
theorem q_nil {a:Act} (h:Q a):QW ops wb Q [] a:=⟨wpQuiet_nil h⟩
theorem q_cell (hw:Region.wanted o (yielded ops a.tmps)=true) (ty:TypeId) (x:Operand) (ho:o.op=.load ty x) (ad:Addr) (hx:a.eval x=.pointer (some ad)) (v:Value) (hc:∀ y,Since wb y→y.cell? ad=some v)
  (ha:∀ y,(isAgg ty).run Tryz.prog y=.ok false y) (h:QW ops wb Q rest (a.put o.dst v)):QW ops wb Q (o :: rest) a:=by
 refine q_val hw v (fun y hy=>?_) h
 unfold execOp
 simp [ho,hx,Instr.loadAt,Instr.sureAddr,loadVar,ha,hc y hy]
theorem qC (ad:Addr) (v:Value) (hc:∀ y,Since wb y→y.cell? ad=some v) (h:QW ops wb Q rest (a.put o.dst v)) {ty:TypeId} {x:Operand} (hw:Region.wanted o (yielded ops a.tmps)=true:=by kernel_rfl) (ho:o.op=.load ty x:=by rfl) (hx:a.eval x=.pointer (some ad):=by kernel_rfl) (ha:∀ y,(isAgg ty).run Tryz.prog y=.ok false y:=by intro y;kernel_rfl):QW ops wb Q (o :: rest) a:=q_cell hw ty x ho ad hx v hc ha h
theorem q_part {b:Nat} {cs:Array Value} (B:Blk b wb cs) (hw:Region.wanted o (yielded ops a.tmps)=true) {t:TypeId} {k:Nat} (T:IsBig t k) (x:Operand) (ho:o.op=.load t x) (i:Nat) (hx:a.eval x=.pointer (some ⟨b,i,none⟩))
  (ps:List Value) (hk:ps.length=k) (hp:∀ j v,ps[j]?=some v→cs[i+j]?=some v) (h:QW ops wb Q rest (a.put o.dst (.agg ps.toArray))):QW ops wb Q (o :: rest) a:=by
 refine q_val hw _ (fun y hy=>?_) h
 obtain ⟨d,h1,h2⟩:=T.row
 have e:=run_loadVar_mid (P:=Tryz.prog) y b i t ps d (fun j v hv=>by rw [(B.since hy).cell];exact hp j v hv) h1 h2 (by rw [T.size,hk])
 unfold execOp
 simp only [ho,hx,Instr.loadAt,Instr.sureAddr,Sem.run_bind,Sem.run_pure,Result.andThen_ok,e]
theorem q_end {b:Nat} {c:Cn} {now:Int} {sv:Value} (B:Blk b wb (actCells c now sv)) (hw:Region.wanted o (yielded ops a.tmps)=true) (x:Operand) (ho:o.op=.load 39 x) (hx:a.eval x=.pointer (some ⟨b,0,none⟩))
  (h:QW ops wb Q rest (a.put o.dst (.agg (cnCells c)))):QW ops wb Q (o :: rest) a:=
 q_part B hw cn_big x ho 0 hx (cnCells c).toList rfl (act_end c now sv) h
theorem q_big {t:TypeId} {k b:Nat} {cs:Array Value} (T:IsBig t k) (hs:cs.size=k) (B:Blk b wb cs) (hw:Region.wanted o (yielded ops a.tmps)=true) (x:Operand) (ho:o.op=.load t x) (hx:a.eval x=.pointer (some ⟨b,0,none⟩))
  (h:QW ops wb Q rest (a.put o.dst (.agg cs))):QW ops wb Q (o :: rest) a:=
 q_part B hw T x ho 0 hx cs.toList (by simpa using hs) (fun j v hv=>by rw [Nat.zero_add];simpa using hv) h
end
structure KeepF (b:Nat) (J:World→Prop) (I:Nat→World→Prop) (x y:World):Prop where
 touch:Touch b x y
 j:J x→J y
 i:∀ k,I k x→I k y
theorem KeepF.refl (b:Nat) (J:World→Prop) (I:Nat→World→Prop) (x:World):KeepF b J I x x:=⟨Touch.refl _ _,id,fun _=>id⟩
theorem KeepF.trans {b:Nat} {J:World→Prop} {I:Nat→World→Prop} (x y z:World) (h:KeepF b J I x y) (k:KeepF b J I y z):KeepF b J I x z:=⟨h.touch.trans k.touch,fun q=>k.j (h.j q),fun m q=>k.i m (h.i m q)⟩
theorem KeepF.of_since {b:Nat} {J:World→Prop} {I:Nat→World→Prop} (hJ:∀ x y,Since x y→J x→J y) (hI:∀ k x y,Since x y→I k x→I k y) {x y:World} (h:Since x y):KeepF b J I x y:=⟨Touch.of_since h b,hJ x y h,fun k=>hI k x y h⟩
theorem wp_region_keepF {P:Program} {id:Nat} {Q:Exit→Act→World→Prop} {a:Act} {w wb:World} {l:List Oper} (b:Nat) (J:World→Prop) (I:Nat→World→Prop) (hJ:∀ x y,Since x y→J x→J y) (hI:∀ k x y,Since x y→I k x→I k y) (V:Nat→World→Value→Prop) (F:(Nat→Value)→Act) (hm:P.follows .mixedOrders=true) (hs:settledTo l.toArray a.tmps.size l.length=true) (htl:tailed l.toArray l.length=true) (h0:KeepF b J I wb w)
  (hst:∀ j w w' v,KeepF b J I w w'→V j w v→V j w' v) (hF:∀ vals,F vals=filledTo l.toArray l.length a vals) (hop:eachDoesR P (KeepF b J I) V F wb 0 l)
  (hfin:∀ vals w,KeepF b J I wb w→(∀ i,i<l.length→V i w (vals i))→Q .normal (F vals) w):(Code.region id l.toArray true).wp P Q a w:=by
 refine wp_region_tailR (KeepF b J I) l.length V F hm hs htl KeepF.trans (KeepF.trans _ _ _ h0 (KeepF.of_since hJ hI ((Since.refl _).drew))) hst hF (by rw [List.take_length];exact hop) fun vals w hw hv=>?_
 rw [List.drop_length]
 exact hfin vals w hw hv
theorem does_cell_store {op:Oper} {a:Act} {w:World} {R:Value→World→Prop} {b:Nat} {cs cs':Array Value} (B:Blk b w cs) (ty:TypeId) (x y:Operand) (ho:op.op=.store ty x y) (i:Nat) (hx:a.eval x=.pointer (some ⟨b,i,none⟩)) (v:Value) (hy:a.eval y=v)
  (hv:v.oneCell'=true) (hs:(Tryz.prog.info? ty).map (·.size)=some 1) (hi:i<cs.size) (hcs:cs.setIfInBounds i v=cs') (h:∀ z,Touch b w z→Blk b z cs'→R undef z):does Tryz.prog op a w R:=by
 have e:=run_storeOne (ty:=ty) hv hs B hi
 unfold does execOp
 simp only [ho,hx,hy,Instr.storeAt,Instr.sureAddr,Sem.run_bind,Sem.run_pure,Result.andThen_ok,e]
 exact h _ ((Touch.refl b w).put i v) (by rw [← hcs];exact B.put i v hi)
def timC (d:Cn) (t:Bool) (q s:Int):Cn:={d with tmg:=t,tsq:=q,tat:=s}
theorem tim_inj {g:Nat} {x:World} {d:Cn} {now:Int} {sv:Value} {t t':Bool} {q q' s s':Int} (h:Blk g x (actCells (timC d t q s) now sv)) (k:Blk g x (actCells (timC d t' q' s') now sv)):t=t'∧q=q'∧s=s':=by
 have e1:(Value.bool t)=.bool t':=Option.some.inj ((h.cell 28).symm.trans (k.cell 28))
 have e2:(Value.int .u32 q)=.int .u32 q':=Option.some.inj ((h.cell 29).symm.trans (k.cell 29))
 have e3:(Value.int .i64 s)=.int .i64 s':=Option.some.inj ((h.cell 30).symm.trans (k.cell 30))
 simp only [Value.bool.injEq] at e1
 simp only [Value.int.injEq,true_and] at e2 e3
 exact ⟨e1,e2,e3⟩
def TimJ (g:Nat) (d:Cn) (now:Int) (sv:Value) (x:World):Prop:=∃ t q s,Blk g x (actCells (timC d t q s) now sv)
def TimI (g:Nat) (d:Cn) (now:Int) (sv:Value) (k:Nat) (x:World):Prop:=∃ t q s,Blk g x (actCells (timC d t q s) now sv)∧(k=0→t=true)∧(k=1→q=d.nxt)∧(k=2→s=now)
theorem TimJ.since {g:Nat} {d:Cn} {now:Int} {sv:Value} (x y:World) (s:Since x y) (h:TimJ g d now sv x):TimJ g d now sv y:=by
 obtain ⟨a,b,c,B⟩:=h
 exact ⟨a,b,c,B.since s⟩
theorem TimI.since {g:Nat} {d:Cn} {now:Int} {sv:Value} (k:Nat) (x y:World) (s:Since x y) (h:TimI g d now sv k x):TimI g d now sv k y:=by
 obtain ⟨a,b,c,B,r⟩:=h
 exact ⟨a,b,c,B.since s,r⟩
end Go.Proofs.YtmigalhmlofbkaaGreatDoor
