/-
  Operations that stand behind a guard that says yes, by their laws.
  Parts of a great struct read and stored, at a region's list.
-/
import Derived.Test.YtnbopjlpemmkcaaGreatM16
import Derived.Test.YtnbopjlpemmkcaaGreatM18
namespace Go.Proofs.YtnbopjlpemmkcaaGreat
open Go.ChangeShapes Go.WideShapes Go.ChangeAt Go.RowKit
set_option linter.unusedVariables false
set_option maxRecDepth 10000

theorem want_plain {ops:Array Oper} {rest:List Oper} {o:Oper} {a:Act} {w:World} {Q:Exit→Act→World→Prop} (hw:Region.wanted o (yielded ops a.tmps)=true)
  (h:∀ K:Act→World→Prop,(∀ a w,wpList Tryz.prog ops Q rest a w→K a w)→o.wp Tryz.prog a w K Q):wpList Tryz.prog ops Q (o :: rest) a w:=
 wpList_step fun K hK=>by simp only [hw,if_true];exact h K hK

theorem want_call {ops:Array Oper} {rest:List Oper} {o:Oper} {a:Act} {w:World} {Q:Exit→Act→World→Prop} (hg:Region.wanted o (yielded ops a.tmps)=true) (f:FuncId) (args:Array Value) (hrun:(execOp a.eval o).run Tryz.prog w=.ok (.enter f args) w)
  {R:Ending→World→Prop} (hc:Calls Tryz.prog f args w R) (h:∀ e w',R e w'→∃ v,e=.returned v∧wpList Tryz.prog ops Q rest (a.put o.dst v) w'):wpList Tryz.prog ops Q (o :: rest) a w:=by
 refine want_plain hg fun K hK=>?_
 unfold Oper.wp
 rw [hrun,Oper.upon_enter]
 refine hc.mono fun e w'' hh=>?_
 obtain ⟨v,rfl,h'⟩:=h e w'' hh
 exact hK _ _ h'

theorem want_val {ops:Array Oper} {rest:List Oper} {o:Oper} {a:Act} {w w':World} {Q:Exit→Act→World→Prop} (hg:Region.wanted o (yielded ops a.tmps)=true) (v:Value) (hrun:(execOp a.eval o).run Tryz.prog w=.ok (.value v) w')
  (h:wpList Tryz.prog ops Q rest (a.put o.dst v) w'):wpList Tryz.prog ops Q (o :: rest) a w:=by
 refine want_plain hg fun K hK=>?_
 unfold Oper.wp
 rw [hrun]
 exact hK _ _ h

theorem want_load {ops:Array Oper} {rest:List Oper} {op:Oper} {a:Act} {w:World} {Q:Exit→Act→World→Prop} {b:Nat} {c:Cn} (B:Blk b w (cnCells c)) (hgd:Region.wanted op (yielded ops a.tmps)=true) (x:Operand) (ho:op.op=.load 50 x)
  (hx:a.eval x=.pointer (some ⟨b,0,none⟩)) (h:wpList Tryz.prog ops Q rest (a.put op.dst (.agg (cnCells c))) w):wpList Tryz.prog ops Q (op :: rest) a w:=
 want_plain hgd fun _ hK=>wp_load_mid 50 x ho b 0 hx (cnCells c).toList _ B.range Tryz.underlying50 rfl cn_info (hK _ _ h)

theorem want_big {t:TypeId} {k b:Nat} {w:World} {cs:Array Value} (T:IsBig t k) (hs:cs.size=k) {ops:Array Oper} {rest:List Oper} {op:Oper} {a:Act} {Q:Exit→Act→World→Prop} (B:Blk b w cs) (hgd:Region.wanted op (yielded ops a.tmps)=true) (x:Operand) (ho:op.op=.load t x)
  (hx:a.eval x=.pointer (some ⟨b,0,none⟩)) (h:wpList Tryz.prog ops Q rest (a.put op.dst (.agg cs)) w):wpList Tryz.prog ops Q (op :: rest) a w:=by
 obtain ⟨d,h1,h2⟩:=T.row
 exact want_plain hgd fun _ hK=>wp_load_mid t x ho b 0 hx cs.toList d B.range h1 h2 (by rw [T.size,← hs];simp) (hK _ _ h)

theorem want_skip {ops:Array Oper} {rest:List Oper} {o:Oper} {a:Act} {w:World} {Q:Exit→Act→World→Prop} (hw:Region.wanted o (yielded ops a.tmps)=false)
  (h:wpList Tryz.prog ops Q rest (a.put o.dst undef) w):wpList Tryz.prog ops Q (o :: rest) a w:=wpList_skip hw h

theorem isWithin (n m:Int) (w:World) :
  Calls Tryz.prog 62 #[.int .i64 n,.int .i64 m] w fun e w'=>e=.returned (.bool (decide (0≤n∧n≤m)))∧w=w':=by
 by_cases h1:0≤n
 ·have e1:decide (0≤n∧n≤m)=decide (n≤m):=by simp [h1]
  rw [e1]
  clear e1
  go_enter Tryz.func62,Tryz.ntmps62
  go_wp2
  go_ret
  exact ⟨rfl,rfl⟩
 ·have e1:decide (0≤n∧n≤m)=false:=by simp [h1]
  rw [e1]
  clear e1
  go_enter Tryz.func62,Tryz.ntmps62
  go_wp2
  go_ret
  exact ⟨rfl,rfl⟩

theorem want_cellv {ops:Array Oper} {rest:List Oper} {o:Oper} {a:Act} {w:World} {Q:Exit→Act→World→Prop} (hg:Region.wanted o (yielded ops a.tmps)=true) (ty:TypeId) (x:Operand) (ho:o.op=.load ty x) (ad:Addr) (hx:a.eval x=.pointer (some ad)) (v:Value) (hc:w.cell? ad=some v)
  (ha:(isAgg ty).run Tryz.prog w=.ok false w) (h:wpList Tryz.prog ops Q rest (a.put o.dst v) w):wpList Tryz.prog ops Q (o :: rest) a w:=by
 refine want_val hg v ?_ h
 unfold execOp
 simp [ho,hx,Instr.loadAt,Instr.sureAddr,loadVar,ha,hc]
end Go.Proofs.YtnbopjlpemmkcaaGreat

namespace Go.Proofs.YtnbopjlpemmkcaaGreat
open Go.ChangeShapes Go.WideShapes Go.ChangeAt Go.RowKit
set_option linter.unusedVariables false
set_option maxRecDepth 10000

theorem run_storeOne {b i:Nat} {w:World} {cs:Array Value} {ty:TypeId} {v:Value} (hv:v.oneCell'=true) (hs:(Tryz.prog.info? ty).map (·.size)=some 1) (B:Blk b w cs) (hi:i<cs.size) :
  (storeVar ty ⟨b,i,none⟩ v).run Tryz.prog w=.ok () (w.setCell ⟨b,i,none⟩ v):=by
 have hc:w.cell? ⟨b,i,none⟩=some cs[i]:=by rw [B.cell i];simp [hi]
 have hf:=B.fz i
 cases hq:Tryz.prog.info? ty with
 | none=>simp [hq] at hs
 | some inf=>
  have h1:inf.size=1:=by simpa [hq] using hs
  have hcs:Value.cells v=#[v]:=by cases v<;>first|rfl|(simp [Value.oneCell'] at hv)
  simp [storeVar,sizeOf,typeInfo,hq,h1,hcs,storeCells,Addr.add,run_store _ _ _ _ _ hv,hc,hf]

theorem store_cell {ops:Array Oper} {rest:List Oper} {o:Oper} {a:Act} {w:World} {Q:Exit→Act→World→Prop} {b:Nat} {cs cs':Array Value} (B:Blk b w cs) (hg:o.guard=none) (ty:TypeId) (x y:Operand) (ho:o.op=.store ty x y) (i:Nat) (hx:a.eval x=.pointer (some ⟨b,i,none⟩)) (v:Value) (hy:a.eval y=v)
  (hv:v.oneCell'=true) (hs:(Tryz.prog.info? ty).map (·.size)=some 1) (hi:i<cs.size) (hcs:cs.setIfInBounds i v=cs') (h:∀ z,Touch b w z→Blk b z cs'→wpList Tryz.prog ops Q rest (a.put o.dst undef) z):wpList Tryz.prog ops Q (o :: rest) a w:=by
 have e:=run_storeOne (ty:=ty) hv hs B hi
 refine step_does hg (R:=fun u z=>u=undef∧z=w.setCell ⟨b,i,none⟩ v) ?_ ?_
 ·unfold does execOp
  simp only [ho,hx,hy,Instr.storeAt,Instr.sureAddr,Sem.run_bind,Sem.run_pure,Result.andThen_ok,e]
  exact ⟨rfl,rfl⟩
 ·rintro _ _ ⟨rfl,rfl⟩
  exact h _ ((Touch.refl b w).put i v) (by rw [← hcs];exact B.put i v hi)

theorem load_part {ops:Array Oper} {rest:List Oper} {o:Oper} {a:Act} {w:World} {Q:Exit→Act→World→Prop} {b:Nat} {cs:Array Value} (B:Blk b w cs) (hg:o.guard=none) {t:TypeId} {k:Nat} (T:IsBig t k) (x:Operand) (ho:o.op=.load t x) (i:Nat) (hx:a.eval x=.pointer (some ⟨b,i,none⟩))
  (ps:List Value) (hk:ps.length=k) (hp:∀ j v,ps[j]?=some v→cs[i+j]?=some v) (h:wpList Tryz.prog ops Q rest (a.put o.dst (.agg ps.toArray)) w):wpList Tryz.prog ops Q (o :: rest) a w:=by
 obtain ⟨d,h1,h2⟩:=T.row
 exact wpList_load_mid hg t x ho b i hx ps d (fun j v hv=>by rw [B.cell];exact hp j v hv) h1 h2 (by rw [T.size,hk]) h

def setMany:Array Value→Nat→List Value→Array Value
 | cs,_,[]=>cs
 | cs,o,v :: r=>setMany (cs.setIfInBounds o v) (o+1) r

theorem blk_many {b:Nat}:∀ (vs:List Value) (o:Nat) {w:World} {cs:Array Value},Blk b w cs→o+vs.length≤cs.size→Blk b (w.setCells b o vs) (setMany cs o vs)
 | [],_,_,_,B,_=>B
 | v :: r,o,w,cs,B,h=>by
  rw [World.setCells,setMany]
  simp at h
  exact blk_many r (o+1) (B.put o v (by omega)) (by simp;omega)

theorem store_part {ops:Array Oper} {rest:List Oper} {o:Oper} {a:Act} {w:World} {Q:Exit→Act→World→Prop} {b:Nat} {cs cs':Array Value} (B:Blk b w cs) (hg:o.guard=none) {t:TypeId} {k:Nat} (T:IsBig t k) (x y:Operand) (ho:o.op=.store t x y) (i:Nat) (hx:a.eval x=.pointer (some ⟨b,i,none⟩)) (ps:Array Value) (hy:a.eval y=.agg ps)
  (hk:ps.size=k) (h1:ps.all (·.oneCell')=true) (hi:i+k≤cs.size) (hcs:setMany cs i ps.toList=cs') (h:∀ z,Touch b w z→Blk b z cs'→wpList Tryz.prog ops Q rest (a.put o.dst undef) z):wpList Tryz.prog ops Q (o :: rest) a w:=by
 refine wpList_store_mid hg t x y ho b i ps hx hy ?_ (by rw [T.size,hk]) h1 (h _ (Touch.puts _ i (Touch.refl b w)) ?_)
 ·intro j hj
  rw [B.cell (i+j)]
  exact ⟨by simp;omega,B.fz _⟩
 ·rw [← hcs]
  exact blk_many _ _ B (by simp;omega)

theorem does_part_load {op:Oper} {a:Act} {w:World} {R:Value→World→Prop} {b:Nat} {cs:Array Value} (B:Blk b w cs) {t:TypeId} {k:Nat} (T:IsBig t k) (x:Operand) (ho:op.op=.load t x) (i:Nat) (hx:a.eval x=.pointer (some ⟨b,i,none⟩))
  (ps:List Value) (hk:ps.length=k) (hp:∀ j v,ps[j]?=some v→cs[i+j]?=some v) (h:R (.agg ps.toArray) w):does Tryz.prog op a w R:=by
 obtain ⟨d,h1,h2⟩:=T.row
 have e:=run_loadVar_mid w b i t ps d (fun j v hv=>by rw [B.cell];exact hp j v hv) h1 h2 (by rw [T.size,hk])
 unfold does execOp
 simp only [ho,hx,Instr.loadAt,Instr.sureAddr,Sem.run_bind,Sem.run_pure,Result.andThen_ok,e]
 exact h

theorem does_part_store {op:Oper} {a:Act} {w:World} {R:Value→World→Prop} {b:Nat} {cs cs':Array Value} (B:Blk b w cs) {t:TypeId} {k:Nat} (T:IsBig t k) (x y:Operand) (ho:op.op=.store t x y) (i:Nat) (hx:a.eval x=.pointer (some ⟨b,i,none⟩)) (ps:Array Value) (hy:a.eval y=.agg ps)
  (hk:ps.size=k) (h1:ps.all (·.oneCell')=true) (hi:i+k≤cs.size) (hcs:setMany cs i ps.toList=cs') (h:∀ z,Touch b w z→Blk b z cs'→R undef z):does Tryz.prog op a w R:=by
 have ht:w.there b i ps.size:=by
  intro j hj
  rw [B.cell (i+j)]
  exact ⟨by simp;omega,B.fz _⟩
 have e:=run_storeVar_mid (P:=Tryz.prog) w b i t ps ht (by rw [T.size,hk]) h1
 unfold does execOp
 simp only [ho,hx,hy,Instr.storeAt,Instr.sureAddr,Sem.run_bind,Sem.run_pure,Result.andThen_ok,e]
 exact h _ (Touch.puts _ i (Touch.refl b w)) (by rw [← hcs];exact blk_many _ _ B (by simp;omega))

theorem pOut_big:IsBig 43 3:=⟨⟨_,Tryz.underlying43,rfl⟩,by kernel_rfl⟩

theorem pIn_big:IsBig 46 4:=⟨⟨_,Tryz.underlying46,rfl⟩,by kernel_rfl⟩
end Go.Proofs.YtnbopjlpemmkcaaGreat
