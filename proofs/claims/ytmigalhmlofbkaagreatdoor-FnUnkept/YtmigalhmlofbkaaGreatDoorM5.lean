/- A part of the proof. -/
import Derived.Test.YtmigalhmlofbkaaGreatDoorM1
import Derived.Deep.MidRow
set_option linter.unusedVariables false
set_option maxRecDepth 10000
namespace Go.Proofs.YtmigalhmlofbkaaGreatDoor
open Go.ChangeShapes Go.WideShapes Go.ChangeAt Go.RowKit
structure IsBig (t:TypeId) (k:Nat):Prop where
 row:∃ d:TypeDesc,Tryz.prog.underlying t=some d∧d.isRow=true
 size:(Tryz.prog.info? t).map (·.size)=some k
theorem Blk.range {b:Nat} {w:World} {cs:Array Value} (B:Blk b w cs):w.rangeAt b 0 cs.toList:=fun j v hv=>by
 rw [Nat.zero_add,B.cell j]
 simpa using hv
theorem Blk.there {b:Nat} {w:World} {cs:Array Value} (B:Blk b w cs):w.there b 0 cs.size:=fun j hj=>by
 rw [Nat.zero_add,B.cell j]
 exact ⟨by simp [hj],B.fz j⟩
theorem Touch.puts {g:Nat}:∀ (vs:List Value) (o:Nat) {x y:World},Touch g x y→Touch g x (y.setCells g o vs)
 | [],_,_,_,h=>h
 | v :: r,o,x,y,h=>by
  rw [World.setCells]
  exact Touch.puts r (o+1) (h.put o v)
theorem blk_puts {b:Nat} {w:World} {cs cs':Array Value} (B:Blk b w cs) (hs:cs'.size=cs.size):Blk b (w.setCells b 0 cs'.toList) cs':=by
 have t:=Touch.puts (g:=b) cs'.toList 0 (Touch.refl b w)
 have th:w.there b 0 cs'.toList.length:=by
  have:=B.there
  rw [← hs] at this
  simpa using this
 refine ⟨Nat.lt_of_lt_of_le B.lt t.size,fun i=>?_,fun i=>?_⟩
 ·rw [World.frozen?_setCells]
  exact B.fz i
 ·by_cases hi:i<cs'.size
  ·have:=World.rangeAt_setCells_same w b 0 cs'.toList th i cs'[i] (by simp [hi])
   rw [Nat.zero_add] at this
   rw [this]
   simp [hi]
  ·rw [World.cell?_setCells_out b cs'.toList 0 w ⟨b,i,none⟩ (fun _ _=>by right;simp;omega),B.cell i,Array.getElem?_eq_none (by omega),Array.getElem?_eq_none (by omega)]
section
variable {t:TypeId} {k:Nat} {cs cs':Array Value} {b:Nat} {w:World}
theorem load_big (T:IsBig t k) (hs:cs.size=k) {ops:Array Oper} {rest:List Oper} {op:Oper} {a:Act} {Q:Exit→Act→World→Prop} (B:Blk b w cs) (hgd:op.guard=none) (x:Operand) (ho:op.op=.load t x)
  (hx:a.eval x=.pointer (some ⟨b,0,none⟩)) (h:wpList Tryz.prog ops Q rest (a.put op.dst (.agg cs)) w):wpList Tryz.prog ops Q (op :: rest) a w:=by
 obtain ⟨d,h1,h2⟩:=T.row
 exact wpList_load_mid hgd t x ho b 0 hx cs.toList d B.range h1 h2 (by rw [T.size,← hs];simp) h
theorem store_big (T:IsBig t k) (hs:cs.size=k) (hs':cs'.size=k) (h1:cs.all (·.oneCell')=true) {ops:Array Oper} {rest:List Oper} {op:Oper} {a:Act} {Q:Exit→Act→World→Prop} (B:Blk b w cs') (hgd:op.guard=none) (x y:Operand) (ho:op.op=.store t x y)
  (hx:a.eval x=.pointer (some ⟨b,0,none⟩)) (hy:a.eval y=.agg cs) (h:∀ z,Touch b w z→Blk b z cs→wpList Tryz.prog ops Q rest (a.put op.dst undef) z):wpList Tryz.prog ops Q (op :: rest) a w:=
 wpList_store_mid hgd t x y ho b 0 cs hx hy (by have:=B.there;rwa [hs',← hs] at this) (by rw [T.size,hs]) h1 (h _ (Touch.puts _ 0 (Touch.refl b w)) (blk_puts B (by rw [hs,hs'])))
theorem var_big (T:IsBig t k) (hs:cs.size=k) (B:Blk b w cs):(loadVar t ⟨b,0,none⟩).run Tryz.prog w=.ok (.agg cs) w:=by
 obtain ⟨d,h1,h2⟩:=T.row
 exact run_loadVar_mid w b 0 t cs.toList d B.range h1 h2 (by rw [T.size,← hs];simp)
theorem results_big (T:IsBig t k) (hs:cs.size=k) {fn:Func} {u:Tmp} (h:fn.results=#[.cell u t]) (tmps:Array Value) (hp:tmps.getD u undef=.pointer (some ⟨b,0,none⟩)) (B:Blk b w cs):(results fn tmps).run Tryz.prog w=.ok (.agg cs) w:=by
 have e:=var_big T hs B
 have hq:tmps[u]?.getD undef=.pointer (some ⟨b,0,none⟩):=by simpa using hp
 simp [results,h,hq,asAddr,e]
theorem does_load (T:IsBig t k) (hs:cs.size=k) {op:Oper} {a:Act} {R:Value→World→Prop} (B:Blk b w cs) (x:Operand) (ho:op.op=.load t x)
  (hx:a.eval x=.pointer (some ⟨b,0,none⟩)) (h:R (.agg cs) w):does Tryz.prog op a w R:=by
 have e:=var_big T hs B
 unfold does execOp
 simp only [ho,hx,Instr.loadAt,Instr.sureAddr,Sem.run_bind,Sem.run_pure,Result.andThen_ok,e]
 exact h
theorem does_store (T:IsBig t k) (hs:cs.size=k) (hr:Raw b k w) (h1:cs.all (·.oneCell')=true) {op:Oper} {a:Act} {R:Value→World→Prop} (x y:Operand) (ho:op.op=.store t x y)
  (hx:a.eval x=.pointer (some ⟨b,0,none⟩)) (hy:a.eval y=.agg cs) (h:∀ z,Touch b w z→Blk b z cs→R undef z):does Tryz.prog op a w R:=by
 obtain ⟨c0,e0,B⟩:=hr
 have ht:w.there b 0 cs.size:=by have:=B.there;rwa [e0,← hs] at this
 have e:=run_storeVar_mid (P:=Tryz.prog) w b 0 t cs ht (by rw [T.size,hs]) h1
 unfold does execOp
 simp only [ho,hx,hy,Instr.storeAt,Instr.sureAddr,Sem.run_bind,Sem.run_pure,Result.andThen_ok,e]
 exact h _ (Touch.puts _ 0 (Touch.refl b w)) (blk_puts B (by rw [hs,e0]))
end
def BoxB (B k:Nat) (x:World) (v:Value):Prop:=∃ g,v=.pointer (some ⟨g,0,none⟩)∧B≤g∧Raw g k x
theorem Raw.since {g k:Nat} {x y:World} (h:Raw g k x) (s:Since x y):Raw g k y:=by
 obtain ⟨cs,e,b⟩:=h
 exact ⟨cs,e,b.since s⟩
theorem BoxB.since {B k:Nat} {x y:World} {v:Value} (h:BoxB B k x v) (s:Since x y):BoxB B k y v:=by
 obtain ⟨g,e,l,r⟩:=h
 exact ⟨g,e,l,r.since s⟩
theorem BoxB.new {B k:Nat} (x:World) (cs:Array Value) (t:TypeId) (h:B≤x.heap.size) (hs:cs.size=k):BoxB B k (x.alloc (.cells cs t)) (.pointer (some ⟨x.heap.size,0,none⟩)):=⟨_,rfl,h,cs,hs,Blk.new x cs t⟩
theorem BoxB.stored {B k g:Nat} {x y:World} {v:Value} {cs:Array Value} (h:BoxB B k x v) (s:Touch g x y) (b:Blk g y cs) (hs:cs.size=k):BoxB B k y v:=by
 obtain ⟨g',e,l,c0,e0,b0⟩:=h
 by_cases hg:g'=g
 ·subst hg
  exact ⟨_,e,l,cs,hs,b⟩
 ·exact ⟨g',e,l,c0,e0,b0.touch s hg⟩
theorem Raw.of {g k:Nat} {x:World} {cs:Array Value} (b:Blk g x cs) (hs:cs.size=k):Raw g k x:=⟨cs,hs,b⟩
theorem keep_of {g:Nat} {fin:Array Value} {x y:World} (s:Touch g x y) (b:Blk g y fin):KeepB g fin x y:=⟨s,fun _=>b,fun _=>⟨fin,rfl,b⟩⟩
structure Cn where
 st:Int
 iss:Int
 una:Int
 nxt:Int
 mx:Int
 wnd:Int
 wsq:Int
 wak:Int
 oF:Int
 oD:ByteArray
 oR:Int
 iN:Int
 iD:ByteArray
 pa:Option Addr
 pn:Nat
 pc:Nat
 iR:Int
 fin:Bool
 fsn:Bool
 fsq:Int
 gfn:Bool
 rA:Bool
 rS:Int
 rV:Int
 rD:Int
 cX:Int
 cT:Int
 cD:Int
 cF:Bool
 cR:Int
 tmg:Bool
 tsq:Int
 tat:Int
 agn:Int
 prb:Int
 rst:Int
 trs:Int
 why:Int
 owe:Bool
def cnCells (c:Cn):Array Value:=#[.int .i64 c.st,.int .u32 c.iss,.int .u32 c.una,.int .u32 c.nxt,.int .u32 c.mx,.int .i64 c.wnd,.int .u32 c.wsq,.int .u32 c.wak,.int .u32 c.oF,.string c.oD,.int .i64 c.oR,.int .u32 c.iN,.string c.iD,.slice c.pa c.pn c.pc,.int .i64 c.iR,.bool c.fin,.bool c.fsn,.int .u32 c.fsq,.bool c.gfn,.bool c.rA,.int .i64 c.rS,.int .i64 c.rV,.int .i64 c.rD,.int .i64 c.cX,.int .i64 c.cT,.int .i64 c.cD,.bool c.cF,.int .u32 c.cR,.bool c.tmg,.int .u32 c.tsq,.int .i64 c.tat,.int .i64 c.agn,.int .i64 c.prb,.int .i64 c.rst,.int .i64 c.trs,.int .i64 c.why,.bool c.owe]
def cnVal (c:Cn):Value:=.agg (cnCells c)
def cnZero:Cn:=⟨0,0,0,0,0,0,0,0,0,ByteArray.empty,0,0,ByteArray.empty,none,0,0,0,false,false,0,false,false,0,0,0,0,0,0,false,0,false,0,0,0,0,0,0,0,false⟩
theorem cn_size (c:Cn):(cnCells c).size=37:=rfl
theorem cn_one (c:Cn):(cnCells c).all (·.oneCell')=true:=by
 rw [Array.all_eq_true_iff_forall_mem]
 intro v hv
 simp only [cnCells,List.mem_toArray,List.mem_cons,List.not_mem_nil,or_false] at hv
 rcases hv with h|h|h|h|h|h|h|h|h|h|h|h|h|h|h|h|h|h|h|h|h|h|h|h|h|h|h|h|h|h|h|h|h|h|h|h|h<;>rw [h]<;>rfl
theorem cn_info:(Tryz.prog.info? 39).map (·.size)=some 37:=by kernel_rfl
theorem cn_big:IsBig 39 37:=⟨⟨_,Tryz.underlying39,rfl⟩,cn_info⟩
theorem load_cn {ops:Array Oper} {rest:List Oper} {op:Oper} {a:Act} {w:World} {Q:Exit→Act→World→Prop} {b:Nat} {c:Cn} (B:Blk b w (cnCells c)) (hgd:op.guard=none) (x:Operand) (ho:op.op=.load 39 x)
  (hx:a.eval x=.pointer (some ⟨b,0,none⟩)) (h:wpList Tryz.prog ops Q rest (a.put op.dst (.agg (cnCells c))) w):wpList Tryz.prog ops Q (op :: rest) a w:=
 wpList_load_mid hgd 39 x ho b 0 hx (cnCells c).toList _ B.range Tryz.underlying39 rfl cn_info h
theorem store_cn {ops:Array Oper} {rest:List Oper} {op:Oper} {a:Act} {w:World} {Q:Exit→Act→World→Prop} {b:Nat} {c c':Cn} (B:Blk b w (cnCells c')) (hgd:op.guard=none) (x y:Operand) (ho:op.op=.store 39 x y)
  (hx:a.eval x=.pointer (some ⟨b,0,none⟩)) (hy:a.eval y=.agg (cnCells c)) (h:∀ z,Touch b w z→Blk b z (cnCells c)→wpList Tryz.prog ops Q rest (a.put op.dst undef) z):wpList Tryz.prog ops Q (op :: rest) a w:=
 wpList_store_mid hgd 39 x y ho b 0 (cnCells c) hx hy (by have:=B.there;rwa [cn_size c'] at this) (by rw [cn_info,cn_size]) (cn_one c) (h _ (Touch.puts _ 0 (Touch.refl b w)) (blk_puts B (by rw [cn_size,cn_size])))
theorem ret_cn {b:Nat} {w:World} {c:Cn} (B:Blk b w (cnCells c)):(loadVar 39 ⟨b,0,none⟩).run Tryz.prog w=.ok (.agg (cnCells c)) w:=
 run_loadVar_mid w b 0 39 (cnCells c).toList _ B.range Tryz.underlying39 rfl cn_info
theorem results_cn {fn:Func} {t:Tmp} {b:Nat} {w:World} {c:Cn} (h:fn.results=#[.cell t 39]) (tmps:Array Value) (hp:tmps.getD t undef=.pointer (some ⟨b,0,none⟩)) (B:Blk b w (cnCells c)):(results fn tmps).run Tryz.prog w=.ok (.agg (cnCells c)) w:=by
 have e:=ret_cn B
 have hq:tmps[t]?.getD undef=.pointer (some ⟨b,0,none⟩):=by simpa using hp
 simp [results,h,hq,asAddr,e]
theorem results_cn2 {fn:Func} {t u:Tmp} {b:Nat} {w:World} {c:Cn} (h:fn.results=#[.cell t 39,.tmp u]) (tmps:Array Value) (hp:tmps.getD t undef=.pointer (some ⟨b,0,none⟩)) (B:Blk b w (cnCells c)):(results fn tmps).run Tryz.prog w=.ok (.tuple #[.agg (cnCells c),tmps.getD u undef]) w:=by
 have e:=ret_cn B
 have hq:tmps[t]?.getD undef=.pointer (some ⟨b,0,none⟩):=by simpa using hp
 simp [results,h,hq,asAddr,e]
theorem cn_zero:#[.int .i64 0,.int .u32 0,.int .u32 0,.int .u32 0,.int .u32 0,.int .i64 0,.int .u32 0,.int .u32 0,.int .u32 0,.string ⟨#[]⟩,.int .i64 0,.int .u32 0,.string ⟨#[]⟩,.slice none 0 0,.int .i64 0,.bool false,.bool false,.int .u32 0,.bool false,.bool false,.int .i64 0,.int .i64 0,.int .i64 0,.int .i64 0,.int .i64 0,.int .i64 0,.bool false,.int .u32 0,.bool false,.int .u32 0,.int .i64 0,.int .i64 0,.int .i64 0,.int .i64 0,.int .i64 0,.int .i64 0,.bool false]=cnCells cnZero:=rfl
theorem put_cn {b:Nat} {x:World} {c c':Cn} (B:Blk b x (cnCells c)) (i:Nat) (v:Value) (hi:i<37) (h:(cnCells c).setIfInBounds i v=cnCells c') :
  ∃ y,x.setCell ⟨b,i,none⟩ v=y∧Touch b x y∧Blk b y (cnCells c'):=by
 refine ⟨_,rfl,(Touch.refl b x).put i v,?_⟩
 have:=B.put i v (by rw [cn_size];exact hi)
 rwa [h] at this
theorem call_step {ops:Array Oper} {rest:List Oper} {o:Oper} {a:Act} {w:World} {Q:Exit→Act→World→Prop} (hg:o.guard=none) (f:FuncId) (args:Array Value) (hrun:(execOp a.eval o).run Tryz.prog w=.ok (.enter f args) w)
  {R:Ending→World→Prop} (hc:Calls Tryz.prog f args w R) (h:∀ e w',R e w'→∃ v,e=.returned v∧wpList Tryz.prog ops Q rest (a.put o.dst v) w'):wpList Tryz.prog ops Q (o :: rest) a w:=by
 refine wpList_plain hg fun K hK=>?_
 unfold Oper.wp
 rw [hrun,Oper.upon_enter]
 refine hc.mono fun e w'' hh=>?_
 obtain ⟨v,rfl,h'⟩:=h e w'' hh
 exact hK _ _ h'
theorem move_step {ops:Array Oper} {rest:List Oper} {o:Oper} {a:Act} {w:World} {Q:Exit→Act→World→Prop} (hg:o.guard=none) (x:Operand) (ho:o.op=.move x)
  (h:wpList Tryz.prog ops Q rest (a.put o.dst (a.eval x)) w):wpList Tryz.prog ops Q (o :: rest) a w:=by
 refine wpList_plain hg fun K hK=>?_
 unfold Oper.wp execOp
 simp only [ho]
 exact hK _ _ h
theorem step_val {ops:Array Oper} {rest:List Oper} {o:Oper} {a:Act} {w w':World} {Q:Exit→Act→World→Prop} (hg:o.guard=none) (v:Value) (hrun:(execOp a.eval o).run Tryz.prog w=.ok (.value v) w')
  (h:wpList Tryz.prog ops Q rest (a.put o.dst v) w'):wpList Tryz.prog ops Q (o :: rest) a w:=by
 refine wpList_plain hg fun K hK=>?_
 unfold Oper.wp
 rw [hrun]
 exact hK _ _ h
theorem step_does {ops:Array Oper} {rest:List Oper} {o:Oper} {a:Act} {w:World} {Q:Exit→Act→World→Prop} (hg:o.guard=none) {R:Value→World→Prop} (hd:does Tryz.prog o a w R)
  (h:∀ v w',R v w'→wpList Tryz.prog ops Q rest (a.put o.dst v) w'):wpList Tryz.prog ops Q (o :: rest) a w:=by
 refine wpList_plain hg fun K hK=>?_
 unfold does at hd
 unfold Oper.wp
 generalize (execOp a.eval o).run Tryz.prog w=r at hd
 cases r with
 | ok n w'=>
  cases n<;>simp only [doesUpon] at hd<;>simp only [Oper.upon]
  case value u=>exact hK _ _ (h u w' hd)
  case skip=>exact hK _ _ (h undef w' hd)
  case enter f args=>exact hd.mono fun e w'' ⟨v,he,h1⟩=>by subst he;exact hK _ _ (h v w'' h1)
 | halt x w'=>simp only [doesUpon] at hd
theorem text_empty {d:ByteArray} (h:¬ d=ByteArray.empty):(d.toList == [])=false:=by
 rw [beq_eq_false_iff_ne]
 intro e
 rw [ByteArray.toList_eq] at e
 refine h ?_
 obtain ⟨⟨l⟩⟩:=d
 simp at e
 subst e
 rfl
theorem want_plain {ops:Array Oper} {rest:List Oper} {o:Oper} {a:Act} {w:World} {Q:Exit→Act→World→Prop} (hw:Region.wanted o (yielded ops a.tmps)=true)
  (h:∀ K:Act→World→Prop,(∀ a w,wpList Tryz.prog ops Q rest a w→K a w)→o.wp Tryz.prog a w K Q):wpList Tryz.prog ops Q (o :: rest) a w:=
 wpList_step fun K hK=>by simp only [hw,if_true];exact h K hK
theorem want_call {ops:Array Oper} {rest:List Oper} {o:Oper} {a:Act} {w:World} {Q:Exit→Act→World→Prop} (hg:Region.wanted o (yielded ops a.tmps)=true) (f:FuncId) (args:Array Value) (hrun:(execOp a.eval o).run Tryz.prog w=.ok (.enter f args) w)
  {R:Ending→World→Prop} (hc:Calls Tryz.prog f args w R) (h:∀ e w',R e w'→∃ v,e=.returned v∧wpList Tryz.prog ops Q rest (a.put o.dst v) w'):wpList Tryz.prog ops Q (o :: rest) a w:=by
 refine want_plain hg fun K hK=>?_
 unfold Oper.wp
 rw [hrun,Oper.upon_enter]
 refine hc.mono fun e w'' hh=>?_
 obtain ⟨v,rfl,h'⟩:=h e w'' hh
 exact hK _ _ h'
theorem want_val {ops:Array Oper} {rest:List Oper} {o:Oper} {a:Act} {w w':World} {Q:Exit→Act→World→Prop} (hg:Region.wanted o (yielded ops a.tmps)=true) (v:Value) (hrun:(execOp a.eval o).run Tryz.prog w=.ok (.value v) w')
  (h:wpList Tryz.prog ops Q rest (a.put o.dst v) w'):wpList Tryz.prog ops Q (o :: rest) a w:=by
 refine want_plain hg fun K hK=>?_
 unfold Oper.wp
 rw [hrun]
 exact hK _ _ h
theorem want_load {ops:Array Oper} {rest:List Oper} {op:Oper} {a:Act} {w:World} {Q:Exit→Act→World→Prop} {b:Nat} {c:Cn} (B:Blk b w (cnCells c)) (hgd:Region.wanted op (yielded ops a.tmps)=true) (x:Operand) (ho:op.op=.load 39 x)
  (hx:a.eval x=.pointer (some ⟨b,0,none⟩)) (h:wpList Tryz.prog ops Q rest (a.put op.dst (.agg (cnCells c))) w):wpList Tryz.prog ops Q (op :: rest) a w:=
 want_plain hgd fun _ hK=>wp_load_mid 39 x ho b 0 hx (cnCells c).toList _ B.range Tryz.underlying39 rfl cn_info (hK _ _ h)
theorem want_big {t:TypeId} {k b:Nat} {w:World} {cs:Array Value} (T:IsBig t k) (hs:cs.size=k) {ops:Array Oper} {rest:List Oper} {op:Oper} {a:Act} {Q:Exit→Act→World→Prop} (B:Blk b w cs) (hgd:Region.wanted op (yielded ops a.tmps)=true) (x:Operand) (ho:op.op=.load t x)
  (hx:a.eval x=.pointer (some ⟨b,0,none⟩)) (h:wpList Tryz.prog ops Q rest (a.put op.dst (.agg cs)) w):wpList Tryz.prog ops Q (op :: rest) a w:=by
 obtain ⟨d,h1,h2⟩:=T.row
 exact want_plain hgd fun _ hK=>wp_load_mid t x ho b 0 hx cs.toList d B.range h1 h2 (by rw [T.size,← hs];simp) (hK _ _ h)
theorem want_skip {ops:Array Oper} {rest:List Oper} {o:Oper} {a:Act} {w:World} {Q:Exit→Act→World→Prop} (hw:Region.wanted o (yielded ops a.tmps)=false)
  (h:wpList Tryz.prog ops Q rest (a.put o.dst undef) w):wpList Tryz.prog ops Q (o :: rest) a w:=wpList_skip hw h
theorem isWithin (n m:Int) (w:World) :
  Calls Tryz.prog 40 #[.int .i64 n,.int .i64 m] w fun e w'=>e=.returned (.bool (decide (0≤n∧n≤m)))∧w=w':=by
 by_cases h1:0≤n
 ·have e1:decide (0≤n∧n≤m)=decide (n≤m):=by simp [h1]
  rw [e1]
  clear e1
  go_enter Tryz.func40,Tryz.ntmps40
  go_wp2
  go_ret
  exact ⟨rfl,rfl⟩
 ·have e1:decide (0≤n∧n≤m)=false:=by simp [h1]
  rw [e1]
  clear e1
  go_enter Tryz.func40,Tryz.ntmps40
  go_wp2
  go_ret
  exact ⟨rfl,rfl⟩
theorem load_cell {ops:Array Oper} {rest:List Oper} {o:Oper} {a:Act} {w:World} {Q:Exit→Act→World→Prop} (hg:o.guard=none) (ty:TypeId) (x:Operand) (ho:o.op=.load ty x) (ad:Addr) (hx:a.eval x=.pointer (some ad)) (v:Value) (hc:w.cell? ad=some v)
  (ha:(isAgg ty).run Tryz.prog w=.ok false w) (h:wpList Tryz.prog ops Q rest (a.put o.dst v) w):wpList Tryz.prog ops Q (o :: rest) a w:=by
 refine step_val hg v ?_ h
 unfold execOp
 simp [ho,hx,Instr.loadAt,Instr.sureAddr,loadVar,ha,hc]
theorem want_cellv {ops:Array Oper} {rest:List Oper} {o:Oper} {a:Act} {w:World} {Q:Exit→Act→World→Prop} (hg:Region.wanted o (yielded ops a.tmps)=true) (ty:TypeId) (x:Operand) (ho:o.op=.load ty x) (ad:Addr) (hx:a.eval x=.pointer (some ad)) (v:Value) (hc:w.cell? ad=some v)
  (ha:(isAgg ty).run Tryz.prog w=.ok false w) (h:wpList Tryz.prog ops Q rest (a.put o.dst v) w):wpList Tryz.prog ops Q (o :: rest) a w:=by
 refine want_val hg v ?_ h
 unfold execOp
 simp [ho,hx,Instr.loadAt,Instr.sureAddr,loadVar,ha,hc]
theorem run_storeOne {b i:Nat} {w:World} {cs:Array Value} {ty:TypeId} {v:Value} (hv:v.oneCell'=true) (hs:(Tryz.prog.info? ty).map (·.size)=some 1) (B:Blk b w cs) (hi:i<cs.size) :
  (storeVar ty ⟨b,i,none⟩ v).run Tryz.prog w=.ok () (w.setCell ⟨b,i,none⟩ v):=by
 have hc:w.cell? ⟨b,i,none⟩=some cs[i]:=by rw [B.cell i];simp [hi]
 have hf:=B.fz i
 cases hq:Tryz.prog.info? ty with
 | none=>simp [hq] at hs
 | some inf=>
  have h1:inf.size=1:=by simpa [hq] using hs
  have hcs:Value.cells v=#[v]:=by cases v<;>first|rfl|(simp [Value.oneCell'] at hv)
  simp [storeVar,sizeOf,typeInfo,hq,h1,hcs,storeCells,Addr.add,run_store _ _ _ _ _ hv,hc,hf]
theorem store_cell {ops:Array Oper} {rest:List Oper} {o:Oper} {a:Act} {w:World} {Q:Exit→Act→World→Prop} {b:Nat} {cs cs':Array Value} (B:Blk b w cs) (hg:o.guard=none) (ty:TypeId) (x y:Operand) (ho:o.op=.store ty x y) (i:Nat) (hx:a.eval x=.pointer (some ⟨b,i,none⟩)) (v:Value) (hy:a.eval y=v)
  (hv:v.oneCell'=true) (hs:(Tryz.prog.info? ty).map (·.size)=some 1) (hi:i<cs.size) (hcs:cs.setIfInBounds i v=cs') (h:∀ z,Touch b w z→Blk b z cs'→wpList Tryz.prog ops Q rest (a.put o.dst undef) z):wpList Tryz.prog ops Q (o :: rest) a w:=by
 have e:=run_storeOne (ty:=ty) hv hs B hi
 refine step_does hg (R:=fun u z=>u=undef∧z=w.setCell ⟨b,i,none⟩ v) ?_ ?_
 ·unfold does execOp
  simp only [ho,hx,hy,Instr.storeAt,Instr.sureAddr,Sem.run_bind,Sem.run_pure,Result.andThen_ok,e]
  exact ⟨rfl,rfl⟩
 ·rintro _ _ ⟨rfl,rfl⟩
  exact h _ ((Touch.refl b w).put i v) (by rw [← hcs];exact B.put i v hi)
def setMany:Array Value→Nat→List Value→Array Value
 | cs,_,[]=>cs
 | cs,o,v :: r=>setMany (cs.setIfInBounds o v) (o+1) r
theorem blk_many {b:Nat}:∀ (vs:List Value) (o:Nat) {w:World} {cs:Array Value},Blk b w cs→o+vs.length≤cs.size→Blk b (w.setCells b o vs) (setMany cs o vs)
 | [],_,_,_,B,_=>B
 | v :: r,o,w,cs,B,h=>by
  rw [World.setCells,setMany]
  simp at h
  exact blk_many r (o+1) (B.put o v (by omega)) (by simp;omega)
theorem store_part {ops:Array Oper} {rest:List Oper} {o:Oper} {a:Act} {w:World} {Q:Exit→Act→World→Prop} {b:Nat} {cs cs':Array Value} (B:Blk b w cs) (hg:o.guard=none) {t:TypeId} {k:Nat} (T:IsBig t k) (x y:Operand) (ho:o.op=.store t x y) (i:Nat) (hx:a.eval x=.pointer (some ⟨b,i,none⟩)) (ps:Array Value) (hy:a.eval y=.agg ps)
  (hk:ps.size=k) (h1:ps.all (·.oneCell')=true) (hi:i+k≤cs.size) (hcs:setMany cs i ps.toList=cs') (h:∀ z,Touch b w z→Blk b z cs'→wpList Tryz.prog ops Q rest (a.put o.dst undef) z):wpList Tryz.prog ops Q (o :: rest) a w:=by
 refine wpList_store_mid hg t x y ho b i ps hx hy ?_ (by rw [T.size,hk]) h1 (h _ (Touch.puts _ i (Touch.refl b w)) ?_)
 ·intro j hj
  rw [B.cell (i+j)]
  exact ⟨by simp;omega,B.fz _⟩
 ·rw [← hcs]
  exact blk_many _ _ B (by simp;omega)
theorem does_part_load {op:Oper} {a:Act} {w:World} {R:Value→World→Prop} {b:Nat} {cs:Array Value} (B:Blk b w cs) {t:TypeId} {k:Nat} (T:IsBig t k) (x:Operand) (ho:op.op=.load t x) (i:Nat) (hx:a.eval x=.pointer (some ⟨b,i,none⟩))
  (ps:List Value) (hk:ps.length=k) (hp:∀ j v,ps[j]?=some v→cs[i+j]?=some v) (h:R (.agg ps.toArray) w):does Tryz.prog op a w R:=by
 obtain ⟨d,h1,h2⟩:=T.row
 have e:=run_loadVar_mid w b i t ps d (fun j v hv=>by rw [B.cell];exact hp j v hv) h1 h2 (by rw [T.size,hk])
 unfold does execOp
 simp only [ho,hx,Instr.loadAt,Instr.sureAddr,Sem.run_bind,Sem.run_pure,Result.andThen_ok,e]
 exact h
theorem does_part_store {op:Oper} {a:Act} {w:World} {R:Value→World→Prop} {b:Nat} {cs cs':Array Value} (B:Blk b w cs) {t:TypeId} {k:Nat} (T:IsBig t k) (x y:Operand) (ho:op.op=.store t x y) (i:Nat) (hx:a.eval x=.pointer (some ⟨b,i,none⟩)) (ps:Array Value) (hy:a.eval y=.agg ps)
  (hk:ps.size=k) (h1:ps.all (·.oneCell')=true) (hi:i+k≤cs.size) (hcs:setMany cs i ps.toList=cs') (h:∀ z,Touch b w z→Blk b z cs'→R undef z):does Tryz.prog op a w R:=by
 have ht:w.there b i ps.size:=by
  intro j hj
  rw [B.cell (i+j)]
  exact ⟨by simp;omega,B.fz _⟩
 have e:=run_storeVar_mid (P:=Tryz.prog) w b i t ps ht (by rw [T.size,hk]) h1
 unfold does execOp
 simp only [ho,hx,hy,Instr.storeAt,Instr.sureAddr,Sem.run_bind,Sem.run_pure,Result.andThen_ok,e]
 exact h _ (Touch.puts _ i (Touch.refl b w)) (by rw [← hcs];exact blk_many _ _ B (by simp;omega))
theorem pOut_big:IsBig 30 3:=⟨⟨_,Tryz.underlying30,rfl⟩,by kernel_rfl⟩
theorem pIn_big:IsBig 33 4:=⟨⟨_,Tryz.underlying33,rfl⟩,by kernel_rfl⟩
theorem pRtt_big:IsBig 35 4:=⟨⟨_,Tryz.underlying35,rfl⟩,by kernel_rfl⟩
theorem pCong_big:IsBig 37 5:=⟨⟨_,Tryz.underlying37,rfl⟩,by kernel_rfl⟩
theorem want_part {ops:Array Oper} {rest:List Oper} {o:Oper} {a:Act} {w:World} {Q:Exit→Act→World→Prop} {b:Nat} {cs:Array Value} (B:Blk b w cs) (hg:Region.wanted o (yielded ops a.tmps)=true) {t:TypeId} {k:Nat} (T:IsBig t k) (x:Operand) (ho:o.op=.load t x) (i:Nat) (hx:a.eval x=.pointer (some ⟨b,i,none⟩))
  (ps:List Value) (hk:ps.length=k) (hp:∀ j v,ps[j]?=some v→cs[i+j]?=some v) (h:wpList Tryz.prog ops Q rest (a.put o.dst (.agg ps.toArray)) w):wpList Tryz.prog ops Q (o :: rest) a w:=by
 obtain ⟨d,h1,h2⟩:=T.row
 exact want_plain hg fun _ hK=>wp_load_mid t x ho b i hx ps d (fun j v hv=>by rw [B.cell];exact hp j v hv) h1 h2 (by rw [T.size,hk]) (hK _ _ h)
end Go.Proofs.YtmigalhmlofbkaaGreatDoor
