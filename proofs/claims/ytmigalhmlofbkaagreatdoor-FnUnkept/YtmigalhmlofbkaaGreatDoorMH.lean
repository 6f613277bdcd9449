/- A part of the proof. -/
import Derived.Test.YtmigalhmlofbkaaGreatDoorConnS1
import Derived.Test.YtmigalhmlofbkaaGreatDoorMQ
import Derived.Test.YtmigalhmlofbkaaGreatDoorMA
set_option linter.unusedVariables false
set_option maxRecDepth 10000
namespace Go.Proofs.YtmigalhmlofbkaaGreatDoor
open Go.ChangeShapes Go.WideShapes Go.ChangeAt Go.RowKit Go.Deep
def arrCells (d:Cn) (s:Sg) (now:Int) (sv:Value):Array Value:=#[.int .i64 d.st,.int .u32 d.iss,.int .u32 d.una,.int .u32 d.nxt,.int .u32 d.mx,.int .i64 d.wnd,.int .u32 d.wsq,.int .u32 d.wak,.int .u32 d.oF,.string d.oD,.int .i64 d.oR,.int .u32 d.iN,.string d.iD,.slice d.pa d.pn d.pc,.int .i64 d.iR,.bool d.fin,.bool d.fsn,.int .u32 d.fsq,.bool d.gfn,.bool d.rA,.int .i64 d.rS,.int .i64 d.rV,.int .i64 d.rD,.int .i64 d.cX,.int .i64 d.cT,.int .i64 d.cD,.bool d.cF,.int .u32 d.cR,.bool d.tmg,.int .u32 d.tsq,.int .i64 d.tat,.int .i64 d.agn,.int .i64 d.prb,.int .i64 d.rst,.int .i64 d.trs,.int .i64 d.why,.bool d.owe,.int .i64 s.fr,.int .i64 s.tt,.int .u32 s.sq,.int .u32 s.ak,.int .i64 s.fl,.int .i64 s.wn,.int .i64 s.ms,.string s.d,.int .i64 now,sv]
theorem arr_is (d:Cn) (s:Sg) (now:Int) (sv:Value):arrCells d s now sv=cnCells d++(sgCells s++#[.int .i64 now,sv]):=rfl
theorem arr_size (d:Cn) (s:Sg) (now:Int) (sv:Value):(arrCells d s now sv).size=47:=rfl
theorem arr_end (d:Cn) (s:Sg) (now:Int) (sv:Value) (j:Nat) (v:Value) (h:(cnCells d).toList[j]?=some v):(arrCells d s now sv)[0+j]?=some v:=by
 have hj:j<(cnCells d).toList.length:=(List.getElem?_eq_some_iff.1 h).1
 rw [arr_is,Nat.zero_add,Array.getElem?_append_left (by simpa using hj)]
 simpa using h
theorem arr_seg (d:Cn) (s:Sg) (now:Int) (sv:Value) (j:Nat) (v:Value) (h:(sgCells s).toList[j]?=some v):(arrCells d s now sv)[37+j]?=some v:=by
 match j,h with
 | 0,h=>exact h
 | 1,h=>exact h
 | 2,h=>exact h
 | 3,h=>exact h
 | 4,h=>exact h
 | 5,h=>exact h
 | 6,h=>exact h
 | 7,h=>exact h
 | n+8,h=>exact absurd h (by simp [sgCells])
section
variable {ops:Array Oper} {rest:List Oper} {o:Oper} {a:Act} {w:World} {Q:Exit→Act→World→Prop} {b:Nat} {d:Cn} {s:Sg} {now:Int} {sv:Value}
theorem want_aend (B:Blk b w (arrCells d s now sv)) (hg:Region.wanted o (yielded ops a.tmps)=true) (x:Operand) (ho:o.op=.load 39 x) (hx:a.eval x=.pointer (some ⟨b,0,none⟩))
  (h:wpList Tryz.prog ops Q rest (a.put o.dst (.agg (cnCells d))) w):wpList Tryz.prog ops Q (o :: rest) a w:=
 want_part B hg cn_big x ho 0 hx (cnCells d).toList rfl (arr_end d s now sv) h
theorem want_aseg (B:Blk b w (arrCells d s now sv)) (hg:Region.wanted o (yielded ops a.tmps)=true) (x:Operand) (ho:o.op=.load 41 x) (hx:a.eval x=.pointer (some ⟨b,37,none⟩))
  (h:wpList Tryz.prog ops Q rest (a.put o.dst (.agg (sgCells s))) w):wpList Tryz.prog ops Q (o :: rest) a w:=
 want_part B hg seg_big x ho 37 hx (sgCells s).toList rfl (arr_seg d s now sv) h
theorem vAE (B:Blk b w (arrCells d s now sv)) {x:Operand} (h:VL ops Q rest (a.put o.dst (.agg (cnCells d))) w) (ho:o.op=.load 39 x:=by rfl) (hg:Region.wanted o (yielded ops a.tmps)=true:=by kernel_rfl) (hx:a.eval x=.pointer (some ⟨b,0,none⟩):=by kernel_rfl):VL ops Q (o :: rest) a w:=
 ⟨want_aend B hg x ho hx h.out⟩
theorem vAS (B:Blk b w (arrCells d s now sv)) {x:Operand} (h:VL ops Q rest (a.put o.dst (.agg (sgCells s))) w) (ho:o.op=.load 41 x:=by rfl) (hg:Region.wanted o (yielded ops a.tmps)=true:=by kernel_rfl) (hx:a.eval x=.pointer (some ⟨b,37,none⟩):=by kernel_rfl):VL ops Q (o :: rest) a w:=
 ⟨want_aseg B hg x ho hx h.out⟩
end
theorem does_aend {op:Oper} {a:Act} {w:World} {R:Value→World→Prop} {b:Nat} {d:Cn} {s:Sg} {now:Int} {sv:Value} (B:Blk b w (arrCells d s now sv)) (x:Operand) (ho:op.op=.load 39 x) (hx:a.eval x=.pointer (some ⟨b,0,none⟩))
  (h:R (.agg (cnCells d)) w):does Tryz.prog op a w R:=
 does_part_load B cn_big x ho 0 hx (cnCells d).toList rfl (arr_end d s now sv) h
theorem does_aseg {op:Oper} {a:Act} {w:World} {R:Value→World→Prop} {b:Nat} {d:Cn} {s:Sg} {now:Int} {sv:Value} (B:Blk b w (arrCells d s now sv)) (x:Operand) (ho:op.op=.load 41 x) (hx:a.eval x=.pointer (some ⟨b,37,none⟩))
  (h:R (.agg (sgCells s)) w):does Tryz.prog op a w R:=
 does_part_load B seg_big x ho 37 hx (sgCells s).toList rfl (arr_seg d s now sv) h
section
variable {ops:Array Oper} {rest:List Oper} {o:Oper} {a:Act} {wb:World} {Q:Act→Prop} {b:Nat} {d:Cn} {s:Sg} {now:Int} {sv:Value}
end
theorem touch_new {g b:Nat} {w x y:World} (h:Touch g w x) (t:Touch b x y) (hb:b=g∨w.heap.size≤b):Touch g w y:=by
 rcases hb with rfl|hb
 ·exact h.trans t
 ·exact ⟨t.os.trans h.os,t.tape.trans h.tape,t.output.trans h.output,Nat.le_trans h.size t.size,fun k hk hne=>(t.block k (Nat.lt_of_lt_of_le hk h.size) (by omega)).trans (h.block k hk hne)⟩
theorem touch_since {g:Nat} {w x y:World} (h:Touch g w x) (t:Since x y):Touch g w y:=h.trans (Touch.of_below t fun k hk _=>hk)
structure Chain (g:Nat) (w:World) (a b c:Nat) (L:List Nat) (C0 C1 C2 C3:Array Value) (f:Nat→Bool) (x:World):Prop where
 touch:Touch g w x
 pre:f a=true→∀ j,L.contains j=true→f j=true
 ab:f b=true→f a=true
 bc:f c=true→f b=true
 blk:Blk g x (if f c then C3 else if f b then C2 else if f a then C1 else C0)
section
variable {g:Nat} {w x z:World} {a b c:Nat} {L:List Nat} {C0 C1 C2 C3:Array Value} {f:Nat→Bool}
theorem Chain.start (B:Blk g w C0) (hf:∀ j,f j=false):Chain g w a b c L C0 C1 C2 C3 f w.drew:=
 ⟨(Touch.refl g w).drew,(fun h=>by rw [hf] at h;cases h),(fun h=>by rw [hf] at h;cases h),(fun h=>by rw [hf] at h;cases h),by rw [hf,hf,hf];exact B.since ((Since.refl _).drew)⟩
theorem Chain.skip (h:Chain g w a b c L C0 C1 C2 C3 f x) (i:Nat) (ha:a≠i) (hb:b≠i) (hc:c≠i):Chain g w a b c L C0 C1 C2 C3 (andDone f i) x:=by
 obtain ⟨t,p,q,r,B⟩:=h
 have ea:andDone f i a=f a:=if_neg ha
 have eb:andDone f i b=f b:=if_neg hb
 have ec:andDone f i c=f c:=if_neg hc
 refine ⟨t,?_,by rw [ea,eb];exact q,by rw [eb,ec];exact r,by rw [ea,eb,ec];exact B⟩
 rw [ea]
 intro h j hj
 unfold andDone
 split
 ·rfl
 ·exact p h j hj
theorem Chain.since (h:Chain g w a b c L C0 C1 C2 C3 f x) (s:Since x z):Chain g w a b c L C0 C1 C2 C3 f z:=
 ⟨h.touch.trans (touch_of s),h.pre,h.ab,h.bc,h.blk.since s⟩
theorem Chain.no_a (h:Chain g w a b c L C0 C1 C2 C3 f x) {i:Nat} (hf:f i=false) (hi:L.contains i=true):f a=false:=by
 cases e:f a with
 | false=>rfl
 | true=>rw [h.pre e i hi] at hf;cases hf
theorem Chain.old (h:Chain g w a b c L C0 C1 C2 C3 f x) (ha:f a=false):Blk g x C0:=by
 have hb:f b=false:=by
  cases e:f b with
  | false=>rfl
  | true=>rw [h.ab e] at ha;cases ha
 have hc:f c=false:=by
  cases e:f c with
  | false=>rfl
  | true=>rw [h.bc e] at hb;cases hb
 have B:=h.blk
 rw [ha,hb,hc] at B
 exact B
theorem Chain.mid (h:Chain g w a b c L C0 C1 C2 C3 f x) (ha:f a=true) (hb:f b=false):Blk g x C1:=by
 have hc:f c=false:=by
  cases e:f c with
  | false=>rfl
  | true=>rw [h.bc e] at hb;cases hb
 have B:=h.blk
 rw [ha,hb,hc] at B
 exact B
theorem Chain.late (h:Chain g w a b c L C0 C1 C2 C3 f x) (hb:f b=true) (hc:f c=false):Blk g x C2:=by
 have B:=h.blk
 rw [hb,hc] at B
 exact B
theorem Chain.put1 (h:Chain g w a b c L C0 C1 C2 C3 f x) (hne:b≠a) (hne2:c≠a) (hf:f a=false) (hl:∀ j,L.contains j=true→f j=true) (t:Touch g x z) (B:Blk g z C1):Chain g w a b c L C0 C1 C2 C3 (andDone f a) z:=by
 have hb:f b=false:=by
  cases e:f b with
  | false=>rfl
  | true=>rw [h.ab e] at hf;cases hf
 have hc:f c=false:=by
  cases e:f c with
  | false=>rfl
  | true=>rw [h.bc e] at hb;cases hb
 have ea:andDone f a a=true:=if_pos rfl
 have eb:andDone f a b=false:=(if_neg hne).trans hb
 have ec:andDone f a c=false:=(if_neg hne2).trans hc
 refine ⟨h.touch.trans t,fun _ j hj=>?_,fun e=>ea,(fun e=>by rw [ec] at e;cases e),by rw [ea,eb,ec];exact B⟩
 unfold andDone
 split
 ·rfl
 ·exact hl j hj
theorem Chain.put2 (h:Chain g w a b c L C0 C1 C2 C3 f x) (hne:a≠b) (hne2:c≠b) (ha:f a=true) (hf:f b=false) (t:Touch g x z) (B:Blk g z C2):Chain g w a b c L C0 C1 C2 C3 (andDone f b) z:=by
 have hc:f c=false:=by
  cases e:f c with
  | false=>rfl
  | true=>rw [h.bc e] at hf;cases hf
 have ea:andDone f b a=true:=(if_neg hne).trans ha
 have eb:andDone f b b=true:=if_pos rfl
 have ec:andDone f b c=false:=(if_neg hne2).trans hc
 refine ⟨h.touch.trans t,fun _ j hj=>?_,fun _=>ea,(fun e=>by rw [ec] at e;cases e),by rw [eb,ec];exact B⟩
 unfold andDone
 split
 ·rfl
 ·exact h.pre ha j hj
theorem Chain.put3 (h:Chain g w a b c L C0 C1 C2 C3 f x) (hne:a≠c) (hne2:b≠c) (hb:f b=true) (t:Touch g x z) (B:Blk g z C3):Chain g w a b c L C0 C1 C2 C3 (andDone f c) z:=by
 have ea:andDone f c a=true:=(if_neg hne).trans (h.ab hb)
 have eb:andDone f c b=true:=(if_neg hne2).trans hb
 have ec:andDone f c c=true:=if_pos rfl
 refine ⟨h.touch.trans t,fun _ j hj=>?_,fun _=>ea,fun _=>eb,by rw [ec];exact B⟩
 unfold andDone
 split
 ·rfl
 ·exact h.pre (h.ab hb) j hj
theorem Chain.end3 (h:Chain g w a b c L C0 C1 C2 C3 f x) (hc:f c=true):Blk g x C3:=by
 have B:=h.blk
 rw [hc] at B
 exact B
theorem Chain.end1 (h:Chain g w a b c L C0 C1 C1 C1 f x) (ha:f a=true):Blk g x C1:=by
 have B:=h.blk
 rw [ha] at B
 simpa using B
theorem Chain.end2 (h:Chain g w a b c L C0 C1 C2 C2 f x) (hb:f b=true):Blk g x C2:=by
 have B:=h.blk
 rw [hb] at B
 simpa using B
end
end Go.Proofs.YtmigalhmlofbkaaGreatDoor
