/-
  An end stays right when it is read, written to and closed; a junction (two pipes, two ends, a lock) in memory.
  A junction made, told, and moved under its lock.
-/
import Derived.Test.YtnbopjlpemmkcaaGreatCdK
import Derived.Test.YtnbopjlpemmkcaaGreatM21
import Derived.Test.YtnbopjlpemmkcaaGreatAbort11I
import Derived.Conc.RwLib
import Derived.Conc.MuData
import Derived.Conc.MuLone
import Derived.Defers
import Derived.KernelRfl
import Derived.Test.YtnbopjlpemmkcaaGreatM15
import Derived.Deep.DeepCutAuto
namespace Go.Proofs.YtnbopjlpemmkcaaGreat
open Go.ChangeShapes Go.WideShapes Go.ChangeAt Go.RowKit Go.Deep
set_option linter.unusedVariables false
set_option maxRecDepth 10000
set_option linter.unusedSimpArgs false

theorem connOk_out {c:Cn} {ps:List (Int×ByteArray)} {d:ByteArray} (h:connOk c ps=true) (hd:outOk d c.oR=true):connOk {c with oD:=d} ps=true:=by
 unfold connOk at h ⊢
 simp only [Bool.and_eq_true] at h ⊢
 exact ⟨h.1,hd,h.2.2⟩

theorem connOk_in {c:Cn} {ps:List (Int×ByteArray)} {d:ByteArray} (h:connOk c ps=true) (hd:inOk c.iN d c.iR ps=true):connOk {c with iD:=d} ps=true:=by
 unfold connOk at h ⊢
 simp only [Bool.and_eq_true] at h ⊢
 exact ⟨h.1,h.2.1,hd,h.2.2.2⟩

theorem okB_more:∀ (l:List (Int×Int)) (e W W':Int),okB e W l=true→W≤W'→okB e W' l=true
 | [],_,_,_,_,_=>rfl
 | s :: r,e,W,W',h,hw=>by
  unfold okB at h ⊢
  simp only [Bool.and_eq_true,decide_eq_true_eq] at h ⊢
  exact ⟨⟨h.1.1,h.1.2.1,by omega⟩,okB_more r _ _ _ h.2 hw⟩

theorem in_of_conn {c:Cn} {ps:List (Int×ByteArray)} (h:connOk c ps=true):inOk c.iN c.iD c.iR ps=true:=by
 unfold connOk at h
 simp only [Bool.and_eq_true] at h
 exact h.2.2.1

theorem out_of_conn {c:Cn} {ps:List (Int×ByteArray)} (h:connOk c ps=true):outOk c.oD c.oR=true:=by
 unfold connOk at h
 simp only [Bool.and_eq_true] at h
 exact h.2.1

theorem connOk_read {c:Cn} {ps:List (Int×ByteArray)} (n:Int) (h:connOk c ps=true):connOk (readC c ps n) ps=true:=by
 have hi:inOk c.iN (readD c.iN c.iD c.iR ps n) c.iR ps=true:=by
  have h0:=in_of_conn h
  unfold readD
  split
  ·have h1:=h0
   unfold inOk at h1 ⊢
   simp only [Bool.and_eq_true,decide_eq_true_eq] at h1 ⊢
   have hs:(c.iD.extract (readN c.iN c.iD c.iR ps n) c.iD.size).size≤c.iD.size:=by simp
   exact ⟨h1.1,by omega,okB_more _ _ _ _ h1.2.2 (by omega)⟩
  ·exact h0
 unfold readC
 rw [if_pos h]
 split
 ·exact connOk_in h hi
 ·exact connOk_in h hi

theorem connOk_write {c:Cn} {ps:List (Int×ByteArray)} (s:ByteArray) (h:connOk c ps=true):connOk (writeC c ps s) ps=true:=by
 unfold writeC
 split
 ·refine connOk_out h ?_
  have h0:=out_of_conn h
  unfold putD
  rw [if_pos h0]
  have h1:=(outOk_iff _ _).1 h0
  rw [outOk_iff]
  refine ⟨h1.1,h1.2.1,?_⟩
  unfold putN
  rw [if_pos h0]
  simp
  omega
 ·exact h

theorem connOk_close {c:Cn} {ps:List (Int×ByteArray)} (h:connOk c ps=true):connOk (closeC c ps) ps=true:=by
 unfold closeC
 split
 ·exact h
 ·exact h

theorem connOk_mvF {r:Int} {d:ByteArray} {n:Int} {F:Cn} {ps:List (Int×ByteArray)} {T:Cn} {qs:List (Int×ByteArray)} (h:connOk F ps=true):connOk (mvF r d n F ps T qs) ps=true:=by
 unfold mvF
 split
 ·exact connOk_read _ h
 ·exact h

theorem connOk_mvT {r:Int} {d:ByteArray} {e:Bool} {n:Int} {F:Cn} {ps:List (Int×ByteArray)} {T:Cn} {qs:List (Int×ByteArray)} (h:connOk T qs=true):connOk (mvT r d e n F ps T qs) qs=true:=by
 unfold mvT shutT
 repeat' split
 ·exact connOk_close (connOk_write _ h)
 ·exact connOk_write _ h
 ·exact h

structure Jn where
 s:Int
 z:Int
 r:Int
 d:ByteArray
 e:Bool
 n:Int
 sr:Int
 sd:ByteArray
 se:Bool
 sn:Int
 L:Cn
 R:Cn
 xa:Option Addr
 xn:Nat
 xc:Nat
 ya:Option Addr
 yn:Nat
 yc:Nat

def jnTail (j:Jn):List Value:=[.slice j.xa j.xn j.xc,.slice j.ya j.yn j.yc]

def jnCells (j:Jn):Array Value:=(([.int .i32 j.s,.int .u32 j.z]:List Value)++(([.int .i64 j.r,.string j.d,.bool j.e,.int .i64 j.n]:List Value)++(([.int .i64 j.sr,.string j.sd,.bool j.se,.int .i64 j.sn]:List Value)++((cnCells j.L).toList++((cnCells j.R).toList++jnTail j))))).toArray

theorem jn_size (j:Jn):(jnCells j).size=86:=rfl

theorem jn_L (p:Jn) (j:Nat) (v:Value) (h:(cnCells p.L).toList[j]?=some v):(jnCells p)[10+j]?=some v:=by
 have hj:j<(cnCells p.L).toList.length:=(List.getElem?_eq_some_iff.1 h).1
 unfold jnCells
 rw [List.getElem?_toArray,List.getElem?_append_right (by simp;omega),List.getElem?_append_right (by simp;omega),List.getElem?_append_right (by simp;omega),List.getElem?_append_left (by simp at hj ⊢;omega)]
 simp only [List.length_cons,List.length_nil]
 rw [show 10+j - 2 - 4 - 4=j by omega]
 exact h

theorem jn_R (p:Jn) (j:Nat) (v:Value) (h:(cnCells p.R).toList[j]?=some v):(jnCells p)[47+j]?=some v:=by
 have hj:j<(cnCells p.R).toList.length:=(List.getElem?_eq_some_iff.1 h).1
 have hl:(cnCells p.L).toList.length=37:=rfl
 unfold jnCells
 rw [List.getElem?_toArray,List.getElem?_append_right (by simp;omega),List.getElem?_append_right (by simp;omega),List.getElem?_append_right (by simp;omega),List.getElem?_append_right (by rw [hl];simp;omega),hl,List.getElem?_append_left (by simp at hj ⊢;omega)]
 simp only [List.length_cons,List.length_nil]
 rw [show 47+j - 2 - 4 - 4 - 37=j by omega]
 exact h

theorem jn_tl (p:Jn) (j:Nat) (v:Value) (h:(jnTail p)[j]?=some v):(jnCells p)[84+j]?=some v:=by
 have hl:(cnCells p.L).toList.length=37:=rfl
 have hm:(cnCells p.R).toList.length=37:=rfl
 unfold jnCells
 rw [List.getElem?_toArray,List.getElem?_append_right (by simp;omega),List.getElem?_append_right (by simp;omega),List.getElem?_append_right (by simp;omega),List.getElem?_append_right (by rw [hl];simp;omega),hl,List.getElem?_append_right (by rw [hm];simp;omega),hm]
 simp only [List.length_cons,List.length_nil]
 rw [show 84+j - 2 - 4 - 4 - 37 - 37=j by omega]
 exact h

theorem jn_up {j:Nat} {w:World} {J:Jn} (B:Blk j w (jnCells J)):Cdt j 2 [.int .i32 J.s,.int .u32 J.z] (([.int .i64 J.sr,.string J.sd,.bool J.se,.int .i64 J.sn]:List Value)++((cnCells J.L).toList++((cnCells J.R).toList++jnTail J))) w #[.int .i64 J.r,.string J.d,.bool J.e,.int .i64 J.n]:=⟨rfl,rfl,B⟩

theorem jn_of_up {j:Nat} {w:World} {J:Jn} {d:ByteArray} {e:Bool} {n:Int} (C:Cdt j 2 [.int .i32 J.s,.int .u32 J.z] (([.int .i64 J.sr,.string J.sd,.bool J.se,.int .i64 J.sn]:List Value)++((cnCells J.L).toList++((cnCells J.R).toList++jnTail J))) w #[.int .i64 J.r,.string d,.bool e,.int .i64 n]):Blk j w (jnCells {J with d:=d,e:=e,n:=n}):=C.2.2

theorem jn_dn {j:Nat} {w:World} {J:Jn} (B:Blk j w (jnCells J)):Cdt j 6 [.int .i32 J.s,.int .u32 J.z,.int .i64 J.r,.string J.d,.bool J.e,.int .i64 J.n] ((cnCells J.L).toList++((cnCells J.R).toList++jnTail J)) w #[.int .i64 J.sr,.string J.sd,.bool J.se,.int .i64 J.sn]:=⟨rfl,rfl,B⟩

theorem jn_of_dn {j:Nat} {w:World} {J:Jn} {d:ByteArray} {e:Bool} {n:Int} (C:Cdt j 6 [.int .i32 J.s,.int .u32 J.z,.int .i64 J.r,.string J.d,.bool J.e,.int .i64 J.n] ((cnCells J.L).toList++((cnCells J.R).toList++jnTail J)) w #[.int .i64 J.sr,.string d,.bool e,.int .i64 n]):Blk j w (jnCells {J with sd:=d,se:=e,sn:=n}):=C.2.2

section
variable {ops:Array Oper} {rest:List Oper} {o:Oper} {a:Act} {w:World} {Q:Exit→Act→World→Prop}

theorem vJL {b:Nat} {p:Jn} (B:Blk b w (jnCells p)) {x:Operand} (h:VL ops Q rest (a.put o.dst (.agg (cnCells p.L))) w) (ho:o.op=.load 50 x:=by rfl)
  (hg:Region.wanted o (yielded ops a.tmps)=true:=by kernel_rfl) (hx:a.eval x=.pointer (some ⟨b,10,none⟩):=by kernel_rfl):VL ops Q (o :: rest) a w:=⟨want_part B hg cn_big x ho 10 hx (cnCells p.L).toList rfl (jn_L p) h.out⟩

theorem vJR {b:Nat} {p:Jn} (B:Blk b w (jnCells p)) {x:Operand} (h:VL ops Q rest (a.put o.dst (.agg (cnCells p.R))) w) (ho:o.op=.load 50 x:=by rfl)
  (hg:Region.wanted o (yielded ops a.tmps)=true:=by kernel_rfl) (hx:a.eval x=.pointer (some ⟨b,47,none⟩):=by kernel_rfl):VL ops Q (o :: rest) a w:=⟨want_part B hg cn_big x ho 47 hx (cnCells p.R).toList rfl (jn_R p) h.out⟩

theorem vEd {a:Act} (D:List Deferred) (t:Array Value) (h:wpList Tryz.prog ops Q [] {tmps:=t,defers:=D} w) (e:a={tmps:=t,defers:=D}:=by kernel_rfl):VL ops Q [] a w:=by
 rw [e]
 exact ⟨h⟩
end

abbrev mLink:Go.Conc.Locks.MuLink:={lock:=68,unlock:=69,ilock:=92,iunlock:=93,lockSlow:=111,unlockSlow:=114,disable:=107,enable:=109,acquire:=110,relMerge:=112,cas32:=108,add32:=113,tMutex:=85,tIMutex:=83,tPMutex:=140,tPIMutex:=154,tPI32:=156,tUP:=158,tNoCopy:=81,tU32:=26}

theorem mLib:Go.Conc.Locks.MuLib Tryz.prog mLink:=
 ⟨Tryz.func68,Tryz.func69,Tryz.func92,Tryz.func93,Tryz.func107,Tryz.func109,Tryz.func110,Tryz.func112,Tryz.func108,Tryz.func113,Tryz.underlying83,Tryz.runUnderlying83,Tryz.sizeOf83,Tryz.isAgg83,Tryz.zeroValue83,Tryz.underlying85,Tryz.runUnderlying85,Tryz.sizeOf85,Tryz.isAgg85,Tryz.zeroValue85,Tryz.underlying140,Tryz.runUnderlying140,Tryz.sizeOf140,Tryz.isAgg140,Tryz.zeroValue140,Tryz.underlying154,Tryz.runUnderlying154,Tryz.sizeOf154,Tryz.isAgg154,Tryz.zeroValue154,Tryz.underlying156,Tryz.runUnderlying156,Tryz.sizeOf156,Tryz.isAgg156,Tryz.zeroValue156,Tryz.underlying158,Tryz.runUnderlying158,Tryz.sizeOf158,Tryz.isAgg158,Tryz.zeroValue158,Tryz.underlying81,Tryz.runUnderlying81,Tryz.sizeOf81,Tryz.isAgg81,Tryz.zeroValue81,Tryz.underlying21,Tryz.runUnderlying21,Tryz.sizeOf21,Tryz.isAgg21,Tryz.zeroValue21,(by kernel_rfl)⟩

theorem jLock {j:Nat} {w:World} {J:Jn} (B:Blk j w (jnCells J)) (h:J.s=0):Calls Tryz.prog 68 #[.pointer (some ⟨j,0,none⟩)] w fun e w'=>e=.returned (.tuple #[])∧Touch j w w'∧Blk j w' (jnCells {J with s:=1}):=by
 have c0:w.cell? ⟨j,0,none⟩=some (.int .i32 0):=by rw [B.cell 0,← h];rfl
 refine (Go.MuLone.lock_free mLib ⟨j,0,none⟩ w c0 (B.fz 0)).mono ?_
 rintro e w' ⟨rfl,rfl⟩
 exact ⟨rfl,(Touch.refl j w).put 0 _,B.put 0 (.int .i32 1) (by rw [jn_size];omega)⟩

theorem gaveI (c:Cn) (w:World):Calls Tryz.prog 70 #[.agg (cnCells c)] w fun e w'=>e=.returned (.bool (gaveB c))∧Since w w':=by
 obtain ⟨b,hb⟩:∃ b,Hid (b=gaveB c):=⟨_,rfl⟩
 rw [← hb.out]
 by_cases h0:c.st=0
 case neg=>
  have e0:Hid (b=false):=(by rw [hb.out];unfold gaveB;rw [if_neg h0]:b=false)
  have m0:Hid ((c.st == 0)=false):=(by simp;omega:(c.st == 0)=false)
  clear h0
  have G:=Since.refl w
  go_enter Tryz.func70,Tryz.ntmps70
  go_upto_region 0 with (fail)
  refine vR ?_
  refine vW (w.alloc (.cells (cnCells c) 50)) (.pointer (some ⟨w.heap.size,0,none⟩)) ?_
  have qB2:=Blk.new w (cnCells c) 50
  have qg3:=(Since.refl w).alloc (.cells (cnCells c) 50)
  replace G:=G.trans qg3
  generalize w.alloc (.cells (cnCells c) 50)=qw1 at  G qB2 qg3 ⊢
  have qB2_l:=qB2.lt
  have qg3_s:=qg3.size
  refine vV (.bool false) ?_
  refine vE #[.agg (cnCells c),.pointer (some ⟨w.heap.size,0,none⟩),.bool false,U,U,U,U,U,U,U,U] ?_
  go_upto_region 1 with (fail)
  refine vR ?_
  refine vV (.pointer (some ⟨w.heap.size,0,none⟩)) ?_
  refine vD (.int .i64 c.st) (qB2.cell 0) ?_
  refine vV (.bool false) ?_ (hrun:=by rw [show false=(c.st == 0) from m0.out.symm];kernel_rfl)
  refine vV (.bool false) ?_
  refine vS ?_
  refine vS ?_
  refine vS ?_
  refine vV (.bool false) ?_
  refine vV (.bool false) ?_
  refine vE #[.agg (cnCells c),.pointer (some ⟨w.heap.size,0,none⟩),.bool false,.pointer (some ⟨w.heap.size,0,none⟩),.int .i64 c.st,.bool false,.bool false,U,U,U,.bool false] ?_
  go_wp2_with (fail)
  go_ret
  exact ⟨by rw [e0.out];rfl,G⟩
 case pos=>
  have m0:Hid ((c.st == 0)=true):=(by simp [h0]:(c.st == 0)=true)
  by_cases h1:c.why=0
  case pos=>
   have e0:Hid (b=false):=(by rw [hb.out];unfold gaveB;rw [if_pos h0,h1];rfl:b=false)
   have m1:Hid ((c.why != 0)=false):=(by simp [h1]:(c.why != 0)=false)
   clear h0 h1
   have G:=Since.refl w
   go_enter Tryz.func70,Tryz.ntmps70
   go_upto_region 0 with (fail)
   refine vR ?_
   refine vW (w.alloc (.cells (cnCells c) 50)) (.pointer (some ⟨w.heap.size,0,none⟩)) ?_
   have qB2:=Blk.new w (cnCells c) 50
   have qg3:=(Since.refl w).alloc (.cells (cnCells c) 50)
   replace G:=G.trans qg3
   generalize w.alloc (.cells (cnCells c) 50)=qw1 at  G qB2 qg3 ⊢
   have qB2_l:=qB2.lt
   have qg3_s:=qg3.size
   refine vV (.bool false) ?_
   refine vE #[.agg (cnCells c),.pointer (some ⟨w.heap.size,0,none⟩),.bool false,U,U,U,U,U,U,U,U] ?_
   go_upto_region 1 with (fail)
   refine vR ?_
   refine vV (.pointer (some ⟨w.heap.size,0,none⟩)) ?_
   refine vD (.int .i64 c.st) (qB2.cell 0) ?_
   refine vV (.bool true) ?_ (hrun:=by rw [show true=(c.st == 0) from m0.out.symm];kernel_rfl)
   refine vV (.bool true) ?_
   refine vV (.pointer (some ⟨w.heap.size,35,none⟩)) ?_
   refine vD (.int .i64 c.why) (qB2.cell 35) ?_
   refine vV (.bool false) ?_ (hrun:=by rw [show false=(c.why != 0) from m1.out.symm];kernel_rfl)
   refine vV (.bool false) ?_
   refine vV (.bool false) ?_
   refine vE #[.agg (cnCells c),.pointer (some ⟨w.heap.size,0,none⟩),.bool false,.pointer (some ⟨w.heap.size,0,none⟩),.int .i64 c.st,.bool true,.bool true,.pointer (some ⟨w.heap.size,35,none⟩),.int .i64 c.why,.bool false,.bool false] ?_
   go_wp2_with (fail)
   go_ret
   exact ⟨by rw [e0.out];rfl,G⟩
  case neg=>
   have e0:Hid (b=true):=(by rw [hb.out];unfold gaveB;rw [if_pos h0];simp [h1]:b=true)
   have m1:Hid ((c.why != 0)=true):=(by simp [h1]:(c.why != 0)=true)
   clear h0 h1
   have G:=Since.refl w
   go_enter Tryz.func70,Tryz.ntmps70
   go_upto_region 0 with (fail)
   refine vR ?_
   refine vW (w.alloc (.cells (cnCells c) 50)) (.pointer (some ⟨w.heap.size,0,none⟩)) ?_
   have qB2:=Blk.new w (cnCells c) 50
   have qg3:=(Since.refl w).alloc (.cells (cnCells c) 50)
   replace G:=G.trans qg3
   generalize w.alloc (.cells (cnCells c) 50)=qw1 at  G qB2 qg3 ⊢
   have qB2_l:=qB2.lt
   have qg3_s:=qg3.size
   refine vV (.bool false) ?_
   refine vE #[.agg (cnCells c),.pointer (some ⟨w.heap.size,0,none⟩),.bool false,U,U,U,U,U,U,U,U] ?_
   go_upto_region 1 with (fail)
   refine vR ?_
   refine vV (.pointer (some ⟨w.heap.size,0,none⟩)) ?_
   refine vD (.int .i64 c.st) (qB2.cell 0) ?_
   refine vV (.bool true) ?_ (hrun:=by rw [show true=(c.st == 0) from m0.out.symm];kernel_rfl)
   refine vV (.bool true) ?_
   refine vV (.pointer (some ⟨w.heap.size,35,none⟩)) ?_
   refine vD (.int .i64 c.why) (qB2.cell 35) ?_
   refine vV (.bool true) ?_ (hrun:=by rw [show true=(c.why != 0) from m1.out.symm];kernel_rfl)
   refine vV (.bool true) ?_
   refine vV (.bool true) ?_
   refine vE #[.agg (cnCells c),.pointer (some ⟨w.heap.size,0,none⟩),.bool true,.pointer (some ⟨w.heap.size,0,none⟩),.int .i64 c.st,.bool true,.bool true,.pointer (some ⟨w.heap.size,35,none⟩),.int .i64 c.why,.bool true,.bool true] ?_
   go_wp2_with (fail)
   go_ret
   exact ⟨by rw [e0.out];rfl,G⟩
end Go.Proofs.YtnbopjlpemmkcaaGreat

namespace Go.Proofs.YtnbopjlpemmkcaaGreat
open Go.ChangeShapes Go.WideShapes Go.ChangeAt Go.RowKit Go.Deep
set_option linter.unusedVariables false
set_option maxRecDepth 10000
set_option linter.unusedSimpArgs false

theorem does_val {o:Oper} {a:Act} {w:World} {Q:Value→World→Prop} (v:Value) (w':World) (h:(execOp a.eval o).run Tryz.prog w=.ok (.value v) w') (k:Q v w'):does Tryz.prog o a w Q:=by
 unfold does
 rw [h]
 exact k

theorem does_call {o:Oper} {a:Act} {w:World} {Q:Value→World→Prop} {f:FuncId} {args:Array Value} (h:(execOp a.eval o).run Tryz.prog w=.ok (.enter f args) w) (k:Calls Tryz.prog f args w fun e w'=>∃ v,e=.returned v∧Q v w'):does Tryz.prog o a w Q:=by
 unfold does
 rw [h]
 exact k

def FreshV (B:Nat) (c:Cn) (ps:List (Int×ByteArray)) (x:World) (v:Value):Prop:=∃ g cp,v=.agg (cnCells {c with pa:=some ⟨g,0,none⟩,pc:=cp})∧Held shP x B g c.pn cp ps

theorem FreshV.since {B:Nat} {c:Cn} {ps:List (Int×ByteArray)} {x y:World} {v:Value} (h:FreshV B c ps x v) (s:Since x y):FreshV B c ps y v:=by
 obtain ⟨g,cp,e1,H⟩:=h
 exact ⟨g,cp,e1,H.since s⟩

def RowV (B:Nat) (x:World) (v:Value):Prop:=∃ g,v=.slice (some ⟨g,0,none⟩) 0 0∧Held shG x B g 0 0 ([]:List Sg)

theorem RowV.since {B:Nat} {x y:World} {v:Value} (h:RowV B x v) (s:Since x y):RowV B y v:=by
 obtain ⟨g,e1,H⟩:=h
 exact ⟨g,e1,H.since s⟩

def JnV (B:Nat) (r:Int) (d:ByteArray) (e:Bool) (n:Int) (sr:Int) (sd:ByteArray) (se:Bool) (sn:Int) (L:Cn) (ps:List (Int×ByteArray)) (R:Cn) (qs:List (Int×ByteArray)) (x:World) (v:Value):Prop:=∃ g1 c1 g2 c2 ga gb,v=.agg (jnCells ⟨0,0,r,d,e,n,sr,sd,se,sn,{L with pa:=some ⟨g1,0,none⟩,pc:=c1},{R with pa:=some ⟨g2,0,none⟩,pc:=c2},some ⟨ga,0,none⟩,0,0,some ⟨gb,0,none⟩,0,0⟩)∧(Held shP x B g1 L.pn c1 ps∧Held shP x B g2 R.pn c2 qs∧Held shG x B ga 0 0 ([]:List Sg)∧Held shG x B gb 0 0 ([]:List Sg))∧(g1≠g2∧ga≠gb)

theorem JnV.since {B:Nat} {r:Int} {d:ByteArray} {e:Bool} {n:Int} {sr:Int} {sd:ByteArray} {se:Bool} {sn:Int} {L:Cn} {ps:List (Int×ByteArray)} {R:Cn} {qs:List (Int×ByteArray)} {x y:World} {v:Value} (h:JnV B r d e n sr sd se sn L ps R qs x v) (s:Since x y):JnV B r d e n sr sd se sn L ps R qs y v:=by
 obtain ⟨g1,c1,g2,c2,ga,gb,e1,⟨A1,A2,A3,A4⟩,k⟩:=h
 exact ⟨g1,c1,g2,c2,ga,gb,e1,⟨A1.since s,A2.since s,A3.since s,A4.since s⟩,k⟩

def JpV (B:Nat) (r:Int) (d:ByteArray) (e:Bool) (n:Int) (sr:Int) (sd:ByteArray) (se:Bool) (sn:Int) (L:Cn) (ps:List (Int×ByteArray)) (R:Cn) (qs:List (Int×ByteArray)) (x:World) (v:Value):Prop:=∃ j g1 c1 g2 c2 ga gb,v=.pointer (some ⟨j,0,none⟩)∧Blk j x (jnCells ⟨0,0,r,d,e,n,sr,sd,se,sn,{L with pa:=some ⟨g1,0,none⟩,pc:=c1},{R with pa:=some ⟨g2,0,none⟩,pc:=c2},some ⟨ga,0,none⟩,0,0,some ⟨gb,0,none⟩,0,0⟩)∧(Held shP x B g1 L.pn c1 ps∧Held shP x B g2 R.pn c2 qs∧Held shG x B ga 0 0 ([]:List Sg)∧Held shG x B gb 0 0 ([]:List Sg))∧(B≤j∧g1<j∧g2<j∧ga<j∧gb<j∧g1≠g2∧ga≠gb)

theorem JpV.since {B:Nat} {r:Int} {d:ByteArray} {e:Bool} {n:Int} {sr:Int} {sd:ByteArray} {se:Bool} {sn:Int} {L:Cn} {ps:List (Int×ByteArray)} {R:Cn} {qs:List (Int×ByteArray)} {x y:World} {v:Value} (h:JpV B r d e n sr sd se sn L ps R qs x v) (s:Since x y):JpV B r d e n sr sd se sn L ps R qs y v:=by
 obtain ⟨j,g1,c1,g2,c2,ga,gb,e1,Bj,⟨A1,A2,A3,A4⟩,k⟩:=h
 exact ⟨j,g1,c1,g2,c2,ga,gb,e1,Bj.since s,⟨A1.since s,A2.since s,A3.since s,A4.since s⟩,k⟩

structure JoK (wb:World) (L:Cn) (ps:List (Int×ByteArray)) (R:Cn) (qs:List (Int×ByteArray)) (b7 b9 b10 b11:Bool) (v7 v9 v10 v11:Value) (x:World):Prop where
 s:Since wb x
 k7:b7=true→FreshV wb.heap.size L ps x v7
 k9:b9=true→FreshV wb.heap.size R qs x v9
 k10:b10=true→RowV wb.heap.size x v10
 k11:b11=true→RowV wb.heap.size x v11
 d1:b10=true→b11=true→v10≠v11
 d2:b7=true→b9=true→∀ g c g' c',v7=.agg (cnCells {L with pa:=some ⟨g,0,none⟩,pc:=c})→v9=.agg (cnCells {R with pa:=some ⟨g',0,none⟩,pc:=c'})→g≠g'

theorem JoK.since {wb:World} {L:Cn} {ps:List (Int×ByteArray)} {R:Cn} {qs:List (Int×ByteArray)} {b7 b9 b10 b11:Bool} {v7 v9 v10 v11:Value} {x y:World} (h:JoK wb L ps R qs b7 b9 b10 b11 v7 v9 v10 v11 x) (s:Since x y):JoK wb L ps R qs b7 b9 b10 b11 v7 v9 v10 v11 y:=
 ⟨h.s.trans s,fun k=>(h.k7 k).since s,fun k=>(h.k9 k).since s,fun k=>(h.k10 k).since s,fun k=>(h.k11 k).since s,h.d1,h.d2⟩

set_option maxRecDepth 20000 in
set_option maxHeartbeats 16000000 in
theorem jOf (r:Int) (d:ByteArray) (e:Bool) (n:Int) (sr:Int) (sd:ByteArray) (se:Bool) (sn:Int) (L:Cn) (ps:List (Int×ByteArray)) (R:Cn) (qs:List (Int×ByteArray)) (gL:GoodC L ps) (gR:GoodC R qs) (hd:d.size≤1048576) (hf:sd.size≤1048576) (q p q2 p2:Nat) (w:World) (RL:Rd shP w (some ⟨q,0,none⟩) L.pn ps) (RR:Rd shP w (some ⟨q2,0,none⟩) R.pn qs) :
  Calls Tryz.prog 30 #[.agg #[.int .i64 r,.string d,.bool e,.int .i64 n,.int .i64 sr,.string sd,.bool se,.int .i64 sn],.agg (cnCells {L with pa:=some ⟨q,0,none⟩,pc:=p}),.agg (cnCells {R with pa:=some ⟨q2,0,none⟩,pc:=p2})] w fun x w'=>∃ j g1 c1 g2 c2 ga gb,x=.returned (.pointer (some ⟨j,0,none⟩))∧Blk j w' (jnCells ⟨0,0,r,d,e,n,sr,sd,se,sn,{L with pa:=some ⟨g1,0,none⟩,pc:=c1},{R with pa:=some ⟨g2,0,none⟩,pc:=c2},some ⟨ga,0,none⟩,0,0,some ⟨gb,0,none⟩,0,0⟩)∧(Held shP w' w.heap.size g1 L.pn c1 ps∧Held shP w' w.heap.size g2 R.pn c2 qs∧Held shG w' w.heap.size ga 0 0 ([]:List Sg)∧Held shG w' w.heap.size gb 0 0 ([]:List Sg))∧(w.heap.size≤j∧g1<j∧g2<j∧ga<j∧gb<j∧g1≠g2∧ga≠gb)∧Since w w':=by
 have hcL:=fun wx Rx=>iFresh gL q p wx Rx
 have hcR:=fun wx Rx=>iFresh gR q2 p2 wx Rx
 have hco1:=fun wx=>condOf r d e n hd wx
 have hco2:=fun wx=>condOf sr sd se sn hf wx
 have G:=Since.refl w
 go_enter Tryz.func30,Tryz.ntmps30
 go_upto_region 0 with (fail)
 refine vR ?_
 refine vW (w.alloc (.cells #[.int .i64 r,.string d,.bool e,.int .i64 n,.int .i64 sr,.string sd,.bool se,.int .i64 sn] 42)) (.pointer (some ⟨w.heap.size,0,none⟩)) ?_
 have qB2:=Blk.new w #[.int .i64 r,.string d,.bool e,.int .i64 n,.int .i64 sr,.string sd,.bool se,.int .i64 sn] 42
 have qg3:=(Since.refl w).alloc (.cells #[.int .i64 r,.string d,.bool e,.int .i64 n,.int .i64 sr,.string sd,.bool se,.int .i64 sn] 42)
 replace RL:=RL.since qg3
 replace RR:=RR.since qg3
 replace G:=G.trans qg3
 generalize w.alloc (.cells #[.int .i64 r,.string d,.bool e,.int .i64 n,.int .i64 sr,.string sd,.bool se,.int .i64 sn] 42)=qw1 at RL RR G qB2 qg3 ⊢
 have qB2_l:=qB2.lt
 have qg3_s:=qg3.size
 refine vW (qw1.alloc (.cells (cnCells {L with pa:=some ⟨q,0,none⟩,pc:=p}) 50)) (.pointer (some ⟨qw1.heap.size,0,none⟩)) ?_
 have qB5:=Blk.new qw1 (cnCells {L with pa:=some ⟨q,0,none⟩,pc:=p}) 50
 have qg6:=(Since.refl qw1).alloc (.cells (cnCells {L with pa:=some ⟨q,0,none⟩,pc:=p}) 50)
 replace qB2:=qB2.since qg6
 replace RL:=RL.since qg6
 replace RR:=RR.since qg6
 replace G:=G.trans qg6
 generalize qw1.alloc (.cells (cnCells {L with pa:=some ⟨q,0,none⟩,pc:=p}) 50)=qw4 at qB2 RL RR G qB5 qg6 ⊢
 have qB5_l:=qB5.lt
 have qg6_s:=qg6.size
 refine vW (qw4.alloc (.cells (cnCells {R with pa:=some ⟨q2,0,none⟩,pc:=p2}) 50)) (.pointer (some ⟨qw4.heap.size,0,none⟩)) ?_
 have qB8:=Blk.new qw4 (cnCells {R with pa:=some ⟨q2,0,none⟩,pc:=p2}) 50
 have qg9:=(Since.refl qw4).alloc (.cells (cnCells {R with pa:=some ⟨q2,0,none⟩,pc:=p2}) 50)
 replace qB2:=qB2.since qg9
 replace qB5:=qB5.since qg9
 replace RL:=RL.since qg9
 replace RR:=RR.since qg9
 replace G:=G.trans qg9
 generalize qw4.alloc (.cells (cnCells {R with pa:=some ⟨q2,0,none⟩,pc:=p2}) 50)=qw7 at qB2 qB5 RL RR G qB8 qg9 ⊢
 have qB8_l:=qB8.lt
 have qg9_s:=qg9.size
 refine vV (.pointer none) ?_
 refine vE #[.agg #[.int .i64 r,.string d,.bool e,.int .i64 n,.int .i64 sr,.string sd,.bool se,.int .i64 sn],.agg (cnCells {L with pa:=some ⟨q,0,none⟩,pc:=p}),.agg (cnCells {R with pa:=some ⟨q2,0,none⟩,pc:=p2}),.pointer (some ⟨w.heap.size,0,none⟩),.pointer (some ⟨qw1.heap.size,0,none⟩),.pointer (some ⟨qw4.heap.size,0,none⟩),.pointer none,U,U,U,U,U,U,U,U,U,U,U,U,U,U] ?_
 go_upto_region 1 with (fail)
 refine wp_region_low Since (fun i x v=>match i with
   | 0=>v=.pointer (some ⟨w.heap.size,0,none⟩)
   | 1=>v=.agg #[.int .i64 r,.string d,.bool e,.int .i64 n]
   | 2=>v=.agg #[.int .i64 r,.string d,.bool e,.int .i64 n]
   | 3=>v=.pointer (some ⟨w.heap.size,4,none⟩)
   | 4=>v=.agg #[.int .i64 sr,.string sd,.bool se,.int .i64 sn]
   | 5=>v=.agg #[.int .i64 sr,.string sd,.bool se,.int .i64 sn]
   | 6=>v=.agg (cnCells {L with pa:=some ⟨q,0,none⟩,pc:=p})
   | 7=>FreshV qw7.heap.size L ps x v
   | 8=>v=.agg (cnCells {R with pa:=some ⟨q2,0,none⟩,pc:=p2})
   | 9=>FreshV qw7.heap.size R qs x v
   | 10=>RowV qw7.heap.size x v
   | 11=>RowV qw7.heap.size x v
   | 12=>JnV qw7.heap.size r d e n sr sd se sn L ps R qs x v
   | 13=>JpV qw7.heap.size r d e n sr sd se sn L ps R qs x v
   | 14=>JpV qw7.heap.size r d e n sr sd se sn L ps R qs x v
   | _=>True) (fun f vals x=>JoK qw7 L ps R qs (f 7) (f 9) (f 10) (f 11) (vals 7) (vals 9) (vals 10) (vals 11) x) (fun v=>{tmps:=#[.agg #[.int .i64 r,.string d,.bool e,.int .i64 n,.int .i64 sr,.string sd,.bool se,.int .i64 sn],.agg (cnCells {L with pa:=some ⟨q,0,none⟩,pc:=p}),.agg (cnCells {R with pa:=some ⟨q2,0,none⟩,pc:=p2}),.pointer (some ⟨w.heap.size,0,none⟩),.pointer (some ⟨qw1.heap.size,0,none⟩),.pointer (some ⟨qw4.heap.size,0,none⟩),v 14,v 0,v 1,v 2,v 3,v 4,v 5,v 6,v 7,v 8,v 9,v 10,v 11,v 12,v 13],defers:=[]}) (by kernel_rfl) (by kernel_rfl) ?_ ?_ (fun vals=>by kernel_rfl) ?_ ?_
 case refine_1=>
  intro i x y v h1 hv
  match i,hv with
  | 0,hv|1,hv|2,hv|3,hv|4,hv|5,hv|6,hv|8,hv=>exact hv
  | 7,hv|9,hv=>exact FreshV.since hv h1
  | 10,hv|11,hv=>exact RowV.since hv h1
  | 12,hv=>exact JnV.since hv h1
  | 13,hv|14,hv=>exact JpV.since hv h1
  | n+15,_=>trivial
 case refine_2=>
  intro f vals hf
  exact ⟨(Since.refl _).drew,(fun h=>by rw [hf 7] at h;cases h),(fun h=>by rw [hf 9] at h;cases h),(fun h=>by rw [hf 10] at h;cases h),(fun h=>by rw [hf 11] at h;cases h),(fun h=>by rw [hf 10] at h;cases h),(fun h=>by rw [hf 7] at h;cases h)⟩
 case refine_3=>
  repeat (first|exact eachLow_nil|refine eachLow_cons ?_ ?_)
  all_goals intro f vals x hf hr k
  all_goals have hx:=k.s
  ·obtain ⟨j,g1,c1,g2,c2,ga,gb,e1,B,hA,kk⟩:=(show JpV qw7.heap.size r d e n sr sd se sn L ps R qs x (vals 13) from (hr ⟨13,.data⟩ (by simp) rfl).2)
   simp only [e1]
   exact does_val (.pointer (some ⟨j,0,none⟩)) x (by kernel_rfl) ⟨Since.refl x,k,j,g1,c1,g2,c2,ga,gb,rfl,B,hA,kk⟩
  ·obtain ⟨g1,c1,g2,c2,ga,gb,a1,⟨A1,A2,A3,A4⟩,n1,n2⟩:=(show JnV qw7.heap.size r d e n sr sd se sn L ps R qs x (vals 12) from (hr ⟨12,.data⟩ (by simp) rfl).2)
   have l1:=A1.lt
   have l2:=A2.lt
   have l3:=A3.lt
   have l4:=A4.lt
   have S:=(Since.refl x).alloc (.cells (jnCells ⟨0,0,r,d,e,n,sr,sd,se,sn,{L with pa:=some ⟨g1,0,none⟩,pc:=c1},{R with pa:=some ⟨g2,0,none⟩,pc:=c2},some ⟨ga,0,none⟩,0,0,some ⟨gb,0,none⟩,0,0⟩) 91)
   simp only [a1]
   exact does_val (.pointer (some ⟨x.heap.size,0,none⟩)) _ (by kernel_rfl) ⟨S,k.since S,x.heap.size,g1,c1,g2,c2,ga,gb,rfl,Blk.new x _ _,⟨A1.since S,A2.since S,A3.since S,A4.since S⟩,hx.size,l1,l2,l3,l4,n1,n2⟩
  ·have e2:vals 2=.agg #[.int .i64 r,.string d,.bool e,.int .i64 n]:=(hr ⟨2,.data⟩ (by simp) rfl).2
   have e5:vals 5=.agg #[.int .i64 sr,.string sd,.bool se,.int .i64 sn]:=(hr ⟨5,.data⟩ (by simp) rfl).2
   obtain ⟨f7,F7⟩:=hr ⟨7,.data⟩ (by simp) rfl
   obtain ⟨f9,F9⟩:=hr ⟨9,.data⟩ (by simp) rfl
   obtain ⟨f10,F10⟩:=hr ⟨10,.data⟩ (by simp) rfl
   obtain ⟨f11,F11⟩:=hr ⟨11,.data⟩ (by simp) rfl
   obtain ⟨g1,c1,a3,A1⟩:=(show FreshV qw7.heap.size L ps x (vals 7) from F7)
   obtain ⟨g2,c2,a4,A2⟩:=(show FreshV qw7.heap.size R qs x (vals 9) from F9)
   obtain ⟨ga,a5,A3⟩:=(show RowV qw7.heap.size x (vals 10) from F10)
   obtain ⟨gb,a6,A4⟩:=(show RowV qw7.heap.size x (vals 11) from F11)
   have n1:=k.d2 f7 f9 g1 c1 g2 c2 a3 a4
   have n2:=k.d1 f10 f11
   have n3:ga≠gb:=fun h=>n2 (by rw [a5,a6,h])
   simp only [e2,e5,a3,a4,a5,a6]
   refine does_val (.agg (jnCells ⟨0,0,r,d,e,n,sr,sd,se,sn,{L with pa:=some ⟨g1,0,none⟩,pc:=c1},{R with pa:=some ⟨g2,0,none⟩,pc:=c2},some ⟨ga,0,none⟩,0,0,some ⟨gb,0,none⟩,0,0⟩)) x (by kernel_rfl) ⟨Since.refl x,?_,g1,c1,g2,c2,ga,gb,rfl,⟨A1,A2,A3,A4⟩,n1,n3⟩
   exact k
  ·have h1:=(Since.refl x).alloc (.cells #[] 99)
   refine does_val (.slice (some ⟨x.heap.size,0,none⟩) 0 0) _ (by kernel_rfl) ⟨h1,⟨hx.trans h1,fun h=>(k.k7 h).since h1,fun h=>(k.k9 h).since h1,fun h=>(k.k10 h).since h1,fun _=>⟨x.heap.size,rfl,(heldG0 x).raise hx.size⟩,?_,k.d2⟩,x.heap.size,rfl,(heldG0 x).raise hx.size⟩
   intro h9 _
   obtain ⟨gz,ez,Hz⟩:=k.k10 h9
   have l9:=Hz.lt
   intro hq
   have hq2:Value.slice (some ⟨x.heap.size,0,none⟩) 0 0=vals 10:=hq.symm
   rw [ez] at hq2
   simp at hq2
   try omega
  ·have h1:=(Since.refl x).alloc (.cells #[] 99)
   refine does_val (.slice (some ⟨x.heap.size,0,none⟩) 0 0) _ (by kernel_rfl) ⟨h1,⟨hx.trans h1,fun h=>(k.k7 h).since h1,fun h=>(k.k9 h).since h1,fun _=>⟨x.heap.size,rfl,(heldG0 x).raise hx.size⟩,fun h=>(k.k11 h).since h1,?_,k.d2⟩,x.heap.size,rfl,(heldG0 x).raise hx.size⟩
   intro _ h9
   obtain ⟨gz,ez,Hz⟩:=k.k11 h9
   have l9:=Hz.lt
   intro hq
   have hq2:Value.slice (some ⟨x.heap.size,0,none⟩) 0 0=vals 11:=hq
   rw [ez] at hq2
   simp at hq2
   try omega
  ·have e8:vals 8=.agg (cnCells {R with pa:=some ⟨q2,0,none⟩,pc:=p2}):=(hr ⟨8,.data⟩ (by simp) rfl).2
   refine does_call (f:=60) (args:=#[.agg (cnCells {R with pa:=some ⟨q2,0,none⟩,pc:=p2})]) (by simp only [e8];kernel_rfl) ?_
   refine (hcR _ (RR.since hx)).mono ?_
   rintro _ x' ⟨g,cp,rfl,H,h1⟩
   have l0:=H.low'
   have l1:=hx.size
   refine ⟨_,rfl,h1,⟨hx.trans h1,fun h=>(k.k7 h).since h1,fun _=>⟨g,cp,rfl,H.raise (by omega)⟩,fun h=>(k.k10 h).since h1,fun h=>(k.k11 h).since h1,k.d1,?_⟩,g,cp,rfl,H.raise (by omega)⟩
   intro h7 _ a ca b cb ha hb
   obtain ⟨gz,cz,ez,Hz⟩:=k.k7 h7
   have l9:=Hz.lt
   have e1:gz=a:=end_inj (ez.symm.trans ha)
   have e2:g=b:=end_inj hb
   omega
  ·exact does_load cn_big (cn_size _) (qB8.since hx) _ rfl rfl ⟨Since.refl _,k,rfl⟩
  ·have e6:vals 6=.agg (cnCells {L with pa:=some ⟨q,0,none⟩,pc:=p}):=(hr ⟨6,.data⟩ (by simp) rfl).2
   refine does_call (f:=60) (args:=#[.agg (cnCells {L with pa:=some ⟨q,0,none⟩,pc:=p})]) (by simp only [e6];kernel_rfl) ?_
   refine (hcL _ (RL.since hx)).mono ?_
   rintro _ x' ⟨g,cp,rfl,H,h1⟩
   have l0:=H.low'
   have l1:=hx.size
   refine ⟨_,rfl,h1,⟨hx.trans h1,fun _=>⟨g,cp,rfl,H.raise (by omega)⟩,fun h=>(k.k9 h).since h1,fun h=>(k.k10 h).since h1,fun h=>(k.k11 h).since h1,k.d1,?_⟩,g,cp,rfl,H.raise (by omega)⟩
   intro _ h9 a ca b cb ha hb
   obtain ⟨gz,cz,ez,Hz⟩:=k.k9 h9
   have l9:=Hz.lt
   have e1:gz=b:=end_inj (ez.symm.trans hb)
   have e2:g=a:=end_inj ha
   omega
  ·exact does_load cn_big (cn_size _) (qB5.since hx) _ rfl rfl ⟨Since.refl _,k,rfl⟩
  ·have e4:vals 4=.agg #[.int .i64 sr,.string sd,.bool se,.int .i64 sn]:=(hr ⟨4,.data⟩ (by simp) rfl).2
   refine does_call (f:=59) (args:=#[.agg #[.int .i64 sr,.string sd,.bool se,.int .i64 sn]]) (by simp only [e4];kernel_rfl) ?_
   refine (hco2 _).mono ?_
   rintro _ x' ⟨rfl,h1⟩
   exact ⟨_,rfl,h1,k.since h1,rfl⟩
  ·have e3:vals 3=.pointer (some ⟨w.heap.size,4,none⟩):=(hr ⟨3,.data⟩ (by simp) rfl).2
   exact does_part_load (qB2.since hx) pp_big _ rfl 4 e3 [.int .i64 sr,.string sd,.bool se,.int .i64 sn] rfl (fun j v hj=>by match j,hj with|0,h=>exact h|1,h=>exact h|2,h=>exact h|3,h=>exact h|n+4,h=>exact absurd h (by simp)) ⟨Since.refl _,k,rfl⟩
  ·exact does_val (.pointer (some ⟨w.heap.size,4,none⟩)) x (by kernel_rfl) ⟨Since.refl _,k,rfl⟩
  ·have e1:vals 1=.agg #[.int .i64 r,.string d,.bool e,.int .i64 n]:=(hr ⟨1,.data⟩ (by simp) rfl).2
   refine does_call (f:=59) (args:=#[.agg #[.int .i64 r,.string d,.bool e,.int .i64 n]]) (by simp only [e1];kernel_rfl) ?_
   refine (hco1 _).mono ?_
   rintro _ x' ⟨rfl,h1⟩
   exact ⟨_,rfl,h1,k.since h1,rfl⟩
  ·have e0:vals 0=.pointer (some ⟨w.heap.size,0,none⟩):=(hr ⟨0,.data⟩ (by simp) rfl).2
   exact does_part_load (qB2.since hx) pp_big _ rfl 0 e0 [.int .i64 r,.string d,.bool e,.int .i64 n] rfl (fun j v hj=>by match j,hj with|0,h=>exact h|1,h=>exact h|2,h=>exact h|3,h=>exact h|n+4,h=>exact absurd h (by simp)) ⟨Since.refl _,k,rfl⟩
  ·exact does_val (.pointer (some ⟨w.heap.size,0,none⟩)) x (by kernel_rfl) ⟨Since.refl _,k,rfl⟩
 case refine_4=>
  intro f vals x k hf hv
  have hx:=k.s
  obtain ⟨j,g1,c1,g2,c2,ga,gb,e1,B,⟨A1,A2,A3,A4⟩,k1,k2,k3,k4,k5,k6⟩:=(show JpV qw7.heap.size r d e n sr sd se sn L ps R qs x (vals 14) from hv 14 (by decide))
  have e2:=hx.size
  have e3:=G.size
  have G2:=G.trans hx
  have u1:=A1.low'
  have u2:=A2.low'
  have u3:=A3.low'
  have u4:=A4.low'
  go_wp2_with (fail)
  go_ret
  simp only [e1]
  exact ⟨j,g1,c1,g2,c2,ga,gb,rfl,B,⟨A1.raise (by omega),A2.raise (by omega),A3.raise (by omega),A4.raise (by omega)⟩,⟨by omega,k2,k3,k4,k5,k6⟩,G2⟩

set_option maxRecDepth 20000 in
set_option maxHeartbeats 16000000 in
theorem jRelay (J:Jn) (j:Nat) (w:World) (E:Blk j w (jnCells J)) :
  Calls Tryz.prog 34 #[.pointer (some ⟨j,0,none⟩)] w fun x w'=>x=.returned (.agg #[.int .i64 J.r,.string J.d,.bool J.e,.int .i64 J.n,.int .i64 J.sr,.string J.sd,.bool J.se,.int .i64 J.sn])∧Since w w':=by
 have G:=Since.refl w
 have hE:=E.lt
 go_enter Tryz.func34,Tryz.ntmps34
 go_upto_region 0 with (fail)
 refine vR ?_
 refine vW (w.alloc (.cells #[.int .i64 0,.string ByteArray.empty,.bool false,.int .i64 0,.int .i64 0,.string ByteArray.empty,.bool false,.int .i64 0] 42)) (.pointer (some ⟨w.heap.size,0,none⟩)) ?_
 have qB2:=Blk.new w #[.int .i64 0,.string ByteArray.empty,.bool false,.int .i64 0,.int .i64 0,.string ByteArray.empty,.bool false,.int .i64 0] 42
 have qg3:=(Since.refl w).alloc (.cells #[.int .i64 0,.string ByteArray.empty,.bool false,.int .i64 0,.int .i64 0,.string ByteArray.empty,.bool false,.int .i64 0] 42)
 replace E:=E.since qg3
 replace G:=G.trans qg3
 generalize w.alloc (.cells #[.int .i64 0,.string ByteArray.empty,.bool false,.int .i64 0,.int .i64 0,.string ByteArray.empty,.bool false,.int .i64 0] 42)=qw1 at E G qB2 qg3 ⊢
 have qB2_l:=qB2.lt
 have qg3_s:=qg3.size
 refine vE #[.pointer (some ⟨j,0,none⟩),U,.pointer (some ⟨w.heap.size,0,none⟩),U,U,U,U,U,U,U,U,U] ?_
 go_upto_region 1 with (fail)
 refine wp_region_tail (wb:=qw1) 9 (fun i x v=>match i with
   | 0=>v=.pointer (some ⟨j,0,none⟩)
   | 1=>v=.pointer (some ⟨j,0,none⟩)
   | 2=>v=.pointer (some ⟨j,2,none⟩)
   | 3=>v=.agg #[.int .i64 J.r,.string J.d,.bool J.e,.int .i64 J.n]
   | 4=>v=.pointer (some ⟨j,0,none⟩)
   | 5=>v=.pointer (some ⟨j,0,none⟩)
   | 6=>v=.pointer (some ⟨j,6,none⟩)
   | 7=>v=.agg #[.int .i64 J.sr,.string J.sd,.bool J.se,.int .i64 J.sn]
   | 8=>v=.agg #[.int .i64 J.r,.string J.d,.bool J.e,.int .i64 J.n,.int .i64 J.sr,.string J.sd,.bool J.se,.int .i64 J.sn]
   | _=>True) (fun v=>{tmps:=#[.pointer (some ⟨j,0,none⟩),undef,.pointer (some ⟨w.heap.size,0,none⟩),v 0,v 1,v 2,v 3,v 4,v 5,v 6,v 7,v 8],defers:=[]}) (by kernel_rfl) (by kernel_rfl) (by kernel_rfl) (Since.refl _) ?_ (fun vals=>by kernel_rfl) ?_ ?_
 case refine_1=>
  intro j x x' v h1 h2
  match j,h2 with
  | 0,h2|1,h2|2,h2|3,h2|4,h2|5,h2|6,h2|7,h2|8,h2=>exact h2
  | n+9,_=>trivial
 case refine_2=>
  repeat (first|exact eachDoes_nil|refine eachDoes_cons ?_ ?_)
  all_goals intro vals x hx hv
  all_goals simp [Region.binds] at hv
  ·simp [does,doesUpon,go_sem,hv,Since.refl]
  ·simp [does,doesUpon,go_sem,hv]
   refine (condPipe J.sr J.sd J.se J.sn j 6 _ _ _ (jn_dn (E.since hx))).mono ?_
   rintro _ x' ⟨rfl,h1⟩
   simp [h1]
  ·simp [does,doesUpon,go_sem,hv,Since.refl]
  ·simp [does,doesUpon,go_sem,hv,Since.refl]
  ·simp [does,doesUpon,go_sem,Since.refl]
  ·simp [does,doesUpon,go_sem,hv]
   refine (condPipe J.r J.d J.e J.n j 2 _ _ _ (jn_up (E.since hx))).mono ?_
   rintro _ x' ⟨rfl,h1⟩
   simp [h1]
  ·simp [does,doesUpon,go_sem,hv,Since.refl]
  ·simp [does,doesUpon,go_sem,hv,Since.refl]
  ·simp [does,doesUpon,go_sem,Since.refl]
 case refine_3=>
  intro qv6 qw4 qh5 hv
  have hv0:qv6 0=_:=hv 0 (by decide)
  have hv1:qv6 1=_:=hv 1 (by decide)
  have hv2:qv6 2=_:=hv 2 (by decide)
  have hv3:qv6 3=_:=hv 3 (by decide)
  have hv4:qv6 4=_:=hv 4 (by decide)
  have hv5:qv6 5=_:=hv 5 (by decide)
  have hv6:qv6 6=_:=hv 6 (by decide)
  have hv7:qv6 7=_:=hv 7 (by decide)
  have hv8:qv6 8=_:=hv 8 (by decide)
  clear hv
  simp only [hv0,hv1,hv2,hv3,hv4,hv5,hv6,hv7,hv8,List.drop]
  clear hv0 hv1 hv2 hv3 hv4 hv5 hv6 hv7 hv8
  replace E:=E.since qh5
  replace qB2:=qB2.since qh5
  replace G:=G.trans qh5
  have qh5_s:=qh5.size
  refine VL.out ?_
  refine sB #[.int .i64 J.r,.string J.d,.bool J.e,.int .i64 J.n,.int .i64 J.sr,.string J.sd,.bool J.se,.int .i64 J.sn] rl_big qB2 rfl rfl (by simp [Value.oneCell']) ?_
  intro qw7 qt8 qB9
  clear qB2
  replace E:=E.touch qt8 (by omega)
  replace G:=since_touch G qt8 (by omega)
  have qt8_s:=qt8.size
  refine vE #[.pointer (some ⟨j,0,none⟩),U,.pointer (some ⟨w.heap.size,0,none⟩),.pointer (some ⟨j,0,none⟩),.pointer (some ⟨j,0,none⟩),.pointer (some ⟨j,2,none⟩),.agg #[.int .i64 J.r,.string J.d,.bool J.e,.int .i64 J.n],.pointer (some ⟨j,0,none⟩),.pointer (some ⟨j,0,none⟩),.pointer (some ⟨j,6,none⟩),.agg #[.int .i64 J.sr,.string J.sd,.bool J.se,.int .i64 J.sn],.agg #[.int .i64 J.r,.string J.d,.bool J.e,.int .i64 J.n,.int .i64 J.sr,.string J.sd,.bool J.se,.int .i64 J.sn]] ?_
  go_wp2_with (fail)
  exact bodyPost_ret (results_big rl_big rfl (u:=2) rfl _ rfl qB9) rfl ⟨rfl,G⟩

end Go.Proofs.YtnbopjlpemmkcaaGreat
