/-
  What an end does of its own accord: the end, a tick and the segments that go out, in one variable.
-/
import Derived.Test.YtfenlfijfjcdbaaGreatM12
import Derived.Test.YtfenlfijfjcdbaaGreatM25
import Derived.Test.YtfenlfijfjcdbaaGreatM7
import Derived.Test.YtfenlfijfjcdbaaGreatFreshC
import Derived.Great.BuildSlice
namespace Go.Proofs.YtfenlfijfjcdbaaGreat
open Go.ChangeShapes Go.WideShapes Go.ChangeAt Go.RowKit Go.Deep
set_option linter.unusedVariables false
set_option maxRecDepth 10000
set_option maxRecDepth 10000

def actCells (c : Cn) (now : Int) (sv : Value) : Array Value := #[.int .i64 c.st, .int .u32 c.iss, .int .u32 c.una, .int .u32 c.nxt, .int .u32 c.mx, .int .i64 c.wnd, .int .u32 c.wsq, .int .u32 c.wak, .int .u32 c.oF, .string c.oD, .int .i64 c.oR, .int .u32 c.iN, .string c.iD, .slice c.pa c.pn c.pc, .int .i64 c.iR, .bool c.fin, .bool c.fsn, .int .u32 c.fsq, .bool c.gfn, .bool c.rA, .int .i64 c.rS, .int .i64 c.rV, .int .i64 c.rD, .int .i64 c.cX, .int .i64 c.cT, .int .i64 c.cD, .bool c.cF, .int .u32 c.cR, .bool c.tmg, .int .u32 c.tsq, .int .i64 c.tat, .int .i64 c.agn, .int .i64 c.prb, .int .i64 c.rst, .int .i64 c.trs, .int .i64 c.why, .bool c.owe, .int .i64 now, sv]

theorem act_is (c : Cn) (now : Int) (sv : Value) : actCells c now sv = cnCells c ++ #[.int .i64 now, sv] := rfl

theorem act_size (c : Cn) (now : Int) (sv : Value) : (actCells c now sv).size = 39 := rfl

theorem act_end (c : Cn) (now : Int) (sv : Value) (j : Nat) (v : Value) (h : (cnCells c).toList[j]? = some v) : (actCells c now sv)[0 + j]? = some v := by
  have hj : j < (cnCells c).toList.length := (List.getElem?_eq_some_iff.1 h).1
  rw [act_is, Nat.zero_add, Array.getElem?_append_left (by simpa using hj)]
  simpa using h

theorem want_end {ops : Array Oper} {rest : List Oper} {o : Oper} {a : Act} {w : World} {Q : Exit → Act → World → Prop} {b : Nat} {c : Cn} {now : Int} {sv : Value} (B : Blk b w (actCells c now sv)) (hg : Region.wanted o (yielded ops a.tmps) = true) (x : Operand) (ho : o.op = .load 42 x) (hx : a.eval x = .pointer (some ⟨b, 0, none⟩))
    (h : wpList Tryz.prog ops Q rest (a.put o.dst (.agg (cnCells c))) w) : wpList Tryz.prog ops Q (o :: rest) a w :=
  want_part B hg cn_big x ho 0 hx (cnCells c).toList rfl (act_end c now sv) h

theorem does_end {op : Oper} {a : Act} {w : World} {R : Value → World → Prop} {b : Nat} {c : Cn} {now : Int} {sv : Value} (B : Blk b w (actCells c now sv)) (x : Operand) (ho : op.op = .load 42 x) (hx : a.eval x = .pointer (some ⟨b, 0, none⟩))
    (h : R (.agg (cnCells c)) w) : does Tryz.prog op a w R :=
  does_part_load B cn_big x ho 0 hx (cnCells c).toList rfl (act_end c now sv) h

structure Base (B : Nat) (w x : World) : Prop where
  le : B ≤ w.heap.size
  below : Below B w x

theorem Base.refl {B : Nat} {w : World} (h : B ≤ w.heap.size) : Base B w w := ⟨h, Below.refl _ _⟩

theorem Base.size {B : Nat} {w x : World} (h : Base B w x) : w.heap.size ≤ x.heap.size := h.below.size

theorem Base.trans {B : Nat} {w x y : World} (h : Base B w x) (s : Since x y) : Base B w y := ⟨h.le, Below.trans h.below (Below.mono s (Nat.le_trans h.le h.size))⟩

theorem Base.base {B : Nat} {w x y : World} (h : Base B w x) (s : Base B x y) : Base B w y := ⟨h.le, Below.trans h.below s.below⟩

theorem Base.touch {B g : Nat} {w x y : World} (h : Base B w x) (t : Touch g x y) (hg : B ≤ g) : Base B w y := ⟨h.le, Touch.below t h.below hg (Nat.le_trans h.le h.size)⟩

theorem Base.since {w x : World} (h : Base w.heap.size w x) : Since w x := h.below

theorem Base.blk {B b : Nat} {w x : World} {cs : Array Value} (h : Base B w x) (k : Blk b w cs) (hb : b < B) : Blk b x cs :=
  ⟨Nat.lt_of_lt_of_le k.lt h.size, fun i => (Below.frozen h.below (p := ⟨b, i, none⟩) hb).trans (k.fz i), fun i => (Below.cell h.below (p := ⟨b, i, none⟩) hb).trans (k.cell i)⟩

theorem since_base {B : Nat} {w x y : World} (h : Since w x) (k : Base B x y) (hB : w.heap.size ≤ B) : Since w y := Below.trans h (Below.mono k.below hB)

structure Acts (B g pg : Nat) (now : Int) (ps : List (Int × ByteArray)) (d : Cn) (gs n cap : Nat) (xs : List Sg) (w : World) : Prop where
  blk : Blk g w (actCells d now (.slice (some ⟨gs, 0, none⟩) n cap))
  list : Held shG w B gs n cap xs
  parts : Held shP w B pg d.pn d.pc ps
  pa : d.pa = some ⟨pg, 0, none⟩
  low : B ≤ g
  n1 : g ≠ gs
  n2 : g ≠ pg
  n3 : gs ≠ pg

theorem Acts.rd {B g pg : Nat} {now : Int} {ps : List (Int × ByteArray)} {d : Cn} {gs n cap : Nat} {xs : List Sg} {w : World} (h : Acts B g pg now ps d gs n cap xs w) : Rd shP w d.pa d.pn ps := by
  rw [h.pa]
  exact h.parts.reads

def ActsX (B g pg : Nat) (now : Int) (ps : List (Int × ByteArray)) (d : Cn) (xs : List Sg) (w : World) : Prop := ∃ gs n cap, Acts B g pg now ps d gs n cap xs w

theorem rd_of {w : World} {B pg : Nat} {d : Cn} {ps : List (Int × ByteArray)} (h : d.pa = some ⟨pg, 0, none⟩) (P : Held shP w B pg d.pn d.pc ps) : Rd shP w d.pa d.pn ps := by
  rw [h]
  exact P.reads
end Go.Proofs.YtfenlfijfjcdbaaGreat
