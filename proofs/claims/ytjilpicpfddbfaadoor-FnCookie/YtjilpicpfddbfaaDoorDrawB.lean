/-
  The draws of small numbers, with what they touch.
-/
import Derived.Test.YtjilpicpfddbfaaDoorDraws
import Derived.Test.YtjilpicpfddbfaaDoorCode
import Derived.Test.YtjilpicpfddbfaaDoorRow
namespace Go.Proofs.YtjilpicpfddbfaaDoor
open Go.ChangeShapes Go.WideShapes Go.ChangeAt Go.RowKit
set_option linter.unusedVariables false
set_option maxRecDepth 10000

theorem Touch.putN {g b : Nat} {w x : World} (h : Touch g w x) (hb : w.heap.size ≤ b) (i : Nat) (v : Value) : Touch g w (x.setCell ⟨b, i, none⟩ v) := by
  have hs := (Below.refl 0 x).setCell (p := ⟨b, i, none⟩) (Nat.zero_le _) v
  exact ⟨hs.os.trans h.os, hs.tape.trans h.tape, hs.output.trans h.output, Nat.le_trans h.size hs.size, fun k hk hg => (Below.heap_setCell x ⟨b, i, none⟩ v k (by show k ≠ b; omega)).trans (h.block k hk hg)⟩

section
variable {w0 wb : World} {g : Nat} {a : Option Addr} {len cap : Nat} {zs : List Int}

theorem belowB (n : Int) (hn : 0 < n) (w : World) (hc : Cur w0 wb g a len cap zs w) :
    Calls Tryd.prog 21 #[.pointer (some ⟨g, 0, none⟩), .int .i64 n] w fun e w' => ∃ r : Int, e = .returned (.int .i64 r) ∧ 0 ≤ r ∧ r < n ∧ Cur w0 wb g a len cap zs w' ∧ Touch g w w' :=
  (belowP n hn w hc.rebase).mono fun e w' ⟨r, he, h0, h1, h⟩ => ⟨r, he, h0, h1, Cur.since hc.touch h, h.touch⟩

theorem onceB (n : Int) (w : World) (hc : Cur w0 wb g a len cap zs w) :
    Calls Tryd.prog 31 #[.pointer (some ⟨g, 0, none⟩), .int .i64 n] w fun e w' => ∃ r : Bool, e = .returned (.bool r) ∧ Cur w0 wb g a len cap zs w' ∧ Touch g w w' :=
  (once n w hc.rebase).mono fun e w' ⟨r, he, h⟩ => ⟨r, he, Cur.since hc.touch h, h.touch⟩

theorem pickN (b : Nat) (C : Array Value) (ty : TypeId) (n : Nat) (vs : List Int) (hC : C = (vs.map fun v => Value.int .i64 v).toArray) (hn : vs.length = n) (hpos : 0 < n) (hn2 : n ≤ 1000) (w : World) (hb : w.heap.size = b) (hc : Cur w0 wb g a len cap zs w) :
    Calls Tryd.prog 30 #[.pointer (some ⟨g, 0, none⟩), .slice (some ⟨b, 0, none⟩) n n] (w.alloc (.cells C ty)) fun e w' => ∃ v : Int, e = .returned (.int .i64 v) ∧ v ∈ vs ∧ Cur w0 wb g a len cap zs w' ∧ Touch g w w' := by
  subst hb
  refine (pickInt w.heap.size n vs hn hpos hn2 _ (hc.rebase.alloc (.cells C ty)) (Nat.ne_of_gt hc.here) (ints_alloc w C ty vs hC)).mono ?_
  rintro e w' ⟨k, hk, he, h⟩
  refine ⟨vs.getD k 0, he, ?_, Cur.since hc.touch h, h.touch⟩
  rw [List.getD_eq_getElem?_getD, List.getElem?_eq_getElem hk]
  exact List.getElem_mem hk

theorem Cur.putN {x : World} {b : Nat} (h : Cur w0 wb g a len cap zs x) (hne : b ≠ g) (h0 : w0.heap.size ≤ b) (h1 : wb.heap.size ≤ b) (i : Nat) (v : Value) : Cur w0 wb g a len cap zs (x.setCell ⟨b, i, none⟩ v) := by
  obtain ⟨j, y, hj, c0, c1, c2, f1, f2⟩ := h.cells
  have hc : ∀ q, (x.setCell ⟨b, i, none⟩ v).cell? ⟨g, q, none⟩ = x.cell? ⟨g, q, none⟩ := fun q => World.cell?_setCell_other x _ _ v (fun e => hne (congrArg Addr.block e))
  refine ⟨h.bytes, h.most, Below.setCell h.bel (p := ⟨b, i, none⟩) h0 v, h.low, ?_, h.touch.putN h1 i v, j, y, hj, (hc 0).trans c0, (hc 1).trans c1, (hc 2).trans c2, ?_, ?_⟩
  · have := h.here
    simpa [World.setCell] using this
  · rw [World.frozen?_setCell]; exact f1
  · rw [World.frozen?_setCell]; exact f2

theorem Cur.grownN {w w' : World} {row : Option Nat} (hc : Cur w0 wb g a len cap zs w) (he : g < wb.heap.size) (hg : w.grownBy w' row) (hr : ∀ k, row = some k → wb.heap.size ≤ k) : Cur w0 wb g a len cap zs w' := by
  have hsz := hc.touch.size
  have hlow := hc.low
  have hb : ∀ k, k < wb.heap.size → w'.heap[k]? = w.heap[k]? := fun k hk => hg.block k (by omega) (fun e => by have := hr k e.symm; omega)
  obtain ⟨j, y, hj, c0, c1, c2, f1, f2⟩ := hc.cells
  have hcc : ∀ q, w'.cell? ⟨g, q, none⟩ = w.cell? ⟨g, q, none⟩ := fun q => World.cell?_of_block (hb g he)
  have hff : ∀ q, w'.frozen? ⟨g, q, none⟩ = w.frozen? ⟨g, q, none⟩ := fun q => World.frozen?_of_block (hb g he)
  exact ⟨hc.bytes, hc.most, ⟨hg.os.trans hc.bel.os, hg.tape.trans hc.bel.tape, hg.output.trans hc.bel.output, Nat.le_trans hc.bel.size hg.size, fun k hk => (hb k (by omega)).trans (hc.bel.block k hk)⟩, hc.low, Nat.lt_of_lt_of_le hc.here hg.size,
    ⟨hg.os.trans hc.touch.os, hg.tape.trans hc.touch.tape, hg.output.trans hc.touch.output, Nat.le_trans hsz hg.size, fun k hk hkg => (hb k hk).trans (hc.touch.block k hk hkg)⟩, j, y, hj, (hcc 0).trans c0, (hcc 1).trans c1, (hcc 2).trans c2, (hff 1).trans f1, (hff 2).trans f2⟩
end
end Go.Proofs.YtjilpicpfddbfaaDoor
