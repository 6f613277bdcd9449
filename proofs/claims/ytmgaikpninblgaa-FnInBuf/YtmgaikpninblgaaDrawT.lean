/-
  The draws, with what they touch: contracts that carry one's own blocks over each draw.
-/
import Derived.Test.YtmgaikpninblgaaDrawSum
namespace Go.Proofs.Ytmgaikpninblgaa
open Go.ChangeShapes Go.WideShapes Go.ChangeAt Go.RowKit
set_option linter.unusedVariables false

theorem belowT {w0 wb : World} {g : Nat} {a : Option Addr} {len cap : Nat} {zs : List Int} (n : Int) (hn : 0 < n) (w : World) (hc : Cur w0 wb g a len cap zs w) :
    Calls Try.prog 24 #[.pointer (some ⟨g, 0, none⟩), .int .i64 n] w fun e w' => ∃ r : Int, e = .returned (.int .i64 r) ∧ 0 ≤ r ∧ r < n ∧ Cur w0 wb g a len cap zs w' ∧ Touch g w w' :=
  (belowP n hn w hc.rebase).mono fun e w' ⟨r, he, h0, h1, h⟩ => ⟨r, he, h0, h1, Cur.since hc.touch h, h.touch⟩

theorem textT {w0 wb : World} {g : Nat} {a : Option Addr} {len cap : Nat} {zs : List Int} (n : Int) (hn0 : 0 ≤ n) (hn : n ≤ 100000) (w : World) (hc : Cur w0 wb g a len cap zs w) :
    Calls Try.prog 23 #[.pointer (some ⟨g, 0, none⟩), .int .i64 n] w fun e w' => ∃ t : ByteArray, e = .returned (.string t) ∧ (t.size : Int) = n ∧ Cur w0 wb g a len cap zs w' ∧ Touch g w w' :=
  (drawText n hn0 hn w hc.rebase).mono fun e w' ⟨t, he, hz, h⟩ => ⟨t, he, hz, Cur.since hc.touch h, h.touch⟩

theorem Touch.put_new {g b : Nat} {w x : World} (h : Touch g w x) (hb : w.heap.size ≤ b) (i : Nat) (v : Value) : Touch g w (x.setCell ⟨b, i, none⟩ v) := by
  have hs := (Below.refl 0 x).setCell (p := ⟨b, i, none⟩) (Nat.zero_le _) v
  exact ⟨hs.os.trans h.os, hs.tape.trans h.tape, hs.output.trans h.output, Nat.le_trans h.size hs.size, fun k hk hg => (Below.heap_setCell x ⟨b, i, none⟩ v k (by show k ≠ b; omega)).trans (h.block k hk hg)⟩

theorem Cur.put_new {w0 wb : World} {g : Nat} {a : Option Addr} {len cap : Nat} {zs : List Int} {x : World} {b : Nat} (h : Cur w0 wb g a len cap zs x) (hne : b ≠ g) (h0 : w0.heap.size ≤ b) (h1 : wb.heap.size ≤ b) (i : Nat) (v : Value) : Cur w0 wb g a len cap zs (x.setCell ⟨b, i, none⟩ v) := by
  obtain ⟨j, y, hj, c0, c1, c2, f1, f2⟩ := h.cells
  have hc : ∀ q, (x.setCell ⟨b, i, none⟩ v).cell? ⟨g, q, none⟩ = x.cell? ⟨g, q, none⟩ := fun q => World.cell?_setCell_other x _ _ v (fun e => hne (congrArg Addr.block e))
  refine ⟨h.bytes, h.most, Below.setCell h.bel (p := ⟨b, i, none⟩) h0 v, h.low, ?_, h.touch.put_new h1 i v, j, y, hj, (hc 0).trans c0, (hc 1).trans c1, (hc 2).trans c2, ?_, ?_⟩
  · have := h.here
    simpa [World.setCell] using this
  · rw [World.frozen?_setCell]; exact f1
  · rw [World.frozen?_setCell]; exact f2
end Go.Proofs.Ytmgaikpninblgaa
