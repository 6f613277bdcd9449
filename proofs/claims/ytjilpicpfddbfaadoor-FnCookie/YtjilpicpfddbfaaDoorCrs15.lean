/-
  A cursor as it stands, carried over what is new and over what is written elsewhere; its small draws with what they touch.
-/
import Derived.Test.YtjilpicpfddbfaaDoorDrawB
namespace Go.Proofs.YtjilpicpfddbfaaDoor
open Go.ChangeShapes Go.WideShapes Go.ChangeAt Go.RowKit
set_option linter.unusedVariables false
set_option maxRecDepth 10000

/-- A cursor at g, as it stands. -/
def Crs (w0 : World) (g : Nat) (a : Option Addr) (len cap : Nat) (zs : List Int) (w : World) : Prop := Cur w0 w g a len cap zs w

section
variable {w0 : World} {g : Nat} {a : Option Addr} {len cap : Nat} {zs : List Int}

theorem Crs.of {wb w : World} (h : Cur w0 wb g a len cap zs w) : Crs w0 g a len cap zs w := h.rebase

theorem Crs.here {w : World} (h : Crs w0 g a len cap zs w) : g < w.heap.size := Cur.here h

theorem Crs.low {w : World} (h : Crs w0 g a len cap zs w) : w0.heap.size ≤ g := Cur.low h

theorem Crs.bel {w : World} (h : Crs w0 g a len cap zs w) : Below w0.heap.size w0 w := Cur.bel h

theorem Crs.since {w x : World} (h : Crs w0 g a len cap zs w) (k : Since w x) : Crs w0 g a len cap zs x := (Cur.moved (g' := g) h k).rebase

theorem Crs.touch {w x : World} {b : Nat} (h : Crs w0 g a len cap zs w) (t : Touch b w x) (hb : b ≠ g ∧ w0.heap.size ≤ b) : Crs w0 g a len cap zs x := by
  obtain ⟨i, y, hi, c0, c1, c2, f1, f2⟩ := Cur.cells h
  have hh := h.here
  have hl := h.low
  have hbel := h.bel
  have cc : ∀ q, x.cell? ⟨g, q, none⟩ = w.cell? ⟨g, q, none⟩ := fun q => t.cell (p := ⟨g, q, none⟩) (fun e => hb.1 e.symm) hh
  have ff : ∀ q, x.frozen? ⟨g, q, none⟩ = w.frozen? ⟨g, q, none⟩ := fun q => t.frozen (p := ⟨g, q, none⟩) (fun e => hb.1 e.symm) hh
  refine ⟨Cur.bytes h, Cur.most h, ⟨t.os.trans hbel.os, t.tape.trans hbel.tape, t.output.trans hbel.output, Nat.le_trans hbel.size t.size, fun k hk => (t.block k (Nat.lt_of_lt_of_le hk hbel.size) (by omega)).trans (hbel.block k hk)⟩, hl, Nat.lt_of_lt_of_le hh t.size, Touch.refl _ _, i, y, hi, (cc 0).trans c0, (cc 1).trans c1, (cc 2).trans c2, (ff 1).trans f1, (ff 2).trans f2⟩

theorem dBelow (n : Int) (hn : 0 < n) (w : World) (hc : Crs w0 g a len cap zs w) :
    Calls Tryd.prog 21 #[.pointer (some ⟨g, 0, none⟩), .int .i64 n] w fun e w' => ∃ r : Int, e = .returned (.int .i64 r) ∧ (0 ≤ r ∧ r < n) ∧ Crs w0 g a len cap zs w' ∧ Touch g w w' :=
  (belowB n hn w hc).mono fun e w' ⟨r, he, h0, h1, h, t⟩ => ⟨r, he, ⟨h0, h1⟩, h.rebase, t⟩

theorem dOnce (n : Int) (w : World) (hc : Crs w0 g a len cap zs w) :
    Calls Tryd.prog 31 #[.pointer (some ⟨g, 0, none⟩), .int .i64 n] w fun e w' => ∃ r : Bool, e = .returned (.bool r) ∧ Crs w0 g a len cap zs w' ∧ Touch g w w' :=
  (onceB n w hc).mono fun e w' ⟨r, he, h, t⟩ => ⟨r, he, h.rebase, t⟩

theorem dWord (w : World) (hc : Crs w0 g a len cap zs w) :
    Calls Tryd.prog 18 #[.pointer (some ⟨g, 0, none⟩)] w fun e w' => ∃ x : Int, e = .returned (.int .u32 x) ∧ IsWord x ∧ Crs w0 g a len cap zs w' ∧ Touch g w w' :=
  (drawWord w hc).mono fun e w' ⟨x, he, hx, h⟩ => ⟨x, he, hx, h.rebase, h.touch⟩

/-- A row of numbers in a block of its own, from which one is picked. -/
theorem dPick (b n : Nat) (vs : List Int) (hn : vs.length = n) (hpos : 0 < n) (hn2 : n ≤ 1000) (w : World) (hc : Crs w0 g a len cap zs w) (hne : b ≠ g) (hl : Ints w b vs) :
    Calls Tryd.prog 30 #[.pointer (some ⟨g, 0, none⟩), .slice (some ⟨b, 0, none⟩) n n] w fun e w' => ∃ v : Int, e = .returned (.int .i64 v) ∧ v ∈ vs ∧ Crs w0 g a len cap zs w' ∧ Touch g w w' := by
  refine (pickInt b n vs hn hpos hn2 w hc hne hl).mono ?_
  rintro e w' ⟨k, hk, he, h⟩
  refine ⟨vs.getD k 0, he, ?_, h.rebase, h.touch⟩
  rw [List.getD_eq_getElem?_getD, List.getElem?_eq_getElem hk]
  exact List.getElem_mem hk
end
end Go.Proofs.YtjilpicpfddbfaaDoor
