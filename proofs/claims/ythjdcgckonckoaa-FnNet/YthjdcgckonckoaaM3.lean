/-
  The drawing functions of the specification over a cursor: a drawn word is a word; a new cursor is one.
  The draws of chapter 2: a text, a half, and a turn (spec's l02Data, l02Half, l02Turn, DrawTurned).
  The draws, with what they touch: contracts that carry one's own blocks over each draw.
-/
import Derived.Test.YthjdcgckonckoaaDraw
import Derived.Test.YthjdcgckonckoaaDrawTextWalk
import Derived.Laws.Concat
namespace Go.Proofs.Ythjdcgckonckoaa
open Go.ChangeShapes Go.WideShapes Go.ChangeAt Go.RowKit
set_option linter.unusedVariables false

theorem belowP {w0 wb : World} {g : Nat} {a : Option Addr} {len cap : Nat} {zs : List Int} (n : Int) (hn : 0 < n) (w : World) (hc : Cur w0 wb g a len cap zs w) :
    Calls Try.prog 14 #[.pointer (some ⟨g, 0, none⟩), .int .i64 n] w fun e w' => ∃ r : Int, e = .returned (.int .i64 r) ∧ 0 ≤ r ∧ r < n ∧ Cur w0 wb g a len cap zs w' :=
  (below n w hc).mono fun e w' ⟨r, he, h0, h1, h⟩ => ⟨r, he, h0, h1 hn, h⟩

theorem ints_alloc (w : World) (C : Array Value) (t : TypeId) (vs : List Int) (h : C = (vs.map fun v => Value.int .i64 v).toArray) : Ints (w.alloc (.cells C t)) w.heap.size vs := by
  intro k hk
  rw [World.cell?_alloc_mark]
  subst h
  simp [hk]

theorem newCur (a : Option Addr) (len cap : Nat) (zs : List Int) (w0 : World) (hb : Bytes w0 a len zs) (hm : len ≤ 1048576) (w : World) (hw : Below w0.heap.size w0 w) (h : Int) :
    w.heap.size ≤ w.heap.size ∧ Below w.heap.size w (w.alloc (.cells #[.slice a len cap, .int .i64 0, .int .i64 h] 54)) ∧ Cur w0 (w.alloc (.cells #[.slice a len cap, .int .i64 0, .int .i64 h] 54)) w.heap.size a len cap zs (w.alloc (.cells #[.slice a len cap, .int .i64 0, .int .i64 h] 54)) := by
  have hsz := hw.size
  have hbel := (Below.refl w.heap.size w).alloc (Nat.le_refl _) (.cells #[.slice a len cap, .int .i64 0, .int .i64 h] 54)
  refine ⟨Nat.le_refl _, hbel, hb, hm, hw.trans (hbel.mono hsz), hsz, by simp, Touch.refl _ _, 0, h, Nat.zero_le _, ?_, ?_, ?_, ?_, ?_⟩
  · go_simp
  · go_simp
  · go_simp
  · go_simp
  · go_simp

set_option maxRecDepth 100000 in
theorem drawNew (a : Option Addr) (len cap : Nat) (zs : List Int) (w0 : World) (hb : Bytes w0 a len zs) (hm : len ≤ 1048576) (w : World) (hw : Below w0.heap.size w0 w) :
    Calls Try.prog 12 #[.slice a len cap] w fun e w' => ∃ g : Nat, e = .returned (.pointer (some ⟨g, 0, none⟩)) ∧ w.heap.size ≤ g ∧ Below w.heap.size w w' ∧ Cur w0 w' g a len cap zs w' := by
  have hsz := hw.size
  have hlm : (len : Int) ≤ 9223372036854775807 := by omega
  have hcell : ∀ k, k < len → ∃ b off z, a = some ⟨b, off, none⟩ ∧ w.cell? ⟨b, off + k, none⟩ = some (.int .u8 z) ∧ 0 ≤ z ∧ z ≤ 255 := by
    intro k hk
    rcases hb with h0 | ⟨b, off, ha, hl, h⟩
    · omega
    · obtain ⟨h1, h2, h3⟩ := h k hk
      exact ⟨b, off, _, ha, cell_later hw h1, h2, h3⟩
  have HB : Hid (Bytes w0 a len zs) := hb
  have HW : Hid (Below w0.heap.size w0 w) := hw
  clear hb hw
  go_enter Try.func12, Try.ntmps12
  go_wp2
  go_loop [3, 4] (fun h i => ∃ (k : Nat) (q : Int), k ≤ len ∧ i = .int .i64 k ∧ h = .int .i64 q) (fun _ i => len - (intOf i).toNat)
  case atStart => exact ⟨0, _, Nat.zero_le _, rfl, rfl⟩
  case round =>
    obtain ⟨k, q, hk, rfl, rfl⟩ := hrel
    by_cases hlt : k < len
    · obtain ⟨b, off, z, rfl, hz, hz0, hz1⟩ := hcell k hlt
      clear hcell
      have hlt' : (k : Int) < (len : Int) := by omega
      go_wp2
      · go_round
        case rel => exact ⟨k + 1, _, by omega, by go_num, rfl⟩
        case measure => simp [intOf]; omega
      · go_ret
        exact ⟨_, rfl, newCur _ len cap zs w0 HB.out hm w HW.out q⟩
    · obtain rfl : k = len := by omega
      clear hcell
      go_wp2
      go_ret
      exact ⟨_, rfl, newCur _ _ cap zs w0 HB.out hm w HW.out q⟩
end Go.Proofs.Ythjdcgckonckoaa

namespace Go.Proofs.Ythjdcgckonckoaa
open Go.ChangeShapes Go.WideShapes Go.ChangeAt Go.RowKit
set_option linter.unusedVariables false

theorem drawText {w0 wb : World} {g : Nat} {a : Option Addr} {len cap : Nat} {zs : List Int} (n : Int) (hn0 : 0 ≤ n) (hn : n ≤ 100000) (w : World) (hc : Cur w0 wb g a len cap zs w) :
    Calls Try.prog 25 #[.pointer (some ⟨g, 0, none⟩), .int .i64 n] w fun e w' => ∃ t : ByteArray, e = .returned (.string t) ∧ (t.size : Int) = n ∧ Cur w0 wb g a len cap zs w' := by
  obtain ⟨k, rfl⟩ := Int.eq_ofNat_of_zero_le hn0
  refine (textTS k (by omega) w hc.rebase).mono ?_
  rintro e w' ⟨t, rfl, ht, hc'⟩
  exact ⟨t, rfl, by omega, Cur.since hc.touch hc'⟩

theorem size_ (a : Option Addr) (len cap : Nat) (hm : len ≤ 1048576) (most : Int) (h2 : 2 ≤ most) (hmm : most ≤ 1000000) (w : World) :
    Calls Try.prog 15 #[.slice a len cap, .int .i64 most] w fun e w' => ∃ r : Int, e = .returned (.int .i64 r) ∧ 0 < r ∧ r ≤ most ∧ w = w' := by
  have ht := Int.tdiv_eq_ediv_of_nonneg (a := (len : Int)) (b := 20) (by omega)
  by_cases h : most < 2 + (len : Int) / 20
  · go_enter Try.func15, Try.ntmps15
    go_wp2
    go_ret
    exact ⟨most, rfl, by omega, by omega, rfl⟩
  · go_enter Try.func15, Try.ntmps15
    go_wp2
    go_ret
    exact ⟨_, rfl, by omega, by omega, rfl⟩

/-- A text of bytes that were just laid down. -/
theorem convNew (vs : List Int) (w : World) (n : Nat) (hn : vs.length = n) :
    (convert 22 9 (.slice (some ⟨w.heap.size, 0, none⟩) n n)).run Try.prog (w.alloc (.cells (vs.map (Value.int .u8)).toArray 5)) = .ok (.string (strOfNums vs)) (w.alloc (.cells (vs.map (Value.int .u8)).toArray 5)) := by
  refine run_convert_bytes_arg _ 22 5 Try.underlying22 Try.underlying5 _ 0 n n vs hn ?_ 9 Try.underlying9
  intro i hi
  rw [World.cell?_alloc_mark]
  simp [show i < vs.length by omega]

theorem results_tmp3 {fn : Func} {t u v : Tmp} (h : fn.results = #[.tmp t, .tmp u, .tmp v]) (tmps : Array Value) (P : Program) (w : World) :
    (results fn tmps).run P w = .ok (.tuple #[tmps.getD t undef, tmps.getD u undef, tmps.getD v undef]) w := by
  simp [results, h, go_sem]
end Go.Proofs.Ythjdcgckonckoaa

namespace Go.Proofs.Ythjdcgckonckoaa
open Go.ChangeShapes Go.WideShapes Go.ChangeAt Go.RowKit
set_option linter.unusedVariables false

theorem belowT {w0 wb : World} {g : Nat} {a : Option Addr} {len cap : Nat} {zs : List Int} (n : Int) (hn : 0 < n) (w : World) (hc : Cur w0 wb g a len cap zs w) :
    Calls Try.prog 14 #[.pointer (some ⟨g, 0, none⟩), .int .i64 n] w fun e w' => ∃ r : Int, e = .returned (.int .i64 r) ∧ 0 ≤ r ∧ r < n ∧ Cur w0 wb g a len cap zs w' ∧ Touch g w w' :=
  (belowP n hn w hc.rebase).mono fun e w' ⟨r, he, h0, h1, h⟩ => ⟨r, he, h0, h1, Cur.since hc.touch h, h.touch⟩

theorem onceT {w0 wb : World} {g : Nat} {a : Option Addr} {len cap : Nat} {zs : List Int} (n : Int) (w : World) (hc : Cur w0 wb g a len cap zs w) :
    Calls Try.prog 16 #[.pointer (some ⟨g, 0, none⟩), .int .i64 n] w fun e w' => ∃ r : Bool, e = .returned (.bool r) ∧ Cur w0 wb g a len cap zs w' ∧ Touch g w w' :=
  (once n w hc.rebase).mono fun e w' ⟨r, he, h⟩ => ⟨r, he, Cur.since hc.touch h, h.touch⟩

theorem pickT {w0 wb : World} {g : Nat} {a : Option Addr} {len cap : Nat} {zs : List Int} (C : Array Value) (ty : TypeId) (n : Nat) (vs : List Int) (hC : C = (vs.map fun v => Value.int .i64 v).toArray) (hn : vs.length = n) (hpos : 0 < n) (hn2 : n ≤ 1000) (w : World) (hc : Cur w0 wb g a len cap zs w) :
    Calls Try.prog 36 #[.pointer (some ⟨g, 0, none⟩), .slice (some ⟨w.heap.size, 0, none⟩) n n] (w.alloc (.cells C ty)) fun e w' => ∃ v : Int, e = .returned (.int .i64 v) ∧ v ∈ vs ∧ Cur w0 wb g a len cap zs w' ∧ Touch g w w' := by
  refine (pickInt w.heap.size n vs hn hpos hn2 _ (hc.rebase.alloc (.cells C ty)) (Nat.ne_of_gt hc.here) (ints_alloc w C ty vs hC)).mono ?_
  rintro e w' ⟨k, hk, he, h⟩
  refine ⟨vs.getD k 0, he, ?_, Cur.since hc.touch h, h.touch⟩
  rw [List.getD_eq_getElem?_getD, List.getElem?_eq_getElem hk]
  exact List.getElem_mem hk

theorem textT {w0 wb : World} {g : Nat} {a : Option Addr} {len cap : Nat} {zs : List Int} (n : Int) (hn0 : 0 ≤ n) (hn : n ≤ 100000) (w : World) (hc : Cur w0 wb g a len cap zs w) :
    Calls Try.prog 25 #[.pointer (some ⟨g, 0, none⟩), .int .i64 n] w fun e w' => ∃ t : ByteArray, e = .returned (.string t) ∧ (t.size : Int) = n ∧ Cur w0 wb g a len cap zs w' ∧ Touch g w w' :=
  (drawText n hn0 hn w hc.rebase).mono fun e w' ⟨t, he, hz, h⟩ => ⟨t, he, hz, Cur.since hc.touch h, h.touch⟩

theorem Touch.put_new {g b : Nat} {w x : World} (h : Touch g w x) (hb : w.heap.size ≤ b) (i : Nat) (v : Value) : Touch g w (x.setCell ⟨b, i, none⟩ v) := by
  have hs := (Below.refl 0 x).setCell (p := ⟨b, i, none⟩) (Nat.zero_le _) v
  exact ⟨hs.os.trans h.os, hs.tape.trans h.tape, hs.output.trans h.output, Nat.le_trans h.size hs.size, fun k hk hg => (Below.heap_setCell x ⟨b, i, none⟩ v k (by show k ≠ b; omega)).trans (h.block k hk hg)⟩

theorem Cur.put_new {w0 wb : World} {g : Nat} {a : Option Addr} {len cap : Nat} {zs : List Int} {x : World} {b : Nat} (h : Cur w0 wb g a len cap zs x) (hne : b ≠ g) (h0 : w0.heap.size ≤ b) (h1 : wb.heap.size ≤ b) (i : Nat) (v : Value) : Cur w0 wb g a len cap zs (x.setCell ⟨b, i, none⟩ v) := by
  obtain ⟨j, y, hj, c0, c1, c2, f1, f2⟩ := h.cells
  have hc : ∀ q, (x.setCell ⟨b, i, none⟩ v).cell? ⟨g, q, none⟩ = x.cell? ⟨g, q, none⟩ := fun q => World.cell?_setCell_other x _ _ v (fun e => hne (congrArg Addr.block e))
  refine ⟨h.bytes, h.most, Below.setCell h.bel (p := ⟨b, i, none⟩) h0 v, h.low, ?_, h.touch.put_new h1 i v, j, y, hj, (hc 0).trans c0, (hc 1).trans c1, (hc 2).trans c2, ?_, ?_⟩
  · have := h.here
    simpa [World.setCell] using this
  · rw [World.frozen?_setCell]; exact f1
  · rw [World.frozen?_setCell]; exact f2
end Go.Proofs.Ythjdcgckonckoaa
