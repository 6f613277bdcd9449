/-
  The drawing functions of the specification over a cursor: a drawn word is a word; a new cursor is one.
-/
import Derived.Test.YtjilpicpfddbfaaDoorDraw
namespace Go.Proofs.YtjilpicpfddbfaaDoor
open Go.ChangeShapes Go.WideShapes Go.ChangeAt Go.RowKit
set_option linter.unusedVariables false
set_option maxRecDepth 10000

theorem belowP {w0 wb : World} {g : Nat} {a : Option Addr} {len cap : Nat} {zs : List Int} (n : Int) (hn : 0 < n) (w : World) (hc : Cur w0 wb g a len cap zs w) :
    Calls Tryd.prog 21 #[.pointer (some ⟨g, 0, none⟩), .int .i64 n] w fun e w' => ∃ r : Int, e = .returned (.int .i64 r) ∧ 0 ≤ r ∧ r < n ∧ Cur w0 wb g a len cap zs w' :=
  (below n w hc).mono fun e w' ⟨r, he, h0, h1, h⟩ => ⟨r, he, h0, h1 hn, h⟩

theorem ints_alloc (w : World) (C : Array Value) (t : TypeId) (vs : List Int) (h : C = (vs.map fun v => Value.int .i64 v).toArray) : Ints (w.alloc (.cells C t)) w.heap.size vs := by
  intro k hk
  rw [World.cell?_alloc_mark]
  subst h
  simp [hk]

theorem drawWord {w0 wb : World} {g : Nat} {a : Option Addr} {len cap : Nat} {zs : List Int} (w : World) (hc : Cur w0 wb g a len cap zs w) :
    Calls Tryd.prog 18 #[.pointer (some ⟨g, 0, none⟩)] w fun e w' => ∃ x : Int, e = .returned (.int .u32 x) ∧ IsWord x ∧ Cur w0 wb g a len cap zs w' := by
  go_enter Tryd.func18, Tryd.ntmps18
  go_wp2_with (first | (go_at_call 21; refine (belowP _ (by omega) _ (by assumption)).mono ?_; rintro _ w1 ⟨x, rfl, hx0, hx1, hc1⟩) | (go_at_call 30; refine (pickInt _ 11 [0, 1, 2, 31, 32, 255, 256, 2147483647, 2147483648, 4294967295, 4294967294] rfl (by omega) (by omega) _ (Cur.alloc (by assumption) _) (Nat.ne_of_gt (Cur.here (by assumption))) (ints_alloc _ _ _ _ rfl)).mono ?_; rintro _ w2 ⟨k, hk, rfl, hc2⟩))
  all_goals go_ret
  all_goals refine ⟨_, rfl, ?_, by assumption⟩
  all_goals unfold IsWord
  all_goals omega

theorem newCur (a : Option Addr) (len cap : Nat) (zs : List Int) (w0 : World) (hb : Bytes w0 a len zs) (hm : len ≤ 1048576) (w : World) (hw : Below w0.heap.size w0 w) (h : Int) :
    w.heap.size ≤ w.heap.size ∧ Below w.heap.size w (w.alloc (.cells #[.slice a len cap, .int .i64 0, .int .i64 h] 52)) ∧ Cur w0 (w.alloc (.cells #[.slice a len cap, .int .i64 0, .int .i64 h] 52)) w.heap.size a len cap zs (w.alloc (.cells #[.slice a len cap, .int .i64 0, .int .i64 h] 52)) := by
  have hsz := hw.size
  have hbel := (Below.refl w.heap.size w).alloc (Nat.le_refl _) (.cells #[.slice a len cap, .int .i64 0, .int .i64 h] 52)
  refine ⟨Nat.le_refl _, hbel, hb, hm, hw.trans (hbel.mono hsz), hsz, by simp, Touch.refl _ _, 0, h, Nat.zero_le _, ?_, ?_, ?_, ?_, ?_⟩
  · go_simp
  · go_simp
  · go_simp
  · go_simp
  · go_simp

set_option maxRecDepth 100000 in
theorem drawNew (a : Option Addr) (len cap : Nat) (zs : List Int) (w0 : World) (hb : Bytes w0 a len zs) (hm : len ≤ 1048576) (w : World) (hw : Below w0.heap.size w0 w) :
    Calls Tryd.prog 17 #[.slice a len cap] w fun e w' => ∃ g : Nat, e = .returned (.pointer (some ⟨g, 0, none⟩)) ∧ w.heap.size ≤ g ∧ Below w.heap.size w w' ∧ Cur w0 w' g a len cap zs w' := by
  have hsz := hw.size
  have hlm : (len : Int) ≤ 9223372036854775807 := by omega
  have hcell : ∀ k, k < len → ∃ b off z, a = some ⟨b, off, none⟩ ∧ w.cell? ⟨b, off + k, none⟩ = some (.int .u8 z) ∧ 0 ≤ z ∧ z ≤ 255 := by
    intro k hk
    rcases hb with h0 | ⟨b, off, ha, hl, h⟩
    · omega
    · obtain ⟨h1, h2, h3⟩ := h k hk
      exact ⟨b, off, _, ha, cell_later hw h1, h2, h3⟩
  have HB : Hid (Bytes w0 a len zs) := hb
  have HW : Hid (Below w0.heap.size w0 w) := hw
  clear hb hw
  go_enter Tryd.func17, Tryd.ntmps17
  go_wp2
  go_loop [3, 4] (fun h i => ∃ (k : Nat) (q : Int), k ≤ len ∧ i = .int .i64 k ∧ h = .int .i64 q) (fun _ i => len - (intOf i).toNat)
  case atStart => exact ⟨0, _, Nat.zero_le _, rfl, rfl⟩
  case round =>
    obtain ⟨k, q, hk, rfl, rfl⟩ := hrel
    by_cases hlt : k < len
    · obtain ⟨b, off, z, rfl, hz, hz0, hz1⟩ := hcell k hlt
      clear hcell
      have hlt' : (k : Int) < (len : Int) := by omega
      go_wp2
      · go_round
        case rel => exact ⟨k + 1, _, by omega, by go_num, rfl⟩
        case measure => simp [intOf]; omega
      · go_ret
        exact ⟨_, rfl, newCur _ len cap zs w0 HB.out hm w HW.out q⟩
    · obtain rfl : k = len := by omega
      clear hcell
      go_wp2
      go_ret
      exact ⟨_, rfl, newCur _ _ cap zs w0 HB.out hm w HW.out q⟩
end Go.Proofs.YtjilpicpfddbfaaDoor
