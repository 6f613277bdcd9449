/-
  The walk of l01Text.
  The drawing functions of the specification over a cursor: a drawn word is a word; a new cursor is one.
  The draws of chapter 2: a text, a half, and a turn (spec's l02Data, l02Half, l02Turn, DrawTurned).
  Contracts of the functions on windows: InWindow, Overlaps and Unwrap, impl's and spec's, at every argument; no condition but that words are words and ints are ints.
  Contracts of the ones sum of a number: impl's folded and spec's l02Fold at every number from 0 to 1099511627775; of isHalf; of impl's and spec's SumUpdate at every argument.
  Contracts of impl's and spec's PacketOk, and of the laws' copying of a packet, at every packet.
  Contracts of impl's and spec's SegOk and SegSpan, of the flags of a segment, and of the laws' copying of a segment, at every segment.
-/
import Derived.Test.YtigjppamjfnmcaaM1
import Derived.Laws.Concat
import Derived.Laws.BitsAllLaws
import Derived.Laws.ByValue
namespace Go.Proofs.Ytigjppamjfnmcaa
open Go.ChangeShapes Go.WideShapes Go.ChangeAt Go.RowKit
set_option linter.unusedVariables false

theorem startTS {w0 w : World} {g : Nat} {a : Option Addr} {len cap : Nat} {zs : List Int} {i : Nat} {h : Int} (hc : CurAt w0 w g a len cap zs i h w) : TS w0 w g a len cap zs i h 0 w.heap.size 0 0 (w.alloc (.cells #[] 5)) :=
  ⟨⟨i, h, cur_grown (row := none) hc.here hc (World.grownBy_alloc w _ none) (fun k e => by cases e), Nat.le_refl _, rfl, by omega⟩, hc.here, [], by simp, World.ownsRow_made w #[] 0 (Nat.le_refl _) (by decide) rfl⟩

set_option maxHeartbeats 4000000 in
set_option maxRecDepth 100000 in
theorem textTS {w0 : World} {g : Nat} {a : Option Addr} {len cap : Nat} {zs : List Int} (n : Nat) (hn : n ≤ 100000) (w : World) (hc : Cur w0 w g a len cap zs w) :
    Calls Try.prog 30 #[.pointer (some ⟨g, 0, none⟩), .int .i64 (n : Int)] w fun e w' => ∃ t : ByteArray, e = .returned (.string t) ∧ t.size = n ∧ Cur w0 w g a len cap zs w' := by
  obtain ⟨i, h, hc⟩ := hc.at_
  go_enter Try.func30, Try.ntmps30
  go_wp2
  go_loopw [5] (fun v wr => ∃ (gb cb m i : Nat) (h : Int), v = .slice (some ⟨gb, 0, none⟩) m cb ∧ m ≤ n + 20 ∧ CellsAt wr g a len cap i h ∧ TS w0 w g a len cap zs i h 0 gb cb m wr) (fun v wr => textLeft n len g v wr)
  case atStart =>
    obtain ⟨i', h', ht, hr, hcs⟩ := (startTS hc).again
    exact ⟨w.heap.size, 0, 0, i', h', rfl, by omega, hcs, ht⟩
  case round =>
    clear hc
    obtain ⟨gb, cb, m, i, h, rfl, hm, hcells, hts⟩ := hrel
    by_cases hlt : m < n
    · have hlt' : (m : Int) < (n : Int) := by omega
      go_wp2_with (first
        | (go_at_call 14; refine (TS.draw _ (by omega) (by omega) _ (by assumption)).mono ?_; rintro _ w1 ⟨r, rfl, hr0, hr1, hr2, ht1⟩)
        | (go_at_call 29; refine (TS.byte _ (by assumption)).mono ?_; rintro _ w2 ⟨r, rfl, hr0, hr1, ht2⟩)
        | (at_builtin; refine TS.append rfl _ _ rfl _ rfl _ ⟨by omega, by omega⟩ (by omega) rfl (by assumption) ?_; intro gb' cb' w3 ht3))
      · go_roundw
        case rel => exact (TS.close (gb := gb) (cb := cb) hlt hcells ht3 (by omega) (by omega) (.inl (by omega))).1
        case measure => exact (TS.close hlt hcells ht3 (by omega) (by omega) (.inl (by omega))).2
      · rename_i wa r5 ra0 ra1 hta hga hne0 heq1 wb k9 hk0 hk1 hg9 ht9
        go_loopw [5, 8] (fun v ii wr => ∃ (j gb cb : Nat), ii = .int .i64 j ∧ (j : Int) ≤ k9 ∧ v = .slice (some ⟨gb, 0, none⟩) (m + j) cb ∧ TS w0 w g a len cap zs i h 3 gb cb (m + j) wr) (fun _ ii _ => k9.toNat - (intOf ii).toNat)
        case atStart => exact ⟨0, gb, cb, rfl, by omega, rfl, ht1⟩
        case round =>
          obtain ⟨j, gc, cc, rfl, hj, rfl, htj⟩ := hrel
          by_cases hjk : (j : Int) < k9
          · go_wp2_with (at_builtin; refine TS.append rfl _ _ rfl _ rfl _ ⟨by omega, by omega⟩ (by omega) rfl htj ?_; intro gb' cb' w3 ht3)
            go_roundw
            case rel => exact ⟨j + 1, gb', cb', by go_num, by omega, rfl, ht3⟩
            case measure => simp [intOf]; omega
          · go_wp2
            have hp : m < m + j ∨ (m + j = m ∧ (i = len → 6 < left h)) := by
              by_cases hj0 : j = 0
              · exact .inr ⟨by omega, hga.out trivial trivial (.inl (by simpa using heq1))⟩
              · exact .inl (by omega)
            go_roundw
            case rel => exact (TS.close (gb := gb) (cb := cb) hlt hcells htj (by omega) (by omega) hp).1
            case measure => exact (TS.close hlt hcells htj (by omega) (by omega) hp).2
      · have hga := hr2
        have heq2 : (r == 2) = true := by assumption
        refine (TS.any (m : Int) (by omega) _ ht1).mono ?_
        rintro _ w5 ⟨fr, d, rfl, hf0, hf1, hd0, hd1, ht5⟩
        clear ht1 hr2
        obtain ⟨f, rfl⟩ := Int.eq_ofNat_of_zero_le hf0
        go_wp2_with (go_at_call 14; refine (TS.draw _ (by omega) (by omega) _ ht5).mono ?_; rintro _ w6 ⟨k20, rfl, hk0, hk1, hk2, ht6⟩)
        go_loopw [5, 11] (fun v ii wr => ∃ (j gb cb : Nat), ii = .int .i64 j ∧ (j : Int) ≤ k20 ∧ v = .slice (some ⟨gb, 0, none⟩) (m + j) cb ∧ TS w0 w g a len cap zs i h (0 + 1 + d + 1) gb cb (m + j) wr) (fun _ ii _ => k20.toNat - (intOf ii).toNat)
        case atStart => exact ⟨0, gb, cb, rfl, by omega, rfl, ht6⟩
        case round =>
          obtain ⟨j, gc, cc, rfl, hj, rfl, htj⟩ := hrel
          by_cases hjk : (j : Int) < k20
          · obtain ⟨y, hy, hy0, hy1⟩ := htj.cellAt (f + j) (by omega)
            have hfj : (f : Int) + (j : Int) < (m : Int) + (j : Int) := by omega
            go_wp2_with (at_builtin; refine TS.append rfl _ _ rfl _ rfl _ ⟨by omega, by omega⟩ (by omega) rfl htj ?_; intro gb' cb' w3 ht3)
            go_roundw
            case rel => exact ⟨j + 1, gb', cb', by go_num, by omega, rfl, ht3⟩
            case measure => simp [intOf]; omega
          · go_wp2
            have hp : m < m + j ∨ (m + j = m ∧ (i = len → 6 < left h)) := by
              by_cases hj0 : j = 0
              · exact .inr ⟨by omega, hga.out trivial trivial (.inr (by simpa using heq2))⟩
              · exact .inl (by omega)
            go_roundw
            case rel => exact (TS.close (gb := gb) (cb := cb) hlt hcells htj (by omega) (by omega) hp).1
            case measure => exact (TS.close hlt hcells htj (by omega) (by omega) hp).2
      · have heq2 : (r == 2) = true := by assumption
        have hp : m < m ∨ (m = m ∧ (i = len → 6 < left h)) := .inr ⟨rfl, hr2.out trivial trivial (.inr (by simpa using heq2))⟩
        go_roundw
        case rel => exact (TS.close (gb := gb) (cb := cb) hlt hcells ht1 (by omega) (by omega) hp).1
        case measure => exact (TS.close hlt hcells ht1 (by omega) (by omega) hp).2
      · go_roundw
        case rel => exact (TS.close (gb := gb) (cb := cb) hlt hcells ht3 (by omega) (by omega) (.inl (by omega))).1
        case measure => exact (TS.close hlt hcells ht3 (by omega) (by omega) (.inl (by omega))).2
    · have hcap := hts.le_cap
      have hge : (n : Int) ≤ (m : Int) := by omega
      have hncb : (n : Int) ≤ (cb : Int) := by omega
      obtain ⟨t, htn, hconv⟩ := hts.text n cb (by omega)
      have HC := hts.cur_
      clear hcells hts
      go_wp2
      go_ret
      exact ⟨t, rfl, htn, HC⟩
end Go.Proofs.Ytigjppamjfnmcaa

namespace Go.Proofs.Ytigjppamjfnmcaa
open Go.ChangeShapes Go.WideShapes Go.ChangeAt Go.RowKit
set_option linter.unusedVariables false

theorem belowP {w0 wb : World} {g : Nat} {a : Option Addr} {len cap : Nat} {zs : List Int} (n : Int) (hn : 0 < n) (w : World) (hc : Cur w0 wb g a len cap zs w) :
    Calls Try.prog 14 #[.pointer (some ⟨g, 0, none⟩), .int .i64 n] w fun e w' => ∃ r : Int, e = .returned (.int .i64 r) ∧ 0 ≤ r ∧ r < n ∧ Cur w0 wb g a len cap zs w' :=
  (below n w hc).mono fun e w' ⟨r, he, h0, h1, h⟩ => ⟨r, he, h0, h1 hn, h⟩

theorem ints_alloc (w : World) (C : Array Value) (t : TypeId) (vs : List Int) (h : C = (vs.map fun v => Value.int .i64 v).toArray) : Ints (w.alloc (.cells C t)) w.heap.size vs := by
  intro k hk
  rw [World.cell?_alloc_mark]
  subst h
  simp [hk]

theorem drawWord {w0 wb : World} {g : Nat} {a : Option Addr} {len cap : Nat} {zs : List Int} (w : World) (hc : Cur w0 wb g a len cap zs w) :
    Calls Try.prog 27 #[.pointer (some ⟨g, 0, none⟩)] w fun e w' => ∃ x : Int, e = .returned (.int .u32 x) ∧ IsWord x ∧ Cur w0 wb g a len cap zs w' := by
  go_enter Try.func27, Try.ntmps27
  go_wp2_with (first | (go_at_call 14; refine (belowP _ (by omega) _ (by assumption)).mono ?_; rintro _ w1 ⟨x, rfl, hx0, hx1, hc1⟩) | (go_at_call 28; refine (pickInt _ 11 [0, 1, 2, 31, 32, 255, 256, 2147483647, 2147483648, 4294967295, 4294967294] rfl (by omega) (by omega) _ (Cur.alloc (by assumption) _) (Nat.ne_of_gt (Cur.here (by assumption))) (ints_alloc _ _ _ _ rfl)).mono ?_; rintro _ w2 ⟨k, hk, rfl, hc2⟩))
  all_goals go_ret
  all_goals refine ⟨_, rfl, ?_, by assumption⟩
  all_goals unfold IsWord
  all_goals omega

theorem newCur (a : Option Addr) (len cap : Nat) (zs : List Int) (w0 : World) (hb : Bytes w0 a len zs) (hm : len ≤ 1048576) (w : World) (hw : Below w0.heap.size w0 w) (h : Int) :
    w.heap.size ≤ w.heap.size ∧ Below w.heap.size w (w.alloc (.cells #[.slice a len cap, .int .i64 0, .int .i64 h] 63)) ∧ Cur w0 (w.alloc (.cells #[.slice a len cap, .int .i64 0, .int .i64 h] 63)) w.heap.size a len cap zs (w.alloc (.cells #[.slice a len cap, .int .i64 0, .int .i64 h] 63)) := by
  have hsz := hw.size
  have hbel := (Below.refl w.heap.size w).alloc (Nat.le_refl _) (.cells #[.slice a len cap, .int .i64 0, .int .i64 h] 63)
  refine ⟨Nat.le_refl _, hbel, hb, hm, hw.trans (hbel.mono hsz), hsz, by simp, Touch.refl _ _, 0, h, Nat.zero_le _, ?_, ?_, ?_, ?_, ?_⟩
  · go_simp
  · go_simp
  · go_simp
  · go_simp
  · go_simp

set_option maxRecDepth 100000 in
theorem drawNew (a : Option Addr) (len cap : Nat) (zs : List Int) (w0 : World) (hb : Bytes w0 a len zs) (hm : len ≤ 1048576) (w : World) (hw : Below w0.heap.size w0 w) :
    Calls Try.prog 12 #[.slice a len cap] w fun e w' => ∃ g : Nat, e = .returned (.pointer (some ⟨g, 0, none⟩)) ∧ w.heap.size ≤ g ∧ Below w.heap.size w w' ∧ Cur w0 w' g a len cap zs w' := by
  have hsz := hw.size
  have hlm : (len : Int) ≤ 9223372036854775807 := by omega
  have hcell : ∀ k, k < len → ∃ b off z, a = some ⟨b, off, none⟩ ∧ w.cell? ⟨b, off + k, none⟩ = some (.int .u8 z) ∧ 0 ≤ z ∧ z ≤ 255 := by
    intro k hk
    rcases hb with h0 | ⟨b, off, ha, hl, h⟩
    · omega
    · obtain ⟨h1, h2, h3⟩ := h k hk
      exact ⟨b, off, _, ha, cell_later hw h1, h2, h3⟩
  have HB : Hid (Bytes w0 a len zs) := hb
  have HW : Hid (Below w0.heap.size w0 w) := hw
  clear hb hw
  go_enter Try.func12, Try.ntmps12
  go_wp2
  go_loop [3, 4] (fun h i => ∃ (k : Nat) (q : Int), k ≤ len ∧ i = .int .i64 k ∧ h = .int .i64 q) (fun _ i => len - (intOf i).toNat)
  case atStart => exact ⟨0, _, Nat.zero_le _, rfl, rfl⟩
  case round =>
    obtain ⟨k, q, hk, rfl, rfl⟩ := hrel
    by_cases hlt : k < len
    · obtain ⟨b, off, z, rfl, hz, hz0, hz1⟩ := hcell k hlt
      clear hcell
      have hlt' : (k : Int) < (len : Int) := by omega
      go_wp2
      · go_round
        case rel => exact ⟨k + 1, _, by omega, by go_num, rfl⟩
        case measure => simp [intOf]; omega
      · go_ret
        exact ⟨_, rfl, newCur _ len cap zs w0 HB.out hm w HW.out q⟩
    · obtain rfl : k = len := by omega
      clear hcell
      go_wp2
      go_ret
      exact ⟨_, rfl, newCur _ _ cap zs w0 HB.out hm w HW.out q⟩
end Go.Proofs.Ytigjppamjfnmcaa

namespace Go.Proofs.Ytigjppamjfnmcaa
open Go.ChangeShapes Go.WideShapes Go.ChangeAt Go.RowKit
set_option linter.unusedVariables false

theorem drawText {w0 wb : World} {g : Nat} {a : Option Addr} {len cap : Nat} {zs : List Int} (n : Int) (hn0 : 0 ≤ n) (hn : n ≤ 100000) (w : World) (hc : Cur w0 wb g a len cap zs w) :
    Calls Try.prog 30 #[.pointer (some ⟨g, 0, none⟩), .int .i64 n] w fun e w' => ∃ t : ByteArray, e = .returned (.string t) ∧ (t.size : Int) = n ∧ Cur w0 wb g a len cap zs w' := by
  obtain ⟨k, rfl⟩ := Int.eq_ofNat_of_zero_le hn0
  refine (textTS k (by omega) w hc.rebase).mono ?_
  rintro e w' ⟨t, rfl, ht, hc'⟩
  exact ⟨t, rfl, by omega, Cur.since hc.touch hc'⟩

theorem size_ (a : Option Addr) (len cap : Nat) (hm : len ≤ 1048576) (most : Int) (h2 : 2 ≤ most) (hmm : most ≤ 1000000) (w : World) :
    Calls Try.prog 31 #[.slice a len cap, .int .i64 most] w fun e w' => ∃ r : Int, e = .returned (.int .i64 r) ∧ 0 < r ∧ r ≤ most ∧ w = w' := by
  have ht := Int.tdiv_eq_ediv_of_nonneg (a := (len : Int)) (b := 20) (by omega)
  by_cases h : most < 2 + (len : Int) / 20
  · go_enter Try.func31, Try.ntmps31
    go_wp2
    go_ret
    exact ⟨most, rfl, by omega, by omega, rfl⟩
  · go_enter Try.func31, Try.ntmps31
    go_wp2
    go_ret
    exact ⟨_, rfl, by omega, by omega, rfl⟩

/-- A text of bytes that were just laid down. -/
theorem convNew (vs : List Int) (w : World) (n : Nat) (hn : vs.length = n) :
    (convert 22 9 (.slice (some ⟨w.heap.size, 0, none⟩) n n)).run Try.prog (w.alloc (.cells (vs.map (Value.int .u8)).toArray 5)) = .ok (.string (strOfNums vs)) (w.alloc (.cells (vs.map (Value.int .u8)).toArray 5)) := by
  refine run_convert_bytes_arg _ 22 5 Try.underlying22 Try.underlying5 _ 0 n n vs hn ?_ 9 Try.underlying9
  intro i hi
  rw [World.cell?_alloc_mark]
  simp [show i < vs.length by omega]

theorem results_tmp3 {fn : Func} {t u v : Tmp} (h : fn.results = #[.tmp t, .tmp u, .tmp v]) (tmps : Array Value) (P : Program) (w : World) :
    (results fn tmps).run P w = .ok (.tuple #[tmps.getD t undef, tmps.getD u undef, tmps.getD v undef]) w := by
  simp [results, h, go_sem]
end Go.Proofs.Ytigjppamjfnmcaa

namespace Go.Proofs.Ytigjppamjfnmcaa
open Go.ChangeShapes Go.WideShapes Go.ChangeAt Go.RowKit
set_option linter.unusedVariables false

/-- m is how far b is ahead of a, round the words, as a number from 0 on. -/
def IsAhead (a b m : Int) : Prop := 0 ≤ m ∧ m < 4294967296 ∧ (b - a - m) % 4294967296 = 0

theorem isAhead_ex (a b : Int) : ∃ m, IsAhead a b m := ⟨(b - a) % 4294967296, by unfold IsAhead; omega⟩

/-- x is an int. -/
def IsInt (x : Int) : Prop := -9223372036854775808 ≤ x ∧ x ≤ 9223372036854775807

theorem specIn (x a b : Int) (w : World) :
    Calls Try.prog 56 #[.int .i64 x, .int .i64 a, .int .i64 b] w fun e w' => e = .returned (.bool (decide (a ≤ x ∧ x ≤ b))) ∧ w = w' := by
  by_cases h1 : a ≤ x
  · have e1 : decide (a ≤ x ∧ x ≤ b) = decide (x ≤ b) := by simp [h1]
    rw [e1]
    clear e1
    go_enter Try.func56, Try.ntmps56
    go_wp2
    go_ret
    exact ⟨rfl, rfl⟩
  · have e1 : decide (a ≤ x ∧ x ≤ b) = false := by simp [h1]
    rw [e1]
    clear e1
    go_enter Try.func56, Try.ntmps56
    go_wp2
    go_ret
    exact ⟨rfl, rfl⟩
end Go.Proofs.Ytigjppamjfnmcaa

namespace Go.Proofs.Ytigjppamjfnmcaa
open Go.ChangeShapes Go.WideShapes Go.ChangeAt Go.RowKit
set_option linter.unusedVariables false

/-- The ones sum that a sum stands for. -/
def foldOf (n : Int) : Int := if n = 0 then 0 else (n - 1) % 65535 + 1

theorem foldOf_zero : foldOf 0 = 0 := rfl

theorem foldOf_small (n : Int) (h0 : 0 ≤ n) (h1 : n ≤ 65535) : foldOf n = n := by
  unfold foldOf
  split <;> omega

theorem foldOf_range (n : Int) (h0 : 0 ≤ n) : 0 ≤ foldOf n ∧ foldOf n ≤ 65535 := by
  unfold foldOf
  split <;> omega

theorem foldOf_mod (n : Int) (h0 : 0 ≤ n) : foldOf n % 65535 = n % 65535 := by
  unfold foldOf
  split <;> omega

theorem foldOf_pos (n : Int) (h0 : 0 < n) : 0 < foldOf n := by
  unfold foldOf
  split <;> omega

theorem foldOf_step (n : Int) (h : 65535 < n) : foldOf (n % 65536 + n / 65536) = foldOf n := by
  unfold foldOf
  rw [if_neg (by omega), if_neg (by omega)]
  omega

theorem foldOf_add (a b : Int) (ha : 0 ≤ a) (hb : 0 ≤ b) : foldOf (foldOf a + b) = foldOf (a + b) := by
  have h1 := foldOf_range a ha
  have h2 := foldOf_mod a ha
  by_cases h : a = 0
  · subst h
    rw [foldOf_zero]
  · have h3 := foldOf_pos a (by omega)
    generalize foldOf a = f at h1 h2 h3 ⊢
    unfold foldOf
    rw [if_neg (by omega), if_neg (by omega)]
    omega

theorem and65535 (x : Int) (h0 : 0 ≤ x) (h1 : x < 9223372036854775808) : bits .and .i64 x 65535 = x % 65536 := by
  have h : (BitVec.ofInt 64 x &&& BitVec.ofInt 64 65535).toNat = x.toNat % 65536 := by
    rw [BitVec.toNat_and]
    have e1 : (BitVec.ofInt 64 65535).toNat = 2 ^ 16 - 1 := by decide
    have e2 : (BitVec.ofInt 64 x).toNat = x.toNat := by
      rw [BitVec.toNat_ofInt]
      omega
    rw [e1, e2, Nat.and_two_pow_sub_one_eq_mod]
  have e : bits .and .i64 x 65535 = wrap64 ((BitVec.ofInt 64 x &&& BitVec.ofInt 64 65535).toNat : Int) := by
    rw [← IntWalk.i64_left]
    rfl
  rw [e, h, IntWalk.wrap64_in _ ⟨by omega, by omega⟩]
  omega

theorem folded (n : Int) (h0 : 0 ≤ n) (h1 : n < 1099511627776) (w : World) :
    Calls Try.prog 62 #[.int .i64 n] w fun e w' => e = .returned (.int .i64 (foldOf n)) ∧ w = w' := by
  go_enter Try.func62, Try.ntmps62
  go_wp2
  go_loop [0] (fun i => ∃ k : Int, 0 ≤ k ∧ k < 1099511627776 ∧ foldOf k = foldOf n ∧ i = .int .i64 k) (fun i => (intOf i).toNat)
  case atStart => exact ⟨n, h0, h1, rfl, rfl⟩
  case round =>
    obtain ⟨k, hk0, hk1, hk2, rfl⟩ := hrel
    have ha := and65535 k hk0 (by omega)
    go_wp2
    · have hlt : 65535 < k := by assumption
      go_round
      case rel =>
        refine ⟨k % 65536 + k / 65536, by omega, by omega, (foldOf_step k hlt).trans hk2, ?_⟩
        go_num
      case measure =>
        simp [intOf]
        omega
    · have hge : k ≤ 65535 := by omega
      go_ret
      refine ⟨?_, rfl⟩
      rw [← hk2, foldOf_small k hk0 hge]
      rfl

theorem specFold (n : Int) (h0 : 0 ≤ n) (h1 : n < 1099511627776) (w : World) :
    Calls Try.prog 36 #[.int .i64 n] w fun e w' => e = .returned (.int .i64 (foldOf n)) ∧ w = w' := by
  go_enter Try.func36, Try.ntmps36
  go_wp2
  go_loop [0] (fun i => ∃ k : Int, 0 ≤ k ∧ k < 1099511627776 ∧ foldOf k = foldOf n ∧ i = .int .i64 k) (fun i => (intOf i).toNat)
  case atStart => exact ⟨n, h0, h1, rfl, rfl⟩
  case round =>
    obtain ⟨k, hk0, hk1, hk2, rfl⟩ := hrel
    have ha := Int.tmod_eq_emod_of_nonneg (a := k) (b := 65536) hk0
    have hb := Int.tdiv_eq_ediv_of_nonneg (a := k) (b := 65536) hk0
    go_wp2
    · have hlt : 65535 < k := by assumption
      go_round
      case rel =>
        refine ⟨k % 65536 + k / 65536, by omega, by omega, (foldOf_step k hlt).trans hk2, ?_⟩
        go_num
      case measure =>
        simp [intOf]
        omega
    · have hge : k ≤ 65535 := by omega
      go_ret
      refine ⟨?_, rfl⟩
      rw [← hk2, foldOf_small k hk0 hge]
      rfl

theorem isHalf (n : Int) (w : World) :
    Calls Try.prog 58 #[.int .i64 n] w fun e w' => e = .returned (.bool (decide (0 ≤ n ∧ n ≤ 65535))) ∧ w = w' := by
  by_cases h1 : 0 ≤ n
  · have e1 : decide (0 ≤ n ∧ n ≤ 65535) = decide (n ≤ 65535) := by simp [h1]
    rw [e1]
    clear e1
    go_enter Try.func58, Try.ntmps58
    go_wp2
    go_ret
    exact ⟨rfl, rfl⟩
  · have e1 : decide (0 ≤ n ∧ n ≤ 65535) = false := by simp [h1]
    rw [e1]
    clear e1
    go_enter Try.func58, Try.ntmps58
    go_wp2
    go_ret
    exact ⟨rfl, rfl⟩

/-- What SumUpdate answers. -/
def updateOf (s o f : Int) : Int :=
  if (0 ≤ s ∧ s ≤ 65535) ∧ (0 ≤ o ∧ o ≤ 65535) ∧ (0 ≤ f ∧ f ≤ 65535) then 65535 - foldOf (131070 - s - o + f) else -1
end Go.Proofs.Ytigjppamjfnmcaa

namespace Go.Proofs.Ytigjppamjfnmcaa
open Go.ChangeShapes Go.WideShapes Go.ChangeAt Go.RowKit
set_option linter.unusedVariables false

/-- Nothing of what was there has turned. -/
def Since (a b : World) : Prop := Below a.heap.size a b

theorem Since.refl (w : World) : Since w w := Below.refl _ _

theorem Since.trans {a b c : World} (h : Since a b) (k : Since b c) : Since a c := Below.trans h (Below.mono k (Below.size h))

theorem Since.drew {a b : World} (h : Since a b) : Since a b.drew := Below.drew h

theorem Since.alloc {a b : World} (h : Since a b) (o : Obj) : Since a (b.alloc o) := Below.alloc h (Below.size h) o

theorem Since.of {a b : World} (h : Newer a b) : Since a b := h.2

theorem Since.le {a b : World} (h : Since a b) : a.heap.size ≤ b.heap.size := Below.size h

theorem kept6 {w w' : World} {c0 c1 c2 c3 c4 c5 : Value} {t : TypeId} (h : Since (w.alloc (.cells #[c0, c1, c2, c3, c4, c5] t)) w') :
    w'.cell? ⟨w.heap.size, 0, none⟩ = some c0 ∧ w'.cell? ⟨w.heap.size, 1, none⟩ = some c1 ∧ w'.cell? ⟨w.heap.size, 2, none⟩ = some c2 ∧
    w'.cell? ⟨w.heap.size, 3, none⟩ = some c3 ∧ w'.cell? ⟨w.heap.size, 4, none⟩ = some c4 ∧ w'.cell? ⟨w.heap.size, 5, none⟩ = some c5 := by
  have k : ∀ i : Nat, w'.cell? ⟨w.heap.size, i, none⟩ = #[c0, c1, c2, c3, c4, c5][i]? := fun i => by
    rw [Below.cell h (p := ⟨w.heap.size, i, none⟩) (by simp)]
    exact World.cell?_alloc_mark w _ _ _ i
  exact ⟨k 0, k 1, k 2, k 3, k 4, k 5⟩

/-- A packet as a value. -/
def pktVal (src dst id ttl proto : Int) (d : ByteArray) : Value := .agg #[.int .u32 src, .int .u32 dst, .int .i64 id, .int .i64 ttl, .int .i64 proto, .string d]

/-- What PacketOk answers. -/
def pktOk (id ttl proto : Int) (d : ByteArray) : Bool := decide (0 ≤ id ∧ id ≤ 65535) && (decide (0 ≤ ttl ∧ ttl ≤ 255) && (decide (0 ≤ proto ∧ proto ≤ 255) && decide (d.size ≤ 1980)))

theorem isByte (x : Int) (w : World) :
    Calls Try.prog 65 #[.int .i64 x] w fun e w' => e = .returned (.bool (decide (0 ≤ x ∧ x ≤ 255))) ∧ w = w' := by
  by_cases h1 : 0 ≤ x
  · have e1 : decide (0 ≤ x ∧ x ≤ 255) = decide (x ≤ 255) := by simp [h1]
    rw [e1]
    clear e1
    go_enter Try.func65, Try.ntmps65
    go_wp2
    go_ret
    exact ⟨rfl, rfl⟩
  · have e1 : decide (0 ≤ x ∧ x ≤ 255) = false := by simp [h1]
    rw [e1]
    clear e1
    go_enter Try.func65, Try.ntmps65
    go_wp2
    go_ret
    exact ⟨rfl, rfl⟩

theorem implPacketOk (src dst id ttl proto : Int) (d : ByteArray) (w : World) :
    Calls Try.prog 45 #[pktVal src dst id ttl proto d] w fun e w' => e = .returned (.bool (pktOk id ttl proto d)) ∧ Since w w' := by
  unfold pktVal pktOk
  have i1 := fun wx => isHalf id wx
  have i2 := fun wx => isByte ttl wx
  have i3 := fun wx => isByte proto wx
  have e4 : decide (d.size ≤ 1980) = decide ((d.size : Int) ≤ 1980) := by simp; omega
  rw [e4]
  clear e4
  generalize decide (0 ≤ id ∧ id ≤ 65535) = b1 at i1 ⊢
  generalize decide (0 ≤ ttl ∧ ttl ≤ 255) = b2 at i2 ⊢
  generalize decide (0 ≤ proto ∧ proto ≤ 255) = b3 at i3 ⊢
  cases b1
  · go_enter Try.func45, Try.ntmps45
    go_wp2_with (go_at_call 58; refine (i1 _).mono ?_; rintro _ _ ⟨rfl, rfl⟩)
    go_ret
    exact ⟨rfl, by repeat (first | exact Since.refl _ | apply Since.drew | apply Since.alloc)⟩
  cases b2
  · go_enter Try.func45, Try.ntmps45
    go_wp2_with (first | (go_at_call 58; refine (i1 _).mono ?_; rintro _ _ ⟨rfl, rfl⟩) | (go_at_call 65; refine (i2 _).mono ?_; rintro _ _ ⟨rfl, rfl⟩))
    go_ret
    exact ⟨rfl, by repeat (first | exact Since.refl _ | apply Since.drew | apply Since.alloc)⟩
  cases b3
  · go_enter Try.func45, Try.ntmps45
    go_wp2_with (first | (go_at_call 58; refine (i1 _).mono ?_; rintro _ _ ⟨rfl, rfl⟩) | (go_at_call 65; refine (i2 _).mono ?_; clear i2; rintro _ _ ⟨rfl, rfl⟩) | (go_at_call 65; refine (i3 _).mono ?_; clear i3; rintro _ _ ⟨rfl, rfl⟩))
    go_ret
    exact ⟨rfl, by repeat (first | exact Since.refl _ | apply Since.drew | apply Since.alloc)⟩
  · go_enter Try.func45, Try.ntmps45
    go_wp2_with (first | (go_at_call 58; refine (i1 _).mono ?_; rintro _ _ ⟨rfl, rfl⟩) | (go_at_call 65; refine (i2 _).mono ?_; clear i2; rintro _ _ ⟨rfl, rfl⟩) | (go_at_call 65; refine (i3 _).mono ?_; clear i3; rintro _ _ ⟨rfl, rfl⟩))
    go_ret
    exact ⟨rfl, by repeat (first | exact Since.refl _ | apply Since.drew | apply Since.alloc)⟩

theorem specPacketOk (src dst id ttl proto : Int) (d : ByteArray) (w : World) :
    Calls Try.prog 39 #[pktVal src dst id ttl proto d] w fun e w' => e = .returned (.bool (pktOk id ttl proto d)) ∧ Since w w' := by
  unfold pktVal pktOk
  have i1 := fun wx => specIn id 0 65535 wx
  have i2 := fun wx => specIn ttl 0 255 wx
  have i3 := fun wx => specIn proto 0 255 wx
  have e4 : decide (d.size ≤ 1980) = decide ((d.size : Int) ≤ 1980) := by simp; omega
  rw [e4]
  clear e4
  generalize decide (0 ≤ id ∧ id ≤ 65535) = b1 at i1 ⊢
  generalize decide (0 ≤ ttl ∧ ttl ≤ 255) = b2 at i2 ⊢
  generalize decide (0 ≤ proto ∧ proto ≤ 255) = b3 at i3 ⊢
  cases b1
  · go_enter Try.func39, Try.ntmps39
    go_wp2_with (go_at_call 56; refine (i1 _).mono ?_; rintro _ _ ⟨rfl, rfl⟩)
    go_ret
    exact ⟨rfl, by repeat (first | exact Since.refl _ | apply Since.drew | apply Since.alloc)⟩
  cases b2
  · go_enter Try.func39, Try.ntmps39
    go_wp2_with (first | (go_at_call 56; refine (i1 _).mono ?_; clear i1; rintro _ _ ⟨rfl, rfl⟩) | (go_at_call 56; refine (i2 _).mono ?_; rintro _ _ ⟨rfl, rfl⟩))
    go_ret
    exact ⟨rfl, by repeat (first | exact Since.refl _ | apply Since.drew | apply Since.alloc)⟩
  cases b3
  · go_enter Try.func39, Try.ntmps39
    go_wp2_with (first | (go_at_call 56; refine (i1 _).mono ?_; clear i1; rintro _ _ ⟨rfl, rfl⟩) | (go_at_call 56; refine (i2 _).mono ?_; clear i2; rintro _ _ ⟨rfl, rfl⟩) | (go_at_call 56; refine (i3 _).mono ?_; clear i3; rintro _ _ ⟨rfl, rfl⟩))
    go_ret
    exact ⟨rfl, by repeat (first | exact Since.refl _ | apply Since.drew | apply Since.alloc)⟩
  · go_enter Try.func39, Try.ntmps39
    go_wp2_with (first | (go_at_call 56; refine (i1 _).mono ?_; clear i1; rintro _ _ ⟨rfl, rfl⟩) | (go_at_call 56; refine (i2 _).mono ?_; clear i2; rintro _ _ ⟨rfl, rfl⟩) | (go_at_call 56; refine (i3 _).mono ?_; clear i3; rintro _ _ ⟨rfl, rfl⟩))
    go_ret
    exact ⟨rfl, by repeat (first | exact Since.refl _ | apply Since.drew | apply Since.alloc)⟩
end Go.Proofs.Ytigjppamjfnmcaa

namespace Go.Proofs.Ytigjppamjfnmcaa
open Go.ChangeShapes Go.WideShapes Go.ChangeAt Go.RowKit
set_option linter.unusedVariables false

theorem kept8 {w w' : World} {c0 c1 c2 c3 c4 c5 c6 c7 : Value} {t : TypeId} (h : Since (w.alloc (.cells #[c0, c1, c2, c3, c4, c5, c6, c7] t)) w') :
    w'.cell? ⟨w.heap.size, 0, none⟩ = some c0 ∧ w'.cell? ⟨w.heap.size, 1, none⟩ = some c1 ∧ w'.cell? ⟨w.heap.size, 2, none⟩ = some c2 ∧ w'.cell? ⟨w.heap.size, 3, none⟩ = some c3 ∧ w'.cell? ⟨w.heap.size, 4, none⟩ = some c4 ∧ w'.cell? ⟨w.heap.size, 5, none⟩ = some c5 ∧ w'.cell? ⟨w.heap.size, 6, none⟩ = some c6 ∧ w'.cell? ⟨w.heap.size, 7, none⟩ = some c7 := by
  have k : ∀ i : Nat, w'.cell? ⟨w.heap.size, i, none⟩ = #[c0, c1, c2, c3, c4, c5, c6, c7][i]? := fun i => by
    rw [Below.cell h (p := ⟨w.heap.size, i, none⟩) (by simp)]
    exact World.cell?_alloc_mark w _ _ _ i
  exact ⟨k 0, k 1, k 2, k 3, k 4, k 5, k 6, k 7⟩

theorem isInt_wf {x : Int} (h : (Lit.int .i64 x).wf = true) : IsInt x := by
  have := bounds_i64 h
  unfold IsInt
  omega

/-- A segment as a value. -/
def segVal (fr to sq ak fl wn ms : Int) (d : ByteArray) : Value := .agg #[.int .i64 fr, .int .i64 to, .int .u32 sq, .int .u32 ak, .int .i64 fl, .int .i64 wn, .int .i64 ms, .string d]

/-- Whether flags have a flag. -/
def hasF (fl b : Int) : Bool := decide (0 ≤ fl) && decide (fl / b % 2 = 1)

/-- The flags there are. -/
def IsFlag (b : Int) : Prop := b = 1 ∨ b = 2 ∨ b = 4 ∨ b = 8 ∨ b = 16

theorem and_pow (x i : Nat) : x &&& 2 ^ i = if x / 2 ^ i % 2 = 1 then 2 ^ i else 0 := by
  apply Nat.eq_of_testBit_eq
  intro j
  rw [Nat.testBit_and, Nat.testBit_two_pow]
  by_cases h : i = j
  · subst h
    by_cases k : x / 2 ^ i % 2 = 1
    · rw [if_pos k, Nat.testBit_two_pow, Nat.testBit_eq_decide_div_mod_eq, decide_eq_true k]
      simp
    · rw [if_neg k, Nat.testBit_eq_decide_div_mod_eq, decide_eq_false k]
      simp
  · by_cases k : x / 2 ^ i % 2 = 1
    · simp [k, h]
    · simp [k, h]

theorem and_flag (x : Nat) (hx : x < 9223372036854775808) (i : Nat) (hi : i ≤ 4) : bits .and .i64 (x : Int) ((2 ^ i : Nat) : Int) = if x / 2 ^ i % 2 = 1 then ((2 ^ i : Nat) : Int) else 0 := by
  have hp : 2 ^ i < 9223372036854775808 := Nat.lt_of_le_of_lt (Nat.pow_le_pow_right (by decide) hi) (by decide)
  rw [(bits_nat .i64 63 (by decide) (fun n h2 h3 => by rw [IntWalk.i64_left]; exact IntWalk.wrap64_in _ ⟨by omega, by omega⟩) x (2 ^ i) (by simpa using hx) (by simpa using hp)).1]
  rw [and_pow]
  by_cases h : x / 2 ^ i % 2 = 1
  · rw [if_pos h, if_pos h]
  · rw [if_neg h, if_neg h]
    rfl

theorem and_has (fl b : Int) (h0 : 0 ≤ fl) (h1 : fl ≤ 9223372036854775807) (hb : IsFlag b) : (bits .and .i64 fl b == 0) = !hasF fl b := by
  have h2 : ((fl.toNat : Nat) : Int) = fl := Int.toNat_of_nonneg h0
  have key : ∀ i : Nat, i ≤ 4 → (bits .and .i64 fl ((2 ^ i : Nat) : Int) == 0) = !hasF fl ((2 ^ i : Nat) : Int) := fun i hi => by
    have e := and_flag fl.toNat (by omega) i hi
    rw [h2] at e
    rw [e]
    have h3 : (fl / ((2 ^ i : Nat) : Int) % 2 = 1) ↔ (fl.toNat / 2 ^ i % 2 = 1) := by
      rw [← h2]
      norm_cast
    unfold hasF
    by_cases h : fl.toNat / 2 ^ i % 2 = 1
    · have hp : ((2 ^ i : Nat) : Int) ≠ 0 := by
        have := Nat.two_pow_pos i
        omega
      rw [if_pos h, decide_eq_true (h3.2 h), decide_eq_true h0]
      simpa using hp
    · rw [if_neg h, decide_eq_false (fun k => h (h3.1 k))]
      simp
  rcases hb with h | h | h | h | h <;> subst h
  · exact key 0 (by decide)
  · exact key 1 (by decide)
  · exact key 2 (by decide)
  · exact key 3 (by decide)
  · exact key 4 (by decide)

theorem hasFlag (fl b : Int) (hf : IsInt fl) (hb : IsFlag b) (w : World) :
    Calls Try.prog 75 #[.int .i64 fl, .int .i64 b] w fun e w' => e = .returned (.bool (hasF fl b)) ∧ w = w' := by
  by_cases h0 : 0 ≤ fl
  · have h1 := and_has fl b h0 hf.2 hb
    generalize hasF fl b = r at h1 ⊢
    go_enter Try.func75, Try.ntmps75
    go_wp2
    go_ret
    refine ⟨?_, rfl⟩
    simp [bne, h1]
  · rw [show hasF fl b = false by simp [hasF, h0]]
    go_enter Try.func75, Try.ntmps75
    go_wp2
    go_ret
    exact ⟨rfl, rfl⟩

theorem specHas (fl b : Int) (h0 : 0 ≤ fl) (hf : IsInt fl) (hb : IsFlag b) (w : World) :
    Calls Try.prog 32 #[.int .i64 fl, .int .i64 b] w fun e w' => e = .returned (.bool (hasF fl b)) ∧ w = w' := by
  have hd := Int.tdiv_eq_ediv_of_nonneg (a := fl) (b := b) h0
  have hb0 : 0 < b := by rcases hb with h | h | h | h | h <;> omega
  have hq : 0 ≤ fl / b := Int.ediv_nonneg h0 (by omega)
  have hm := Int.tmod_eq_emod_of_nonneg (a := fl / b) (b := 2) hq
  have hle : fl / b ≤ fl := Int.ediv_le_self _ h0
  have hn : (b == 0) = false := by simp; omega
  have hw : IntKind.i64.wrap (fl / b) = fl / b := by rw [IntWalk.i64_left]; exact IntWalk.wrap64_in _ ⟨by omega, by have := hf.2; omega⟩
  have e : hasF fl b = (fl / b % 2 == 1) := by simp [hasF, h0, BEq.beq]
  rw [e]
  go_enter Try.func32, Try.ntmps32
  go_wp2
  go_ret
  refine ⟨?_, rfl⟩
  simp

theorem isPort (n : Int) (w : World) :
    Calls Try.prog 57 #[.int .i64 n] w fun e w' => e = .returned (.bool (decide (1 ≤ n ∧ n ≤ 65535))) ∧ w = w' := by
  by_cases h1 : 1 ≤ n
  · have e1 : decide (1 ≤ n ∧ n ≤ 65535) = decide (n ≤ 65535) := by simp [h1]
    rw [e1]
    clear e1
    go_enter Try.func57, Try.ntmps57
    go_wp2
    go_ret
    exact ⟨rfl, rfl⟩
  · have e1 : decide (1 ≤ n ∧ n ≤ 65535) = false := by simp [h1]
    rw [e1]
    clear e1
    go_enter Try.func57, Try.ntmps57
    go_wp2
    go_ret
    exact ⟨rfl, rfl⟩

/-- What is asked of Mss. -/
def mssFits (fl ms : Int) : Bool := decide (ms = 0) || (hasF fl 2 && decide (64 ≤ ms ∧ ms ≤ 1460))

/-- What SegOk answers. -/
def segOk (fr to fl wn ms : Int) (d : ByteArray) : Bool :=
  decide (1 ≤ fr ∧ fr ≤ 65535) && (decide (1 ≤ to ∧ to ≤ 65535) && (decide (0 ≤ fl ∧ fl ≤ 31) && (decide (0 ≤ wn ∧ wn ≤ 65535) && (mssFits fl ms && decide (d.size ≤ 536)))))

theorem mssOk (fr to sq ak fl wn ms : Int) (d : ByteArray) (hf : IsInt fl) (w : World) :
    Calls Try.prog 59 #[segVal fr to sq ak fl wn ms d] w fun e w' => e = .returned (.bool (mssFits fl ms)) ∧ Since w w' := by
  unfold segVal
  have i1 := fun wx => hasFlag fl 2 hf (by simp [IsFlag]) wx
  unfold mssFits
  by_cases h0 : ms = 0
  · rw [show (decide (ms = 0) || (hasF fl 2 && decide (64 ≤ ms ∧ ms ≤ 1460))) = true by simp [h0]]
    go_enter Try.func59, Try.ntmps59
    go_wp2
    go_ret
    exact ⟨by simp [h0], by repeat (first | exact Since.refl _ | apply Since.drew | apply Since.alloc)⟩
  · rw [show decide (ms = 0) = false by simp [h0]]
    have h0' : (ms == 0) = false := by simp [h0]
    generalize hasF fl 2 = b at i1 ⊢
    cases b
    · go_enter Try.func59, Try.ntmps59
      go_wp2_with (go_at_call 75; refine (i1 _).mono ?_; rintro _ _ ⟨rfl, rfl⟩)
      go_ret
      exact ⟨by simp, by repeat (first | exact Since.refl _ | apply Since.drew | apply Since.alloc)⟩
    · by_cases h1 : 64 ≤ ms
      · rw [show (false || (true && decide (64 ≤ ms ∧ ms ≤ 1460))) = decide (ms ≤ 1460) by simp [h1]]
        go_enter Try.func59, Try.ntmps59
        go_wp2_with (go_at_call 75; refine (i1 _).mono ?_; rintro _ _ ⟨rfl, rfl⟩)
        go_ret
        exact ⟨by simp, by repeat (first | exact Since.refl _ | apply Since.drew | apply Since.alloc)⟩
      · rw [show (false || (true && decide (64 ≤ ms ∧ ms ≤ 1460))) = false by simp [h1]]
        go_enter Try.func59, Try.ntmps59
        go_wp2_with (go_at_call 75; refine (i1 _).mono ?_; rintro _ _ ⟨rfl, rfl⟩)
        go_ret
        exact ⟨by simp, by repeat (first | exact Since.refl _ | apply Since.drew | apply Since.alloc)⟩
end Go.Proofs.Ytigjppamjfnmcaa
