/-
  Contracts of the laws' functions over a list of ops: copied, held against another, marked.
-/
import Derived.Test.YtdampggjnmmhfaaOps
import Derived.Test.YtdampggjnmmhfaaNetDoLaw
import Derived.Test.YtdampggjnmmhfaaCalm
namespace Go.Proofs.Ytdampggjnmmhfaa
open Go.ChangeShapes Go.WideShapes Go.ChangeAt Go.RowKit
set_option linter.unusedVariables false

theorem addr_next (x : Addr) (m j : Nat) (hj : 0 < j) : (⟨(x.add m).block, (x.add m).off + j, none⟩ : Addr) = x.add (m + j) := by
  unfold Addr.add
  by_cases hm : m = 0
  · subst hm
    simp [show j ≠ 0 by omega]
  · simp [hm]
    omega

theorem info_op : (Try.prog.info? 38).map (fun i => (i.zero, i.size, i.bytes)) = some (some (.agg #[.int .i64 0, .int .i64 0, .int .i64 0, .int .i64 0]), 4, 32) := by kernel_rfl

theorem opAt_take_set (os : List Op4) (n k : Nat) (hl : os.length = n) (hk : k < n) : (os.take k ++ List.replicate (n - k) (⟨0, 0, 0, 0⟩ : Op4)).set k (opAt os k) = os.take (k + 1) ++ List.replicate (n - (k + 1)) (⟨0, 0, 0, 0⟩ : Op4) := by
  have hk' : k < os.length := by omega
  have e : opAt os k = os[k] := by simp [opAt, List.getD, List.getElem?_eq_getElem hk']
  have h1 : List.replicate (n - k) (⟨0, 0, 0, 0⟩ : Op4) = ⟨0, 0, 0, 0⟩ :: List.replicate (n - (k + 1)) ⟨0, 0, 0, 0⟩ := by
    rw [show n - k = (n - (k + 1)) + 1 by omega, List.replicate_succ]
  have hlen : (os.take k).length = k := by rw [List.length_take]; omega
  have h2 : os.take (k + 1) = os.take k ++ [os[k]] := by rw [List.take_succ_eq_append_getElem hk']
  rw [h1, h2, e]
  generalize os.take k = l at hlen ⊢
  subst hlen
  simp

theorem flat_zero : ∀ n : Nat, flat (List.replicate n ⟨0, 0, 0, 0⟩) = List.replicate (n * 4) (.int .i64 0)
  | 0 => rfl
  | n + 1 => by
    rw [List.replicate_succ, show (n + 1) * 4 = n * 4 + 1 + 1 + 1 + 1 by omega, List.replicate_succ, List.replicate_succ, List.replicate_succ, List.replicate_succ]
    simp only [flat, flat_zero n]

theorem made_ops {w : World} {B g n : Nat} (h : w.ownsRow B 38 4 (.slice (some ⟨g, 0, none⟩) n n) n (madeCells #[.int .i64 0, .int .i64 0, .int .i64 0, .int .i64 0] (n * 4)).toList) : OpsOwn w B g n (List.replicate n ⟨0, 0, 0, 0⟩) := by
  rcases h.2 with ⟨h1, _⟩ | ⟨g', cap', cur, h1, h2, h3, h4, h5, h6, h7⟩
  · cases h1
  · simp only [Value.slice.injEq, Option.some.injEq, Addr.mk.injEq] at h1
    obtain ⟨⟨rfl, _, _⟩, _, rfl⟩ := h1
    refine ⟨by simp, h2, ?_⟩
    rw [h3]
    have e : cur = (flat (List.replicate n ⟨0, 0, 0, 0⟩)).toArray := by
      have e1 : cur.toList.take (n * 4) = cur.toList := List.take_of_length_le (by simp [h6])
      rw [e1] at h7
      apply Array.toList_inj.1
      rw [h7, flat_zero]
      apply List.ext_getElem?
      intro j
      by_cases hj : j < n * 4
      · simp only [madeCells, Array.getElem?_toList, List.getElem?_replicate, hj, if_true]
        have hm : j % 4 = 0 ∨ j % 4 = 1 ∨ j % 4 = 2 ∨ j % 4 = 3 := by omega
        rcases hm with h | h | h | h <;> simp [hj, h]
      · simp [madeCells, hj]
    rw [e]

set_option maxHeartbeats 1000000 in
theorem toOps (a : Option Addr) (n cap : Nat) (os : List Op4) (hn : n ≤ 1048576) (w : World) (R : OpsRead w a n os) :
    Calls Try.prog 22 #[.slice a n cap] w fun e w' => ∃ g, e = .returned (.slice (some ⟨g, 0, none⟩) n n) ∧ OpsOwn w' w.heap.size g n os ∧ Since w w' := by
  obtain ⟨ii, hi, hz0, hz1, hz2⟩ := info_parts info_op
  go_enter Try.func22, Try.ntmps22
  go_wp2_with (refine wpList_make_full _ rfl _ _ 45 rfl w.heap.size 38 ii (.agg #[.int .i64 0, .int .i64 0, .int .i64 0, .int .i64 0]) 4 Try.underlying45 hi hz0 hz1 .i64 .i64 _ _ n rfl rfl rfl rfl ?c1 ?c2 (Nat.le_refl _) ?_)
  case c1 => rw [hz2]; omega
  case c2 => unfold maxLen; omega
  intro w1 hown hgrow
  have T0 := made_ops hown
  have S0 : Since w w1 := ⟨hgrow.os, hgrow.tape, hgrow.output, hgrow.size, fun k hk => hgrow.block k hk (by simp)⟩
  generalize hg : w.heap.size = g at T0 hown ⊢
  go_wp2
  go_loopw [4] (fun i wr => ∃ (k : Nat), k ≤ n ∧ i = .int .i64 k ∧ OpsOwn wr g g n (os.take k ++ List.replicate (n - k) ⟨0, 0, 0, 0⟩) ∧ Since w wr) (fun i _ => n - (intOf i).toNat)
  case atStart => exact ⟨0, by omega, rfl, by simpa using T0, S0⟩
  case round =>
    obtain ⟨k, hk, rfl, T, S⟩ := hrel
    have Rr := R.since S
    by_cases hlt : k < n
    · obtain ⟨x, rfl, hb, q0, q1, q2, q3⟩ := Rr.cell k hlt
      have hto := fun wx => toNetOp (opAt os k).k (opAt os k).a (opAt os k).h (opAt os k).t wx
      rw [← addr_next x (k * 4) 1 (by omega)] at q1
      rw [← addr_next x (k * 4) 2 (by omega)] at q2
      rw [← addr_next x (k * 4) 3 (by omega)] at q3
      generalize hO : opAt os k = O at q0 q1 q2 q3 hto
      go_wp2_with (go_at_call 18; refine (hto _).mono ?_; rintro _ w2 ⟨rfl, g2⟩; have T2 := T.since g2; obtain ⟨d0, d1, d2, d3⟩ := T2.cell k hlt; have f0 := T2.free (k * 4); have f1 := T2.free (k * 4 + 1); have f2 := T2.free (k * 4 + 2); have f3 := T2.free (k * 4 + 3))
      have hT := T2.set k O
      rw [← hO, opAt_take_set os n k R.len hlt, hO] at hT
      go_roundw
      case rel => exact ⟨k + 1, by omega, by go_num, hT, since_put1 (since_put1 (since_put1 (since_put1 (S.trans g2) (by omega) _ _) (by omega) _ _) (by omega) _ _) (by omega) _ _⟩
      case measure => simp [intOf]; omega
    · have hkn : k = n := by omega
      subst hkn
      go_wp2
      go_ret
      refine ⟨g, rfl, ?_, S⟩
      have e : os.take k ++ List.replicate (k - k) (⟨0, 0, 0, 0⟩ : Op4) = os := by simp [List.take_of_length_le (Nat.le_of_eq R.len)]
      rw [e] at T
      exact ⟨T.len, by omega, T.heap⟩

theorem eqOp (o : Op4) (w : World) :
    Calls Try.prog 41 #[.agg #[.int .i64 o.k, .int .i64 o.a, .int .i64 o.h, .int .i64 o.t], .agg #[.int .i64 o.k, .int .i64 o.a, .int .i64 o.h, .int .i64 o.t]] w fun e w' => e = .returned (.bool true) ∧ Since w w' := by
  go_enter Try.func41, Try.ntmps41
  go_wp2
  go_ret
  exact ⟨rfl, ((Since.refl _).alloc _).alloc _⟩

set_option maxHeartbeats 1000000 in
theorem eqOps (B B' g g' n : Nat) (os : List Op4) (hn : n ≤ 1048576) (w : World) (T : OpsOwn w B g n os) (T' : OpsOwn w B' g' n os) :
    Calls Try.prog 25 #[.slice (some ⟨g, 0, none⟩) n n, .slice (some ⟨g', 0, none⟩) n n] w fun e w' => e = .returned (.bool true) ∧ Since w w' := by
  go_enter Try.func25, Try.ntmps25
  go_wp2
  go_loopw [5] (fun i wr => ∃ (k : Nat), k ≤ n ∧ i = .int .i64 k ∧ Since w wr) (fun i _ => n - (intOf i).toNat)
  case atStart => exact ⟨0, by omega, rfl, Since.refl _⟩
  case round =>
    obtain ⟨k, hk, rfl, S⟩ := hrel
    by_cases hlt : k < n
    · have Tr := T.since S
      have Tr' := T'.since S
      have hlt' : (k : Int) < (n : Int) := by omega
      generalize hO : opAt os k = O
      go_wp2
      have c0 : ∀ y : Later wr, y.val.cell? ⟨g, k * 4, none⟩ = some (.int .i64 O.k) := fun y => by rw [← hO]; exact ((Tr.since y.ok).cell k hlt).1
      have c1 : ∀ y : Later wr, y.val.cell? ⟨g, k * 4 + 1, none⟩ = some (.int .i64 O.a) := fun y => by rw [← hO]; exact ((Tr.since y.ok).cell k hlt).2.1
      have c2 : ∀ y : Later wr, y.val.cell? ⟨g, k * 4 + 2, none⟩ = some (.int .i64 O.h) := fun y => by rw [← hO]; exact ((Tr.since y.ok).cell k hlt).2.2.1
      have c3 : ∀ y : Later wr, y.val.cell? ⟨g, k * 4 + 3, none⟩ = some (.int .i64 O.t) := fun y => by rw [← hO]; exact ((Tr.since y.ok).cell k hlt).2.2.2
      have d0 : ∀ y : Later wr, y.val.cell? ⟨g', k * 4, none⟩ = some (.int .i64 O.k) := fun y => by rw [← hO]; exact ((Tr'.since y.ok).cell k hlt).1
      have d1 : ∀ y : Later wr, y.val.cell? ⟨g', k * 4 + 1, none⟩ = some (.int .i64 O.a) := fun y => by rw [← hO]; exact ((Tr'.since y.ok).cell k hlt).2.1
      have d2 : ∀ y : Later wr, y.val.cell? ⟨g', k * 4 + 2, none⟩ = some (.int .i64 O.h) := fun y => by rw [← hO]; exact ((Tr'.since y.ok).cell k hlt).2.2.1
      have d3 : ∀ y : Later wr, y.val.cell? ⟨g', k * 4 + 3, none⟩ = some (.int .i64 O.t) := fun y => by rw [← hO]; exact ((Tr'.since y.ok).cell k hlt).2.2.2
      have he : ∀ y : Later wr, Calls Try.prog 41 #[.agg #[.int .i64 O.k, .int .i64 O.a, .int .i64 O.h, .int .i64 O.t], .agg #[.int .i64 O.k, .int .i64 O.a, .int .i64 O.h, .int .i64 O.t]] y.val fun e w'' => e = .returned (.bool true) ∧ ∃ z : Later wr, w'' = z.val := fun y => calm_call (eqOp O y.val)
      have hne : Nonempty (Later wr) := ⟨⟨wr, Since.refl _⟩⟩
      clear hO Tr Tr' T T'
      refine wp_region_calm (wb := wr) (by kernel_rfl) (by kernel_rfl) (Since.refl _) ?_
      repeat (go_big_quiet_step (exact he _))
      refine wpQuiet_nil ?_
      rintro _ ⟨y, rfl⟩
      go_wp2
      have S2 := S.trans y.ok
      go_roundw
      case rel => exact ⟨k + 1, by omega, by go_num, S2⟩
      case measure => simp [intOf]; omega
    · have hkn : k = n := by omega
      subst hkn
      clear T T'
      go_wp2
      go_ret
      exact ⟨rfl, S⟩

/-- Block g has room for n ops, whatever lies there. -/
def Raw (w : World) (g n : Nat) : Prop := ∃ cur, w.heap[g]? = some (.cells cur 38 (0, 0)) ∧ cur.size = n * 4

theorem Raw.put {w : World} {g n : Nat} (h : Raw w g n) (i : Nat) (v : Value) : Raw (w.setCell ⟨g, i, none⟩ v) g n := by
  obtain ⟨cur, h1, h2⟩ := h
  exact ⟨_, heap_setCell_same w g i cur _ v h1, by simpa using h2⟩

theorem Raw.cell {w : World} {g n : Nat} (h : Raw w g n) (i : Nat) (hi : i < n * 4) : ∃ u, w.cell? ⟨g, i, none⟩ = some u := by
  obtain ⟨cur, h1, h2⟩ := h
  exact ⟨cur[i], by rw [cell_of_row w g i cur _ _ h1]; simp⟩

theorem Raw.free {w : World} {g n : Nat} (h : Raw w g n) (i : Nat) : w.frozen? ⟨g, i, none⟩ = false := by
  obtain ⟨cur, h1, h2⟩ := h
  exact frozen_of_row w g i cur _ h1

set_option maxHeartbeats 1000000 in
theorem markOps (B g n : Nat) (os : List Op4) (k : Int) (hk0 : 1 ≤ k) (hk1 : k + 4 * n ≤ 1073741824) (w : World) (T : OpsOwn w B g n os) :
    Calls Try.prog 26 #[.slice (some ⟨g, 0, none⟩) n n, .int .i64 k] w fun e w' => e = .returned (.int .i64 (k + 4 * n)) ∧ Touch g w w' := by
  have R0 : Raw w g n := ⟨_, T.heap, by simp [flat_len, T.len]⟩
  clear T
  go_enter Try.func26, Try.ntmps26
  go_wp2
  go_loopw [1, 5] (fun q i wr => ∃ (j : Nat), j ≤ n ∧ i = .int .i64 j ∧ q = .int .i64 (k + 4 * j) ∧ Raw wr g n ∧ Touch g w wr) (fun _ i _ => n - (intOf i).toNat)
  case atStart => exact ⟨0, by omega, rfl, by simp, R0, Touch.refl _ _⟩
  case round =>
    obtain ⟨j, hj, rfl, rfl, Rr, S⟩ := hrel
    by_cases hlt : j < n
    · have hlt' : (j : Int) < (n : Int) := by omega
      obtain ⟨u0, d0⟩ := Rr.cell (j * 4) (by omega)
      obtain ⟨u1, d1⟩ := Rr.cell (j * 4 + 1) (by omega)
      obtain ⟨u2, d2⟩ := Rr.cell (j * 4 + 2) (by omega)
      obtain ⟨u3, d3⟩ := Rr.cell (j * 4 + 3) (by omega)
      have f0 := Rr.free (j * 4)
      have f1 := Rr.free (j * 4 + 1)
      have f2 := Rr.free (j * 4 + 2)
      have f3 := Rr.free (j * 4 + 3)
      go_wp2
      go_roundw
      case rel => exact ⟨j + 1, by omega, by go_num, by go_num, (((Rr.put _ _).put _ _).put _ _).put _ _, (((S.put _ _).put _ _).put _ _).put _ _⟩
      case measure => simp [intOf]; omega
    · have hjn : j = n := by omega
      subst hjn
      go_wp2
      go_ret
      exact ⟨rfl, S⟩
end Go.Proofs.Ytdampggjnmmhfaa
