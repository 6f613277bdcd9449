/-
  Proved: at every clock and every number of ticks impl.ClockGo answers as spec.ClockGo, writes into no argument, and its answer owns its memory (the law FnExactClockGo returns true, and its arguments read as before); no condition (of a clock of more than 1048576 timers the law asks nothing).
-/
import Derived.Test.YtcclgcdghnmdfaaRows
import Derived.Test.YtcclgcdghnmdfaaOpenClock
import Derived.Test.YtcclgcdghnmdfaaTimLaw
import Derived.Test.YtcclgcdghnmdfaaTimImplGo
import Derived.Test.YtcclgcdghnmdfaaTimSpecGo
import Derived.Test.YtcclgcdghnmdfaaDrawn
import Derived.WalkKit
import Derived.ProofKit
import Derived.OpenShut
import Derived.ShutString
import Derived.ChangeOld
import Derived.Below
import Derived.Carry
namespace Go.Proofs.Ytcclgcdghnmdfaa.fnExactClockGo
open Go.ChangeShapes Go.WideShapes Go.ChangeAt Go.RowKit
open Go.ChangeMaps (open_string shut_string)
set_option linter.unusedVariables false

theorem own : ownKnob Try.prog.godebug = none := by kernel_rfl
theorem laidOut : laidOutB Try.prog = true := by kernel_rfl

theorem go_le1 (now : Int) (ts : List (Int × Int)) (k : Int) (h : ts.length ≤ 1048576) : (goC now ts k).2.1.length ≤ 1048576 := by
  unfold goC
  split
  · exact Nat.le_trans (List.length_filter_le _ _) h
  · exact h

theorem go_le2 (now : Int) (ts : List (Int × Int)) (k : Int) (h : ts.length ≤ 1048576) : (goC now ts k).2.2.length ≤ 1048576 := by
  unfold goC
  split
  · exact Nat.le_trans (gone_len _ _) h
  · simp

set_option maxHeartbeats 4000000 in
theorem walk (now0 : Int) (a0 : Option Addr) (n0 c0 : Nat) (t0 : List (Int × Int)) (b1 : Int) (w : World) (x0 : (Lit.int .i64 now0).wf = true) (R0 : Rd shT w a0 n0 t0) (z0 : ∀ i, i < n0 → (Lit.int .i64 (tAt t0 i).1).wf = true ∧ (Lit.int .i64 (tAt t0 i).2).wf = true) (x1 : (Lit.int .i64 b1).wf = true) :
    Calls Try.prog 6 #[.agg #[.int .i64 now0, .slice a0 n0 c0], .int .i64 b1] w fun e w' => e = .returned (.bool true) ∧ Below w.heap.size w w' := by
  have hsz := szClock now0 a0 n0 c0 1048576 (by omega) (by omega) R0.most (w.alloc (.cells #[.int .i64 now0, .slice a0 n0 c0] 24))
  have G := (Since.refl w).alloc (.cells #[.int .i64 now0, .slice a0 n0 c0] 24)
  have A := Blk.new w #[.int .i64 now0, .slice a0 n0 c0] 24
  obtain ⟨r, hr⟩ : ∃ r, Hid (goC now0 t0 b1 = r) := ⟨_, rfl⟩
  go_enter Try.func6, Try.ntmps6
  go_wp2_with (go_at_call 9; refine hsz.mono ?_; rintro _ w1 ⟨rr, rfl, hb, k1⟩; replace hb : Hid _ := hb; have z_k1 := k1.le; try simp only [World.size_alloc] at z_k1; replace G := G.trans k1; replace A := A.since k1; have cA0 : World.cell? _ _ = some (.int .i64 now0) := A.cell 0; have cA1 : World.cell? _ _ = some (.slice a0 n0 c0) := A.cell 1)
  · go_ret
    exact ⟨rfl, G⟩
  have hn : n0 ≤ 1048576 := by have := hb.out (by omega); omega
  have hrl : r.2.1.length ≤ 1048576 := by rw [← hr.out]; exact go_le1 _ _ _ (by rw [R0.len]; exact hn)
  have hrq : r.2.2.length ≤ 1048576 := by rw [← hr.out]; exact go_le2 _ _ _ (by rw [R0.len]; exact hn)
  clear hsz
  refine (toClock now0 a0 n0 c0 t0 hn _ (R0.since G)).mono ?_
  rintro _ w2 ⟨g2, rfl, T2, k2⟩
  have z_k2 := k2.le
  try simp only [World.size_alloc] at z_k2
  replace G := G.trans k2
  replace A := A.since k2
  have lo_T2 := T2.low'
  try simp only [World.size_alloc] at lo_T2
  have hi_T2 := T2.lt
  try simp only [World.size_alloc] at hi_T2
  replace cA0 : World.cell? _ _ = some (.int .i64 now0) := A.cell 0
  replace cA1 : World.cell? _ _ = some (.slice a0 n0 c0) := A.cell 1
  go_wp2_with (fail)
  refine (specGo now0 _ n0 n0 t0 b1 _ T2.reads hn (by simp)).mono ?_
  rintro _ w3 ⟨v3, m3, gq3, q3, cq3, rfl, T3, Q3, k3⟩
  rw [hr.out] at T3 Q3 ⊢
  obtain ⟨av3, cv3, rfl, -, -⟩ := T3.form
  have z_k3 := k3.le
  try simp only [World.size_alloc] at z_k3
  replace G := G.trans k3
  replace A := A.since k3
  replace T2 := T2.since k3
  have hi_T3 : ∀ g, (Value.slice av3 m3 cv3).ownBlock = some g → g < w3.heap.size := fun g e => (T3.lt e).2
  have lo_Q3 := Q3.low'
  try simp only [World.size_alloc] at lo_Q3
  have hi_Q3 := Q3.lt
  try simp only [World.size_alloc] at hi_Q3
  have hm3 : m3 ≤ 1048576 := by rw [← T3.1]; exact hrl
  have hq3 : q3 ≤ 1048576 := by rw [← Q3.1]; exact hrq
  obtain ⟨nw, hnw⟩ : ∃ nw, Hid (r.1 = nw) := ⟨_, rfl⟩
  rw [hnw.out]
  have W := Blk.new w3 #[.int .i64 nw, .slice av3 m3 cv3] 29
  have k_W := (Since.refl w3).alloc (.cells #[.int .i64 nw, .slice av3 m3 cv3] 29)
  have z_k_W := k_W.le
  try simp only [World.size_alloc] at z_k_W
  replace G := G.trans k_W
  replace A := A.since k_W
  replace T2 := T2.since k_W
  replace Q3 := Q3.since k_W
  replace T3 := T3.since k_W
  replace cA0 : World.cell? _ _ = some (.int .i64 now0) := A.cell 0
  replace cA1 : World.cell? _ _ = some (.slice a0 n0 c0) := A.cell 1
  go_wp2_with (fail)
  refine (toClock now0 a0 n0 c0 t0 hn _ (R0.since G)).mono ?_
  rintro _ w4 ⟨g4, rfl, T4, k4⟩
  have z_k4 := k4.le
  try simp only [World.size_alloc] at z_k4
  replace G := G.trans k4
  replace A := A.since k4
  replace W := W.since k4
  replace T2 := T2.since k4
  replace Q3 := Q3.since k4
  replace T3 := T3.since k4
  have lo_T4 := T4.low'
  try simp only [World.size_alloc] at lo_T4
  have hi_T4 := T4.lt
  try simp only [World.size_alloc] at hi_T4
  have X := Blk.new w4 #[.int .i64 now0, .slice (some ⟨g4, 0, none⟩) n0 n0] 29
  have k_X := (Since.refl w4).alloc (.cells #[.int .i64 now0, .slice (some ⟨g4, 0, none⟩) n0 n0] 29)
  have z_k_X := k_X.le
  try simp only [World.size_alloc] at z_k_X
  replace G := G.trans k_X
  replace A := A.since k_X
  replace W := W.since k_X
  replace T2 := T2.since k_X
  replace Q3 := Q3.since k_X
  replace T4 := T4.since k_X
  replace T3 := T3.since k_X
  replace cA0 : World.cell? _ _ = some (.int .i64 now0) := A.cell 0
  replace cA1 : World.cell? _ _ = some (.slice a0 n0 c0) := A.cell 1
  have cX0 : World.cell? _ _ = some (.int .i64 now0) := X.cell 0
  have cX1 : World.cell? _ _ = some (.slice (some ⟨g4, 0, none⟩) n0 n0) := X.cell 1
  go_wp2_with (fail)
  refine (implGo now0 _ n0 n0 t0 b1 _ T4.reads hn (by simp)).mono ?_
  rintro _ w5 ⟨g5, m5, c5, gq5, q5, cq5, rfl, T5, Q5, k5⟩
  rw [hr.out] at T5 Q5 ⊢
  rw [hnw.out]
  obtain rfl : m5 = m3 := T5.1.symm.trans T3.1
  obtain rfl : q5 = q3 := Q5.1.symm.trans Q3.1
  have z_k5 := k5.le
  try simp only [World.size_alloc] at z_k5
  replace G := G.trans k5
  replace A := A.since k5
  replace W := W.since k5
  replace X := X.since k5
  replace T2 := T2.since k5
  replace Q3 := Q3.since k5
  replace T4 := T4.since k5
  replace T3 := T3.since k5
  have lo_T5 := T5.low'
  try simp only [World.size_alloc] at lo_T5
  have hi_T5 := T5.lt
  try simp only [World.size_alloc] at hi_T5
  have lo_Q5 := Q5.low'
  try simp only [World.size_alloc] at lo_Q5
  have hi_Q5 := Q5.lt
  try simp only [World.size_alloc] at hi_Q5
  have Y := Blk.new w5 #[.int .i64 nw, .slice (some ⟨g5, 0, none⟩) m5 c5] 29
  have k_Y := (Since.refl w5).alloc (.cells #[.int .i64 nw, .slice (some ⟨g5, 0, none⟩) m5 c5] 29)
  have z_k_Y := k_Y.le
  try simp only [World.size_alloc] at z_k_Y
  replace G := G.trans k_Y
  replace A := A.since k_Y
  replace W := W.since k_Y
  replace X := X.since k_Y
  replace T2 := T2.since k_Y
  replace Q3 := Q3.since k_Y
  replace T4 := T4.since k_Y
  replace T5 := T5.since k_Y
  replace Q5 := Q5.since k_Y
  replace T3 := T3.since k_Y
  replace cA0 : World.cell? _ _ = some (.int .i64 now0) := A.cell 0
  replace cA1 : World.cell? _ _ = some (.slice a0 n0 c0) := A.cell 1
  replace cX0 : World.cell? _ _ = some (.int .i64 now0) := X.cell 0
  replace cX1 : World.cell? _ _ = some (.slice (some ⟨g4, 0, none⟩) n0 n0) := X.cell 1
  have cW0 : World.cell? _ _ = some (.int .i64 nw) := W.cell 0
  have cW1 : World.cell? _ _ = some (.slice av3 m5 cv3) := W.cell 1
  have cY0 : World.cell? _ _ = some (.int .i64 nw) := Y.cell 0
  have cY1 : World.cell? _ _ = some (.slice (some ⟨g5, 0, none⟩) m5 c5) := Y.cell 1
  go_wp2_with (fail)
  refine (eqClock nw _ _ m5 c5 cv3 r.2.1 hm3 _ T5.reads T3.reads).mono ?_
  rintro _ w6 ⟨rfl, k6⟩
  have z_k6 := k6.le
  try simp only [World.size_alloc] at z_k6
  replace G := G.trans k6
  replace A := A.since k6
  replace W := W.since k6
  replace X := X.since k6
  replace Y := Y.since k6
  replace T2 := T2.since k6
  replace Q3 := Q3.since k6
  replace T4 := T4.since k6
  replace T5 := T5.since k6
  replace Q5 := Q5.since k6
  replace T3 := T3.since k6
  replace cA0 : World.cell? _ _ = some (.int .i64 now0) := A.cell 0
  replace cA1 : World.cell? _ _ = some (.slice a0 n0 c0) := A.cell 1
  replace cX0 : World.cell? _ _ = some (.int .i64 now0) := X.cell 0
  replace cX1 : World.cell? _ _ = some (.slice (some ⟨g4, 0, none⟩) n0 n0) := X.cell 1
  replace cW0 : World.cell? _ _ = some (.int .i64 nw) := W.cell 0
  replace cW1 : World.cell? _ _ = some (.slice av3 m5 cv3) := W.cell 1
  replace cY0 : World.cell? _ _ = some (.int .i64 nw) := Y.cell 0
  replace cY1 : World.cell? _ _ = some (.slice (some ⟨g5, 0, none⟩) m5 c5) := Y.cell 1
  go_wp2_with (fail)
  refine (eqInts _ _ q5 cq5 cq3 r.2.2 hq3 _ Q5.reads Q3.reads).mono ?_
  rintro _ w6b ⟨rfl, k6b⟩
  have z_k6b := k6b.le
  try simp only [World.size_alloc] at z_k6b
  replace G := G.trans k6b
  replace A := A.since k6b
  replace W := W.since k6b
  replace X := X.since k6b
  replace Y := Y.since k6b
  replace T2 := T2.since k6b
  replace Q3 := Q3.since k6b
  replace T4 := T4.since k6b
  replace T5 := T5.since k6b
  replace Q5 := Q5.since k6b
  replace T3 := T3.since k6b
  replace cA0 : World.cell? _ _ = some (.int .i64 now0) := A.cell 0
  replace cA1 : World.cell? _ _ = some (.slice a0 n0 c0) := A.cell 1
  replace cX0 : World.cell? _ _ = some (.int .i64 now0) := X.cell 0
  replace cX1 : World.cell? _ _ = some (.slice (some ⟨g4, 0, none⟩) n0 n0) := X.cell 1
  replace cW0 : World.cell? _ _ = some (.int .i64 nw) := W.cell 0
  replace cW1 : World.cell? _ _ = some (.slice av3 m5 cv3) := W.cell 1
  replace cY0 : World.cell? _ _ = some (.int .i64 nw) := Y.cell 0
  replace cY1 : World.cell? _ _ = some (.slice (some ⟨g5, 0, none⟩) m5 c5) := Y.cell 1
  go_wp2_with (fail)
  refine wp_region_each (wb := w6b) (fun i x v => match i with
      | 0 => v = .agg #[.int .i64 now0, .slice (some ⟨g4, 0, none⟩) n0 n0]
      | 1 => v = .agg #[.int .i64 now0, .slice a0 n0 c0]
      | 2 => ∃ g, v = .agg #[.int .i64 now0, .slice (some ⟨g, 0, none⟩) n0 n0] ∧ Held shT x 0 g n0 n0 t0
      | 3 => v = .bool true
      | 4 => v = .bool false
      | _ => True) (fun v => { tmps := #[Value.agg #[Value.int IntKind.i64 now0, Value.slice a0 n0 c0], Value.int IntKind.i64 b1, Value.pointer (some ⟨w.heap.size, 0, none⟩), undef, Value.bool false, Value.int IntKind.i64 rr, Value.pointer (some ⟨w3.heap.size, 0, none⟩), Value.slice (some ⟨gq3, 0, none⟩) q5 cq3, Value.pointer (some ⟨w4.heap.size, 0, none⟩), Value.pointer (some ⟨w5.heap.size, 0, none⟩), Value.slice (some ⟨gq5, 0, none⟩) q5 cq5, undef, undef, undef, undef, undef, Value.agg #[Value.int IntKind.i64 now0, Value.slice a0 n0 c0], Value.int IntKind.i64 1048576, Value.int IntKind.i64 rr, Value.int IntKind.i64 rr, Value.bool (decide (rr < 0)), Value.tuple #[Value.agg #[Value.int IntKind.i64 nw, Value.slice av3 m5 cv3], Value.slice (some ⟨gq3, 0, none⟩) q5 cq3], Value.agg #[Value.int IntKind.i64 now0, Value.slice a0 n0 c0], Value.agg #[Value.int IntKind.i64 now0, Value.slice (some ⟨g2, 0, none⟩) n0 n0], Value.int IntKind.i64 b1, Value.tuple #[Value.agg #[Value.int IntKind.i64 nw, Value.slice av3 m5 cv3], Value.slice (some ⟨gq3, 0, none⟩) q5 cq3], Value.agg #[Value.int IntKind.i64 nw, Value.slice av3 m5 cv3], Value.slice (some ⟨gq3, 0, none⟩) q5 cq3, Value.agg #[Value.int IntKind.i64 now0, Value.slice a0 n0 c0], Value.agg #[Value.int IntKind.i64 now0, Value.slice (some ⟨g4, 0, none⟩) n0 n0], Value.tuple #[Value.agg #[Value.int IntKind.i64 nw, Value.slice (some ⟨g5, 0, none⟩) m5 c5], Value.slice (some ⟨gq5, 0, none⟩) q5 cq5], Value.agg #[Value.int IntKind.i64 now0, Value.slice (some ⟨g4, 0, none⟩) n0 n0], Value.int IntKind.i64 b1, Value.tuple #[Value.agg #[Value.int IntKind.i64 nw, Value.slice (some ⟨g5, 0, none⟩) m5 c5], Value.slice (some ⟨gq5, 0, none⟩) q5 cq5], Value.agg #[Value.int IntKind.i64 nw, Value.slice (some ⟨g5, 0, none⟩) m5 c5], Value.slice (some ⟨gq5, 0, none⟩) q5 cq5, Value.agg #[Value.int IntKind.i64 nw, Value.slice (some ⟨g5, 0, none⟩) m5 c5], Value.agg #[Value.int IntKind.i64 nw, Value.slice av3 m5 cv3], Value.bool true, Value.bool false, Value.bool false, Value.slice (some ⟨gq5, 0, none⟩) q5 cq5, Value.slice (some ⟨gq3, 0, none⟩) q5 cq3, Value.bool true, Value.bool false, Value.bool false, v 0, v 1, v 2, v 3, v 4, undef, undef, undef, undef, undef, undef, undef, undef, undef, undef, undef, undef, undef, undef, undef, undef, undef, undef, undef, undef, undef, undef, undef, undef, undef, undef, undef, undef, undef, undef, undef, undef, undef, undef, undef, undef, undef, undef, undef, undef, undef, undef, undef, undef, undef, undef, undef, undef, undef, undef, undef, undef, undef, undef, undef, undef, undef, undef, undef, undef, undef, undef, undef, undef, undef, undef], defers := [] }) (by kernel_rfl) (by kernel_rfl) (Since.refl _) ?_ (fun vals => by kernel_rfl) ?_ ?_
  case refine_1 =>
    intro j x x' v h1 h2
    match j, h2 with
    | 2, h2 =>
      obtain ⟨g, e, T⟩ := h2
      exact ⟨g, e, T.since h1⟩
    | 0, h2 | 1, h2 | 3, h2 | 4, h2 => exact h2
    | n + 5, _ => trivial
  case refine_2 =>
    repeat (first | exact eachDoes_nil | refine eachDoes_cons ?_ ?_)
    all_goals intro vals x hx hv
    all_goals simp [Region.binds] at hv
    · simp [does, doesUpon, go_sem, hv, Since.refl]
    · obtain ⟨h0, g, h2, T⟩ := hv
      simp [does, doesUpon, go_sem, h0, h2]
      refine (eqClock now0 _ _ n0 n0 n0 t0 hn _ (T4.since hx).reads T.reads).mono ?_
      rintro _ x' ⟨rfl, h1⟩
      simp [h1]
    · simp [does, doesUpon, go_sem, hv]
      refine (toClock now0 a0 n0 c0 t0 hn _ (R0.since (G.trans hx))).mono ?_
      rintro _ x' ⟨g, rfl, T, h1⟩
      exact ⟨_, rfl, h1, g, rfl, T.raise (Nat.zero_le _)⟩
    · have e0 := (A.since hx).cell 0
      have e1 := (A.since hx).cell 1
      simp at e0 e1
      simp [does, doesUpon, go_sem, e0, e1, Since.refl]
    · have e0 := (X.since hx).cell 0
      have e1 := (X.since hx).cell 1
      simp at e0 e1
      simp [does, doesUpon, go_sem, e0, e1, Since.refl]
  intro vals w7 k7 hv
  have h0 : vals 0 = .agg #[.int .i64 now0, .slice (some ⟨g4, 0, none⟩) n0 n0] := hv 0 (by decide)
  have h1 : vals 1 = .agg #[.int .i64 now0, .slice a0 n0 c0] := hv 1 (by decide)
  have h3 : vals 3 = .bool true := hv 3 (by decide)
  have h4 : vals 4 = .bool false := hv 4 (by decide)
  have h2 : ∃ g, vals 2 = .agg #[.int .i64 now0, .slice (some ⟨g, 0, none⟩) n0 n0] ∧ Held shT w7 0 g n0 n0 t0 := hv 2 (by decide)
  obtain ⟨g9, h2, _⟩ := h2
  clear hv
  simp only [h0, h1, h2, h3, h4]
  clear h0 h1 h2 h3 h4
  have z_k7 := k7.le
  try simp only [World.size_alloc] at z_k7
  replace G := G.trans k7
  replace A := A.since k7
  replace W := W.since k7
  replace X := X.since k7
  replace Y := Y.since k7
  replace T2 := T2.since k7
  replace Q3 := Q3.since k7
  replace T4 := T4.since k7
  replace T5 := T5.since k7
  replace Q5 := Q5.since k7
  replace T3 := T3.since k7
  replace cA0 : World.cell? _ _ = some (.int .i64 now0) := A.cell 0
  replace cA1 : World.cell? _ _ = some (.slice a0 n0 c0) := A.cell 1
  replace cX0 : World.cell? _ _ = some (.int .i64 now0) := X.cell 0
  replace cX1 : World.cell? _ _ = some (.slice (some ⟨g4, 0, none⟩) n0 n0) := X.cell 1
  replace cW0 : World.cell? _ _ = some (.int .i64 nw) := W.cell 0
  replace cW1 : World.cell? _ _ = some (.slice av3 m5 cv3) := W.cell 1
  replace cY0 : World.cell? _ _ = some (.int .i64 nw) := Y.cell 0
  replace cY1 : World.cell? _ _ = some (.slice (some ⟨g5, 0, none⟩) m5 c5) := Y.cell 1
  go_wp2_with (fail)
  refine (markClock now0 _ n0 (some ⟨g4, 0, none⟩) n0 t0 1 (by omega) (by omega) _ T4).mono ?_
  rintro _ w8 ⟨rfl, t8, ms, hms, U4⟩
  replace t8 : Touch g4 _ _ := touch_grown t8
  replace T4 : Held shT w8 _ g4 n0 n0 ms := U4
  clear U4
  have z_t8 := t8.le
  try simp only [World.size_alloc] at z_t8
  replace G := G.touch t8 (by omega)
  replace A := A.touch t8 (by omega)
  replace W := W.touch t8 (by omega)
  replace X := X.touch t8 (by omega)
  replace Y := Y.touch t8 (by omega)
  replace T2 := T2.touch t8 (by omega)
  replace Q3 := Q3.touch t8 (by omega)
  replace T5 := T5.touch t8 (by omega)
  replace Q5 := Q5.touch t8 (by omega)
  replace T3 := T3.touch t8 (fun e => by have := hi_T3 _ e; omega)
  replace cA0 : World.cell? _ _ = some (.int .i64 now0) := A.cell 0
  replace cA1 : World.cell? _ _ = some (.slice a0 n0 c0) := A.cell 1
  replace cX0 : World.cell? _ _ = some (.int .i64 now0) := X.cell 0
  replace cX1 : World.cell? _ _ = some (.slice (some ⟨g4, 0, none⟩) n0 n0) := X.cell 1
  replace cW0 : World.cell? _ _ = some (.int .i64 nw) := W.cell 0
  replace cW1 : World.cell? _ _ = some (.slice av3 m5 cv3) := W.cell 1
  replace cY0 : World.cell? _ _ = some (.int .i64 nw) := Y.cell 0
  replace cY1 : World.cell? _ _ = some (.slice (some ⟨g5, 0, none⟩) m5 c5) := Y.cell 1
  have hp1 : ¬ (1 : Int) + 2 * (n0 : Int) < 0 := by omega
  go_wp2_with (fail)
  refine (eqClock nw _ _ m5 c5 cv3 r.2.1 hm3 _ T5.reads T3.reads).mono ?_
  rintro _ w9 ⟨rfl, k9⟩
  have z_k9 := k9.le
  try simp only [World.size_alloc] at z_k9
  replace G := G.trans k9
  replace A := A.since k9
  replace W := W.since k9
  replace X := X.since k9
  replace Y := Y.since k9
  replace T2 := T2.since k9
  replace Q3 := Q3.since k9
  replace T4 := T4.since k9
  replace T5 := T5.since k9
  replace Q5 := Q5.since k9
  replace T3 := T3.since k9
  replace cA0 : World.cell? _ _ = some (.int .i64 now0) := A.cell 0
  replace cA1 : World.cell? _ _ = some (.slice a0 n0 c0) := A.cell 1
  replace cX0 : World.cell? _ _ = some (.int .i64 now0) := X.cell 0
  replace cX1 : World.cell? _ _ = some (.slice (some ⟨g4, 0, none⟩) n0 n0) := X.cell 1
  replace cW0 : World.cell? _ _ = some (.int .i64 nw) := W.cell 0
  replace cW1 : World.cell? _ _ = some (.slice av3 m5 cv3) := W.cell 1
  replace cY0 : World.cell? _ _ = some (.int .i64 nw) := Y.cell 0
  replace cY1 : World.cell? _ _ = some (.slice (some ⟨g5, 0, none⟩) m5 c5) := Y.cell 1
  go_wp2_with (fail)
  refine (eqInts _ _ q5 cq5 cq3 r.2.2 hq3 _ Q5.reads Q3.reads).mono ?_
  rintro _ w9b ⟨rfl, k9b⟩
  have z_k9b := k9b.le
  try simp only [World.size_alloc] at z_k9b
  replace G := G.trans k9b
  replace A := A.since k9b
  replace W := W.since k9b
  replace X := X.since k9b
  replace Y := Y.since k9b
  replace T2 := T2.since k9b
  replace Q3 := Q3.since k9b
  replace T4 := T4.since k9b
  replace T5 := T5.since k9b
  replace Q5 := Q5.since k9b
  replace T3 := T3.since k9b
  replace cA0 : World.cell? _ _ = some (.int .i64 now0) := A.cell 0
  replace cA1 : World.cell? _ _ = some (.slice a0 n0 c0) := A.cell 1
  replace cX0 : World.cell? _ _ = some (.int .i64 now0) := X.cell 0
  replace cX1 : World.cell? _ _ = some (.slice (some ⟨g4, 0, none⟩) n0 n0) := X.cell 1
  replace cW0 : World.cell? _ _ = some (.int .i64 nw) := W.cell 0
  replace cW1 : World.cell? _ _ = some (.slice av3 m5 cv3) := W.cell 1
  replace cY0 : World.cell? _ _ = some (.int .i64 nw) := Y.cell 0
  replace cY1 : World.cell? _ _ = some (.slice (some ⟨g5, 0, none⟩) m5 c5) := Y.cell 1
  go_wp2_with (fail)
  have hgq : g5 ≠ gq5 := fun e => (Own.apart T5 Q5 (by decide)).elim (fun h => by cases h) (fun h => h (by rw [e]; rfl))
  refine (markClock nw _ m5 (some ⟨g5, 0, none⟩) c5 r.2.1 1 (by omega) (by omega) _ T5).mono ?_
  rintro _ w10 ⟨rfl, t10, ns, hns, U5⟩
  replace t10 : Touch g5 _ _ := touch_grown t10
  replace T5 : Held shT w10 _ g5 m5 c5 ns := U5
  clear U5
  replace hns : Hid _ := hns
  replace hms : Hid _ := hms
  have z_t10 := t10.le
  try simp only [World.size_alloc] at z_t10
  replace G := G.touch t10 (by omega)
  replace A := A.touch t10 (by omega)
  replace W := W.touch t10 (by omega)
  replace X := X.touch t10 (by omega)
  replace Y := Y.touch t10 (by omega)
  replace T2 := T2.touch t10 (by omega)
  replace Q3 := Q3.touch t10 (by omega)
  replace T4 := T4.touch t10 (by omega)
  replace Q5 := Q5.touch t10 (by omega)
  replace T3 := T3.touch t10 (fun e => by have := hi_T3 _ e; omega)
  replace cA0 : World.cell? _ _ = some (.int .i64 now0) := A.cell 0
  replace cA1 : World.cell? _ _ = some (.slice a0 n0 c0) := A.cell 1
  replace cX0 : World.cell? _ _ = some (.int .i64 now0) := X.cell 0
  replace cX1 : World.cell? _ _ = some (.slice (some ⟨g4, 0, none⟩) n0 n0) := X.cell 1
  replace cW0 : World.cell? _ _ = some (.int .i64 nw) := W.cell 0
  replace cW1 : World.cell? _ _ = some (.slice av3 m5 cv3) := W.cell 1
  replace cY0 : World.cell? _ _ = some (.int .i64 nw) := Y.cell 0
  replace cY1 : World.cell? _ _ = some (.slice (some ⟨g5, 0, none⟩) m5 c5) := Y.cell 1
  have hp2 : ¬ (1 : Int) + 2 * (m5 : Int) < 0 := by omega
  go_wp2_with (fail)
  refine (markInts _ q5 _ r.2.2 (1 + 2 * (m5 : Int)) (by omega) (by omega) _ Q5).mono ?_
  rintro _ w10b ⟨rfl, t10b, ls, hls, V5⟩
  replace t10b : Touch gq5 _ _ := touch_grown (g := gq5) t10b
  replace Q5 : Held shI w10b _ gq5 q5 cq5 ls := V5
  clear V5
  replace hls : Hid _ := hls
  have z_t10b := t10b.le
  try simp only [World.size_alloc] at z_t10b
  replace G := G.touch t10b (by omega)
  replace A := A.touch t10b (by omega)
  replace W := W.touch t10b (by omega)
  replace X := X.touch t10b (by omega)
  replace Y := Y.touch t10b (by omega)
  replace T2 := T2.touch t10b (by omega)
  replace Q3 := Q3.touch t10b (by omega)
  replace T4 := T4.touch t10b (by omega)
  replace T5 := T5.touch t10b (by omega)
  replace T3 := T3.touch t10b (fun e => by have := hi_T3 _ e; omega)
  replace cA0 : World.cell? _ _ = some (.int .i64 now0) := A.cell 0
  replace cA1 : World.cell? _ _ = some (.slice a0 n0 c0) := A.cell 1
  replace cX0 : World.cell? _ _ = some (.int .i64 now0) := X.cell 0
  replace cX1 : World.cell? _ _ = some (.slice (some ⟨g4, 0, none⟩) n0 n0) := X.cell 1
  replace cW0 : World.cell? _ _ = some (.int .i64 nw) := W.cell 0
  replace cW1 : World.cell? _ _ = some (.slice av3 m5 cv3) := W.cell 1
  replace cY0 : World.cell? _ _ = some (.int .i64 nw) := Y.cell 0
  replace cY1 : World.cell? _ _ = some (.slice (some ⟨g5, 0, none⟩) m5 c5) := Y.cell 1
  have hp3 : ¬ (1 : Int) + 2 * (m5 : Int) + (q5 : Int) < 0 := by omega
  go_wp2_with (fail)
  refine (heldClock nw _ m5 c5 ns 1 (by omega) (by omega) _ T5.reads hns.out).mono ?_
  rintro _ w11 ⟨rfl, k11⟩
  have z_k11 := k11.le
  try simp only [World.size_alloc] at z_k11
  replace G := G.trans k11
  replace A := A.since k11
  replace W := W.since k11
  replace X := X.since k11
  replace Y := Y.since k11
  replace T2 := T2.since k11
  replace Q3 := Q3.since k11
  replace T4 := T4.since k11
  replace T5 := T5.since k11
  replace Q5 := Q5.since k11
  replace T3 := T3.since k11
  replace cA0 : World.cell? _ _ = some (.int .i64 now0) := A.cell 0
  replace cA1 : World.cell? _ _ = some (.slice a0 n0 c0) := A.cell 1
  replace cX0 : World.cell? _ _ = some (.int .i64 now0) := X.cell 0
  replace cX1 : World.cell? _ _ = some (.slice (some ⟨g4, 0, none⟩) n0 n0) := X.cell 1
  replace cW0 : World.cell? _ _ = some (.int .i64 nw) := W.cell 0
  replace cW1 : World.cell? _ _ = some (.slice av3 m5 cv3) := W.cell 1
  replace cY0 : World.cell? _ _ = some (.int .i64 nw) := Y.cell 0
  replace cY1 : World.cell? _ _ = some (.slice (some ⟨g5, 0, none⟩) m5 c5) := Y.cell 1
  go_wp2_with (fail)
  refine (heldInts _ q5 cq5 ls (1 + 2 * (m5 : Int)) (by omega) (by omega) _ Q5.reads hls.out).mono ?_
  rintro _ w11b ⟨rfl, k11b⟩
  have z_k11b := k11b.le
  try simp only [World.size_alloc] at z_k11b
  replace G := G.trans k11b
  replace A := A.since k11b
  replace W := W.since k11b
  replace X := X.since k11b
  replace Y := Y.since k11b
  replace T2 := T2.since k11b
  replace Q3 := Q3.since k11b
  replace T4 := T4.since k11b
  replace T5 := T5.since k11b
  replace Q5 := Q5.since k11b
  replace T3 := T3.since k11b
  replace cA0 : World.cell? _ _ = some (.int .i64 now0) := A.cell 0
  replace cA1 : World.cell? _ _ = some (.slice a0 n0 c0) := A.cell 1
  replace cX0 : World.cell? _ _ = some (.int .i64 now0) := X.cell 0
  replace cX1 : World.cell? _ _ = some (.slice (some ⟨g4, 0, none⟩) n0 n0) := X.cell 1
  replace cW0 : World.cell? _ _ = some (.int .i64 nw) := W.cell 0
  replace cW1 : World.cell? _ _ = some (.slice av3 m5 cv3) := W.cell 1
  replace cY0 : World.cell? _ _ = some (.int .i64 nw) := Y.cell 0
  replace cY1 : World.cell? _ _ = some (.slice (some ⟨g5, 0, none⟩) m5 c5) := Y.cell 1
  go_wp2_with (fail)
  refine (toClock now0 a0 n0 c0 t0 hn _ (R0.since G)).mono ?_
  rintro _ w12 ⟨g12, rfl, T12, k12⟩
  have z_k12 := k12.le
  try simp only [World.size_alloc] at z_k12
  replace G := G.trans k12
  replace A := A.since k12
  replace W := W.since k12
  replace X := X.since k12
  replace Y := Y.since k12
  replace T2 := T2.since k12
  replace Q3 := Q3.since k12
  replace T4 := T4.since k12
  replace T5 := T5.since k12
  replace Q5 := Q5.since k12
  replace T3 := T3.since k12
  have lo_T12 := T12.low'
  try simp only [World.size_alloc] at lo_T12
  have hi_T12 := T12.lt
  try simp only [World.size_alloc] at hi_T12
  replace cA0 : World.cell? _ _ = some (.int .i64 now0) := A.cell 0
  replace cA1 : World.cell? _ _ = some (.slice a0 n0 c0) := A.cell 1
  replace cX0 : World.cell? _ _ = some (.int .i64 now0) := X.cell 0
  replace cX1 : World.cell? _ _ = some (.slice (some ⟨g4, 0, none⟩) n0 n0) := X.cell 1
  replace cW0 : World.cell? _ _ = some (.int .i64 nw) := W.cell 0
  replace cW1 : World.cell? _ _ = some (.slice av3 m5 cv3) := W.cell 1
  replace cY0 : World.cell? _ _ = some (.int .i64 nw) := Y.cell 0
  replace cY1 : World.cell? _ _ = some (.slice (some ⟨g5, 0, none⟩) m5 c5) := Y.cell 1
  go_wp2_with (fail)
  refine (implGo now0 _ n0 n0 t0 b1 _ T12.reads hn (by simp)).mono ?_
  rintro _ w13 ⟨g13, m13, c13, gq13, q13, cq13, rfl, T13, Q13, k13⟩
  rw [hr.out] at T13 Q13 ⊢
  rw [hnw.out]
  have em : m13 = m5 := T13.1.symm.trans T3.1
  subst em
  have eq : q13 = q5 := Q13.1.symm.trans Q3.1
  subst eq
  have z_k13 := k13.le
  try simp only [World.size_alloc] at z_k13
  replace G := G.trans k13
  replace A := A.since k13
  replace W := W.since k13
  replace X := X.since k13
  replace Y := Y.since k13
  replace T2 := T2.since k13
  replace Q3 := Q3.since k13
  replace T4 := T4.since k13
  replace T5 := T5.since k13
  replace Q5 := Q5.since k13
  replace T12 := T12.since k13
  replace T3 := T3.since k13
  have lo_T13 := T13.low'
  try simp only [World.size_alloc] at lo_T13
  have hi_T13 := T13.lt
  try simp only [World.size_alloc] at hi_T13
  have lo_Q13 := Q13.low'
  try simp only [World.size_alloc] at lo_Q13
  have hi_Q13 := Q13.lt
  try simp only [World.size_alloc] at hi_Q13
  have Z := Blk.new w13 #[.int .i64 nw, .slice (some ⟨g13, 0, none⟩) m13 c13] 29
  have k_Z := (Since.refl w13).alloc (.cells #[.int .i64 nw, .slice (some ⟨g13, 0, none⟩) m13 c13] 29)
  have z_k_Z := k_Z.le
  try simp only [World.size_alloc] at z_k_Z
  replace G := G.trans k_Z
  replace A := A.since k_Z
  replace W := W.since k_Z
  replace X := X.since k_Z
  replace Y := Y.since k_Z
  replace T2 := T2.since k_Z
  replace Q3 := Q3.since k_Z
  replace T4 := T4.since k_Z
  replace T5 := T5.since k_Z
  replace Q5 := Q5.since k_Z
  replace T12 := T12.since k_Z
  replace T13 := T13.since k_Z
  replace Q13 := Q13.since k_Z
  replace T3 := T3.since k_Z
  replace cA0 : World.cell? _ _ = some (.int .i64 now0) := A.cell 0
  replace cA1 : World.cell? _ _ = some (.slice a0 n0 c0) := A.cell 1
  replace cX0 : World.cell? _ _ = some (.int .i64 now0) := X.cell 0
  replace cX1 : World.cell? _ _ = some (.slice (some ⟨g4, 0, none⟩) n0 n0) := X.cell 1
  replace cW0 : World.cell? _ _ = some (.int .i64 nw) := W.cell 0
  replace cW1 : World.cell? _ _ = some (.slice av3 m13 cv3) := W.cell 1
  replace cY0 : World.cell? _ _ = some (.int .i64 nw) := Y.cell 0
  replace cY1 : World.cell? _ _ = some (.slice (some ⟨g5, 0, none⟩) m13 c5) := Y.cell 1
  have cZ0 : World.cell? _ _ = some (.int .i64 nw) := Z.cell 0
  have cZ1 : World.cell? _ _ = some (.slice (some ⟨g13, 0, none⟩) m13 c13) := Z.cell 1
  go_wp2_with (fail)
  refine (eqClock nw _ _ m13 c13 cv3 r.2.1 hm3 _ T13.reads T3.reads).mono ?_
  rintro _ w14 ⟨rfl, k14⟩
  have z_k14 := k14.le
  try simp only [World.size_alloc] at z_k14
  replace G := G.trans k14
  replace A := A.since k14
  replace W := W.since k14
  replace X := X.since k14
  replace Y := Y.since k14
  replace Z := Z.since k14
  replace T2 := T2.since k14
  replace Q3 := Q3.since k14
  replace T4 := T4.since k14
  replace T5 := T5.since k14
  replace Q5 := Q5.since k14
  replace T12 := T12.since k14
  replace T13 := T13.since k14
  replace Q13 := Q13.since k14
  replace T3 := T3.since k14
  replace cA0 : World.cell? _ _ = some (.int .i64 now0) := A.cell 0
  replace cA1 : World.cell? _ _ = some (.slice a0 n0 c0) := A.cell 1
  replace cX0 : World.cell? _ _ = some (.int .i64 now0) := X.cell 0
  replace cX1 : World.cell? _ _ = some (.slice (some ⟨g4, 0, none⟩) n0 n0) := X.cell 1
  replace cW0 : World.cell? _ _ = some (.int .i64 nw) := W.cell 0
  replace cW1 : World.cell? _ _ = some (.slice av3 m13 cv3) := W.cell 1
  replace cY0 : World.cell? _ _ = some (.int .i64 nw) := Y.cell 0
  replace cY1 : World.cell? _ _ = some (.slice (some ⟨g5, 0, none⟩) m13 c5) := Y.cell 1
  replace cZ0 : World.cell? _ _ = some (.int .i64 nw) := Z.cell 0
  replace cZ1 : World.cell? _ _ = some (.slice (some ⟨g13, 0, none⟩) m13 c13) := Z.cell 1
  go_wp2_with (fail)
  refine (eqInts _ _ q13 cq13 cq3 r.2.2 hq3 _ Q13.reads Q3.reads).mono ?_
  rintro _ w14b ⟨rfl, k14b⟩
  have z_k14b := k14b.le
  try simp only [World.size_alloc] at z_k14b
  replace G := G.trans k14b
  replace A := A.since k14b
  replace W := W.since k14b
  replace X := X.since k14b
  replace Y := Y.since k14b
  replace Z := Z.since k14b
  replace T2 := T2.since k14b
  replace Q3 := Q3.since k14b
  replace T4 := T4.since k14b
  replace T5 := T5.since k14b
  replace Q5 := Q5.since k14b
  replace T12 := T12.since k14b
  replace T13 := T13.since k14b
  replace Q13 := Q13.since k14b
  replace T3 := T3.since k14b
  replace cA0 : World.cell? _ _ = some (.int .i64 now0) := A.cell 0
  replace cA1 : World.cell? _ _ = some (.slice a0 n0 c0) := A.cell 1
  replace cX0 : World.cell? _ _ = some (.int .i64 now0) := X.cell 0
  replace cX1 : World.cell? _ _ = some (.slice (some ⟨g4, 0, none⟩) n0 n0) := X.cell 1
  replace cW0 : World.cell? _ _ = some (.int .i64 nw) := W.cell 0
  replace cW1 : World.cell? _ _ = some (.slice av3 m13 cv3) := W.cell 1
  replace cY0 : World.cell? _ _ = some (.int .i64 nw) := Y.cell 0
  replace cY1 : World.cell? _ _ = some (.slice (some ⟨g5, 0, none⟩) m13 c5) := Y.cell 1
  replace cZ0 : World.cell? _ _ = some (.int .i64 nw) := Z.cell 0
  replace cZ1 : World.cell? _ _ = some (.slice (some ⟨g13, 0, none⟩) m13 c13) := Z.cell 1
  go_wp2_with (fail)
  refine (heldClock nw _ m13 c5 ns 1 (by omega) (by omega) _ T5.reads hns.out).mono ?_
  rintro _ w15 ⟨rfl, k15⟩
  have z_k15 := k15.le
  try simp only [World.size_alloc] at z_k15
  replace G := G.trans k15
  replace A := A.since k15
  replace W := W.since k15
  replace X := X.since k15
  replace Y := Y.since k15
  replace Z := Z.since k15
  replace T2 := T2.since k15
  replace Q3 := Q3.since k15
  replace T4 := T4.since k15
  replace T5 := T5.since k15
  replace Q5 := Q5.since k15
  replace T12 := T12.since k15
  replace T13 := T13.since k15
  replace Q13 := Q13.since k15
  replace T3 := T3.since k15
  replace cA0 : World.cell? _ _ = some (.int .i64 now0) := A.cell 0
  replace cA1 : World.cell? _ _ = some (.slice a0 n0 c0) := A.cell 1
  replace cX0 : World.cell? _ _ = some (.int .i64 now0) := X.cell 0
  replace cX1 : World.cell? _ _ = some (.slice (some ⟨g4, 0, none⟩) n0 n0) := X.cell 1
  replace cW0 : World.cell? _ _ = some (.int .i64 nw) := W.cell 0
  replace cW1 : World.cell? _ _ = some (.slice av3 m13 cv3) := W.cell 1
  replace cY0 : World.cell? _ _ = some (.int .i64 nw) := Y.cell 0
  replace cY1 : World.cell? _ _ = some (.slice (some ⟨g5, 0, none⟩) m13 c5) := Y.cell 1
  replace cZ0 : World.cell? _ _ = some (.int .i64 nw) := Z.cell 0
  replace cZ1 : World.cell? _ _ = some (.slice (some ⟨g13, 0, none⟩) m13 c13) := Z.cell 1
  go_wp2_with (fail)
  refine (heldInts _ q13 cq5 ls (1 + 2 * (m13 : Int)) (by omega) (by omega) _ Q5.reads hls.out).mono ?_
  rintro _ w15b ⟨rfl, k15b⟩
  have z_k15b := k15b.le
  try simp only [World.size_alloc] at z_k15b
  replace G := G.trans k15b
  replace A := A.since k15b
  replace W := W.since k15b
  replace X := X.since k15b
  replace Y := Y.since k15b
  replace Z := Z.since k15b
  replace T2 := T2.since k15b
  replace Q3 := Q3.since k15b
  replace T4 := T4.since k15b
  replace T5 := T5.since k15b
  replace Q5 := Q5.since k15b
  replace T12 := T12.since k15b
  replace T13 := T13.since k15b
  replace Q13 := Q13.since k15b
  replace T3 := T3.since k15b
  replace cA0 : World.cell? _ _ = some (.int .i64 now0) := A.cell 0
  replace cA1 : World.cell? _ _ = some (.slice a0 n0 c0) := A.cell 1
  replace cX0 : World.cell? _ _ = some (.int .i64 now0) := X.cell 0
  replace cX1 : World.cell? _ _ = some (.slice (some ⟨g4, 0, none⟩) n0 n0) := X.cell 1
  replace cW0 : World.cell? _ _ = some (.int .i64 nw) := W.cell 0
  replace cW1 : World.cell? _ _ = some (.slice av3 m13 cv3) := W.cell 1
  replace cY0 : World.cell? _ _ = some (.int .i64 nw) := Y.cell 0
  replace cY1 : World.cell? _ _ = some (.slice (some ⟨g5, 0, none⟩) m13 c5) := Y.cell 1
  replace cZ0 : World.cell? _ _ = some (.int .i64 nw) := Z.cell 0
  replace cZ1 : World.cell? _ _ = some (.slice (some ⟨g13, 0, none⟩) m13 c13) := Z.cell 1
  go_wp2_with (fail)
  go_ret
  exact ⟨rfl, G⟩

set_option maxRecDepth 100000 in
theorem lifted (os : Os) (started : os.Started) (H : Type) (enc : TypeId × Value → H) :
    ReturnsInHanded {} Try.checked os 6 .any (Rows.fnExactClockGoSpec.pre6 enc Try.prog Try.f6 Rows.fnExactClockGoRow.domain false) (Rows.fnExactClockGoSpec.post enc Try.prog Try.f6 false true false false) := by
  refine returnsInHanded_of_change (C := Try.checked) own started (by kernel_rfl) Try.func6
    (ChangeSpec.witness6 (enc := enc) (C := Try.checked) false ⟨#[], #[.agg #[.int .i64 0, .slice none 0 0], .int .i64 0], []⟩ 8 (by kernel_rfl) (by kernel_rfl) (by kernel_rfl) (by kernel_rfl)) ?_
  intro W base args ds gs before hval0 hW hcnd _
  have hval : ∀ (j : Nat) t v, Try.f6.params[j]? = some t → args[j]? = some v → Value.okWide Try.prog W .any base t v := hval0
  have hW' := hW
  obtain ⟨p, q, hA0, hV, rfl, hfz, hnd⟩ := hW
  have hA : DataW.TrodAll enc Try.prog W 0 (fun _ => true) true Try.f6.params.toList args.toList ds p := hA0
  rw [Try.params6] at hA hval
  obtain ⟨v0, vs0, d0, ds0, p0, q0, hargs, rfl, rfl, h0, r0⟩ := trodAll_cons hA
  obtain ⟨v1, vs1, d1, ds1, p1, q1, rfl, rfl, rfl, h1, r1⟩ := trodAll_cons r0
  obtain ⟨rfl, rfl, rfl⟩ := trodAll_nil r1
  obtain rfl : args = #[v0, v1] := by cases args; simp_all
  obtain ⟨rfl, rfl⟩ := trodVars_none hV
  have e0 := h0
  have lt0 : ∀ x ∈ p0, x.block < W.heap.size := by obtain ⟨m, hm⟩ := e0; exact DataW.trod_lt m _ _ _ hm
  have e1 := h1
  have lt1 : ∀ x ∈ p1, x.block < W.heap.size := by obtain ⟨m, hm⟩ := e1; exact DataW.trod_lt m _ _ _ hm
  obtain ⟨now0, a0, n0, c0, t0, rfl, x0, R0, z0⟩ := open_clock (hval 0 24 v0 rfl rfl) h0
  obtain ⟨b1, rfl, _, _, x1⟩ := open_int Try.underlying3 (hval 1 3 v1 rfl rfl) h1
  clear hA0 hval0
  refine (walk now0 a0 n0 c0 t0 b1 W x0 R0 z0 x1).mono fun e W' ⟨he, bel⟩ => ?_
  subst he
  exact ⟨_, rfl, _, _, _, [], _, [], hW', trodAll_mk1 (shut_bool Try.underlying4 _), (trodAll_cons_mk (Below.trod laidOut (by kernel_rfl) (of_decide_eq_true (by kernel_rfl)) e0 bel lt0) (trodAll_cons_mk (Below.trod laidOut (by kernel_rfl) (of_decide_eq_true (by kernel_rfl)) e1 bel lt1) trodAll_mk0)), rfl, bel.frame _, fun h => by cases h⟩

theorem over : Rows.fnExactClockGoRow.holds Try.pinned (OpenSpec.ofChange Rows.fnExactClockGoSpec) :=
  OpenClaim.holds_of_wide 6 Try.f6 rfl rfl rfl rfl rfl rfl rfl ⟨rfl, rfl, rfl, rfl, rfl⟩ rfl rfl rfl rfl rfl (by kernel_rfl) Try.func6 (by kernel_rfl)
    (of_decide_eq_true (by kernel_rfl)) (by unfold Func.isWrapper; first | (rw [if_pos (by decide +kernel)]; kernel_rfl) | (rw [if_neg (by decide +kernel)]; exact ⟨rfl, rfl⟩))
    (fun os started H enc _ => lifted os started H enc)

theorem proved : Rows.FnExactClockGoSaid := over
end Go.Proofs.Ytcclgcdghnmdfaa.fnExactClockGo

namespace Go.Proofs.Ytcclgcdghnmdfaa
theorem fnExactClockGo_holds : Rows.FnExactClockGoSaid := fnExactClockGo.proved
#print axioms fnExactClockGo_holds
end Go.Proofs.Ytcclgcdghnmdfaa
