/-
  Proved: at every list of ops impl.ClockRun answers as spec.ClockRun, writes into no argument, and its answer owns its memory (the law FnExactClockRun returns true, and its arguments read as before); no condition (of more than 1048576 ops the law asks nothing).
-/
import Derived.Test.YtcclgcdghnmdfaaRows
import Derived.Test.YtcclgcdghnmdfaaOpenClock
import Derived.Test.YtcclgcdghnmdfaaTimLaw
import Derived.Test.YtcclgcdghnmdfaaTimImplRun
import Derived.Test.YtcclgcdghnmdfaaTimSpecRun
import Derived.Test.YtcclgcdghnmdfaaDrawn
import Derived.WalkKit
import Derived.ProofKit
import Derived.OpenShut
import Derived.ShutString
import Derived.ChangeOld
import Derived.Below
import Derived.Carry
namespace Go.Proofs.Ytcclgcdghnmdfaa.fnExactClockRun
open Go.ChangeShapes Go.WideShapes Go.ChangeAt Go.RowKit
open Go.ChangeMaps (open_string shut_string)
set_option linter.unusedVariables false

theorem own : ownKnob Try.prog.godebug = none := by kernel_rfl
theorem laidOut : laidOutB Try.prog = true := by kernel_rfl

theorem run_le (os : List (Int × Int × Int)) : (runC os).2.1.length ≤ 1048576 ∧ (runC os).2.2.length ≤ 1048576 := by
  unfold runC
  split
  · rename_i h
    have k := runTo_runs os os.length (Nat.le_refl _)
    have h1 := k.ok.2.1
    have h2 := k.off
    omega
  · simp

theorem run_big {os : List (Int × Int × Int)} (h : 1000 < os.length) : runC os = (0, [], []) := by
  unfold runC
  rw [if_neg (by omega)]

set_option maxHeartbeats 8000000 in
theorem walk (a0 : Option Addr) (n0 c0 : Nat) (o0 : List (Int × Int × Int)) (w : World) (R0 : Rd shO w a0 n0 o0) (z0 : ∀ i, i < n0 → (Lit.int .i64 (oAt o0 i).1).wf = true ∧ (Lit.int .i64 (oAt o0 i).2.1).wf = true ∧ (Lit.int .i64 (oAt o0 i).2.2).wf = true) :
    Calls Try.prog 8 #[.slice a0 n0 c0] w fun e w' => e = .returned (.bool true) ∧ Below w.heap.size w w' := by
  have hsz := szOps a0 n0 c0 1048576 (by omega) (by omega) R0.most w
  have G := Since.refl w
  have hwf : ∀ i, i < n0 → I64 (oAt o0 i).2.1 := fun i hi => (z0 i hi).2.1
  replace hwf : Hid _ := hwf
  clear z0
  obtain ⟨r, hr⟩ : ∃ r, Hid (runC o0 = r) := ⟨_, rfl⟩
  go_enter Try.func8, Try.ntmps8
  go_wp2_with (go_at_call 27; refine hsz.mono ?_; rintro _ _ ⟨⟨rr, rfl, hb⟩, rfl⟩; replace hb : Hid _ := hb)
  · go_ret
    exact ⟨rfl, G⟩
  have hn : n0 ≤ 1048576 := by have := hb.out (by omega); omega
  clear hsz
  by_cases hbig : n0 ≤ 1000
  · obtain ⟨hrl, hrq⟩ : r.2.1.length ≤ 1048576 ∧ r.2.2.length ≤ 1048576 := by rw [← hr.out]; exact run_le _
    refine (toOps a0 n0 c0 o0 hn _ (R0.since G)).mono ?_
    rintro _ w2 ⟨g2, rfl, T2, k2⟩
    have z_k2 := k2.le
    try simp only [World.size_alloc] at z_k2
    replace G := G.trans k2
    have lo_T2 := T2.low'
    try simp only [World.size_alloc] at lo_T2
    have hi_T2 := T2.lt
    try simp only [World.size_alloc] at hi_T2
    go_wp2_with (fail)
    refine (specRun g2 n0 n0 _ o0 _ T2).mono ?_
    rintro _ w3 ⟨v3, m3, gq3, q3, cq3, rfl, T3, Q3, k3⟩
    rw [hr.out] at T3 Q3 ⊢
    obtain ⟨av3, cv3, rfl, -, -⟩ := T3.form
    have z_k3 := k3.le
    try simp only [World.size_alloc] at z_k3
    replace G := G.trans k3
    replace T2 := T2.since k3
    have hi_T3 : ∀ g, (Value.slice av3 m3 cv3).ownBlock = some g → g < w3.heap.size := fun g e => (T3.lt e).2
    have lo_Q3 := Q3.low'
    try simp only [World.size_alloc] at lo_Q3
    have hi_Q3 := Q3.lt
    try simp only [World.size_alloc] at hi_Q3
    have hm3 : m3 ≤ 1048576 := by rw [← T3.1]; exact hrl
    have hq3 : q3 ≤ 1048576 := by rw [← Q3.1]; exact hrq
    obtain ⟨nw, hnw⟩ : ∃ nw, Hid (r.1 = nw) := ⟨_, rfl⟩
    rw [hnw.out]
    have W := Blk.new w3 #[.int .i64 nw, .slice av3 m3 cv3] 29
    have k_W := (Since.refl w3).alloc (.cells #[.int .i64 nw, .slice av3 m3 cv3] 29)
    have z_k_W := k_W.le
    try simp only [World.size_alloc] at z_k_W
    replace G := G.trans k_W
    replace T2 := T2.since k_W
    replace Q3 := Q3.since k_W
    replace T3 := T3.since k_W
    go_wp2_with (fail)
    refine (toOps a0 n0 c0 o0 hn _ (R0.since G)).mono ?_
    rintro _ w4 ⟨g4, rfl, T4, k4⟩
    have z_k4 := k4.le
    try simp only [World.size_alloc] at z_k4
    replace G := G.trans k4
    replace W := W.since k4
    replace T2 := T2.since k4
    replace Q3 := Q3.since k4
    replace T3 := T3.since k4
    have lo_T4 := T4.low'
    try simp only [World.size_alloc] at lo_T4
    have hi_T4 := T4.lt
    try simp only [World.size_alloc] at hi_T4
    go_wp2_with (fail)
    refine (implRun g4 n0 n0 _ o0 _ T4 hwf.out).mono ?_
    rintro _ w5 ⟨v5, m5, gq5, q5, cq5, rfl, T5, Q5, hv5, k5⟩
    rw [hr.out] at T5 Q5 ⊢
    rw [hnw.out]
    obtain rfl : m5 = m3 := T5.1.symm.trans T3.1
    obtain rfl : q5 = q3 := Q5.1.symm.trans Q3.1
    rw [if_pos hbig] at hv5
    obtain ⟨g5, c5, rfl⟩ := hv5
    replace T5 : Held shT w5 _ g5 m5 c5 r.2.1 := T5
    have z_k5 := k5.le
    try simp only [World.size_alloc] at z_k5
    replace G := G.trans k5
    replace W := W.since k5
    replace T2 := T2.since k5
    replace Q3 := Q3.since k5
    replace T4 := T4.since k5
    replace T3 := T3.since k5
    have lo_T5 := T5.low'
    try simp only [World.size_alloc] at lo_T5
    have hi_T5 := T5.lt
    try simp only [World.size_alloc] at hi_T5
    have lo_Q5 := Q5.low'
    try simp only [World.size_alloc] at lo_Q5
    have hi_Q5 := Q5.lt
    try simp only [World.size_alloc] at hi_Q5
    have Y := Blk.new w5 #[.int .i64 nw, .slice (some ⟨g5, 0, none⟩) m5 c5] 29
    have k_Y := (Since.refl w5).alloc (.cells #[.int .i64 nw, .slice (some ⟨g5, 0, none⟩) m5 c5] 29)
    have z_k_Y := k_Y.le
    try simp only [World.size_alloc] at z_k_Y
    replace G := G.trans k_Y
    replace W := W.since k_Y
    replace T2 := T2.since k_Y
    replace Q3 := Q3.since k_Y
    replace T4 := T4.since k_Y
    replace T5 := T5.since k_Y
    replace Q5 := Q5.since k_Y
    replace T3 := T3.since k_Y
    have cW0 : World.cell? _ _ = some (.int .i64 nw) := W.cell 0
    have cW1 : World.cell? _ _ = some (.slice av3 m5 cv3) := W.cell 1
    have cY0 : World.cell? _ _ = some (.int .i64 nw) := Y.cell 0
    have cY1 : World.cell? _ _ = some (.slice (some ⟨g5, 0, none⟩) m5 c5) := Y.cell 1
    go_wp2_with (fail)
    refine (eqClock nw _ _ m5 c5 cv3 r.2.1 (by omega) _ T5.reads T3.reads).mono ?_
    rintro _ w6 ⟨rfl, k6⟩
    have z_k6 := k6.le
    try simp only [World.size_alloc] at z_k6
    replace G := G.trans k6
    replace W := W.since k6
    replace Y := Y.since k6
    replace T2 := T2.since k6
    replace Q3 := Q3.since k6
    replace T4 := T4.since k6
    replace T5 := T5.since k6
    replace Q5 := Q5.since k6
    replace T3 := T3.since k6
    replace cW0 : World.cell? _ _ = some (.int .i64 nw) := W.cell 0
    replace cW1 : World.cell? _ _ = some (.slice av3 m5 cv3) := W.cell 1
    replace cY0 : World.cell? _ _ = some (.int .i64 nw) := Y.cell 0
    replace cY1 : World.cell? _ _ = some (.slice (some ⟨g5, 0, none⟩) m5 c5) := Y.cell 1
    go_wp2_with (fail)
    refine (eqInts _ _ q5 cq5 cq3 r.2.2 hq3 _ Q5.reads Q3.reads).mono ?_
    rintro _ w6b ⟨rfl, k6b⟩
    have z_k6b := k6b.le
    try simp only [World.size_alloc] at z_k6b
    replace G := G.trans k6b
    replace W := W.since k6b
    replace Y := Y.since k6b
    replace T2 := T2.since k6b
    replace Q3 := Q3.since k6b
    replace T4 := T4.since k6b
    replace T5 := T5.since k6b
    replace Q5 := Q5.since k6b
    replace T3 := T3.since k6b
    replace cW0 : World.cell? _ _ = some (.int .i64 nw) := W.cell 0
    replace cW1 : World.cell? _ _ = some (.slice av3 m5 cv3) := W.cell 1
    replace cY0 : World.cell? _ _ = some (.int .i64 nw) := Y.cell 0
    replace cY1 : World.cell? _ _ = some (.slice (some ⟨g5, 0, none⟩) m5 c5) := Y.cell 1
    go_wp2_with (fail)
    refine (toOps a0 n0 c0 o0 hn _ (R0.since G)).mono ?_
    rintro _ w7 ⟨g7, rfl, T7, k7⟩
    have z_k7 := k7.le
    try simp only [World.size_alloc] at z_k7
    replace G := G.trans k7
    replace W := W.since k7
    replace Y := Y.since k7
    replace T2 := T2.since k7
    replace Q3 := Q3.since k7
    replace T4 := T4.since k7
    replace T5 := T5.since k7
    replace Q5 := Q5.since k7
    replace T3 := T3.since k7
    have lo_T7 := T7.low'
    try simp only [World.size_alloc] at lo_T7
    have hi_T7 := T7.lt
    try simp only [World.size_alloc] at hi_T7
    replace cW0 : World.cell? _ _ = some (.int .i64 nw) := W.cell 0
    replace cW1 : World.cell? _ _ = some (.slice av3 m5 cv3) := W.cell 1
    replace cY0 : World.cell? _ _ = some (.int .i64 nw) := Y.cell 0
    replace cY1 : World.cell? _ _ = some (.slice (some ⟨g5, 0, none⟩) m5 c5) := Y.cell 1
    go_wp2_with (fail)
    refine (eqOps _ _ n0 n0 n0 o0 hn _ T4.reads T7.reads).mono ?_
    rintro _ w7b ⟨rfl, k7b⟩
    have z_k7b := k7b.le
    try simp only [World.size_alloc] at z_k7b
    replace G := G.trans k7b
    replace W := W.since k7b
    replace Y := Y.since k7b
    replace T2 := T2.since k7b
    replace Q3 := Q3.since k7b
    replace T4 := T4.since k7b
    replace T5 := T5.since k7b
    replace Q5 := Q5.since k7b
    replace T7 := T7.since k7b
    replace T3 := T3.since k7b
    replace cW0 : World.cell? _ _ = some (.int .i64 nw) := W.cell 0
    replace cW1 : World.cell? _ _ = some (.slice av3 m5 cv3) := W.cell 1
    replace cY0 : World.cell? _ _ = some (.int .i64 nw) := Y.cell 0
    replace cY1 : World.cell? _ _ = some (.slice (some ⟨g5, 0, none⟩) m5 c5) := Y.cell 1
    go_wp2_with (fail)
    refine (markOps _ g4 n0 n0 o0 1 (by omega) (by omega) _ T4).mono ?_
    rintro _ w8 ⟨rfl, t8, ms, U4⟩
    replace T4 := U4
    clear U4
    have z_t8 := t8.le
    try simp only [World.size_alloc] at z_t8
    replace G := G.touch t8 (by omega)
    replace W := W.touch t8 (by omega)
    replace Y := Y.touch t8 (by omega)
    replace T2 := T2.touch t8 (by omega)
    replace Q3 := Q3.touch t8 (by omega)
    replace T5 := T5.touch t8 (by omega)
    replace Q5 := Q5.touch t8 (by omega)
    replace T7 := T7.touch t8 (by omega)
    replace T3 := T3.touch t8 (fun e => by have := hi_T3 _ e; omega)
    replace cW0 : World.cell? _ _ = some (.int .i64 nw) := W.cell 0
    replace cW1 : World.cell? _ _ = some (.slice av3 m5 cv3) := W.cell 1
    replace cY0 : World.cell? _ _ = some (.int .i64 nw) := Y.cell 0
    replace cY1 : World.cell? _ _ = some (.slice (some ⟨g5, 0, none⟩) m5 c5) := Y.cell 1
    have hp1 : ¬ (1 : Int) + 3 * (n0 : Int) < 0 := by omega
    go_wp2_with (fail)
    refine (eqClock nw _ _ m5 c5 cv3 r.2.1 (by omega) _ T5.reads T3.reads).mono ?_
    rintro _ w9 ⟨rfl, k9⟩
    have z_k9 := k9.le
    try simp only [World.size_alloc] at z_k9
    replace G := G.trans k9
    replace W := W.since k9
    replace Y := Y.since k9
    replace T2 := T2.since k9
    replace Q3 := Q3.since k9
    replace T4 := T4.since k9
    replace T5 := T5.since k9
    replace Q5 := Q5.since k9
    replace T7 := T7.since k9
    replace T3 := T3.since k9
    replace cW0 : World.cell? _ _ = some (.int .i64 nw) := W.cell 0
    replace cW1 : World.cell? _ _ = some (.slice av3 m5 cv3) := W.cell 1
    replace cY0 : World.cell? _ _ = some (.int .i64 nw) := Y.cell 0
    replace cY1 : World.cell? _ _ = some (.slice (some ⟨g5, 0, none⟩) m5 c5) := Y.cell 1
    go_wp2_with (fail)
    refine (eqInts _ _ q5 cq5 cq3 r.2.2 hq3 _ Q5.reads Q3.reads).mono ?_
    rintro _ w9b ⟨rfl, k9b⟩
    have z_k9b := k9b.le
    try simp only [World.size_alloc] at z_k9b
    replace G := G.trans k9b
    replace W := W.since k9b
    replace Y := Y.since k9b
    replace T2 := T2.since k9b
    replace Q3 := Q3.since k9b
    replace T4 := T4.since k9b
    replace T5 := T5.since k9b
    replace Q5 := Q5.since k9b
    replace T7 := T7.since k9b
    replace T3 := T3.since k9b
    replace cW0 : World.cell? _ _ = some (.int .i64 nw) := W.cell 0
    replace cW1 : World.cell? _ _ = some (.slice av3 m5 cv3) := W.cell 1
    replace cY0 : World.cell? _ _ = some (.int .i64 nw) := Y.cell 0
    replace cY1 : World.cell? _ _ = some (.slice (some ⟨g5, 0, none⟩) m5 c5) := Y.cell 1
    go_wp2_with (fail)
    have hgq : g5 ≠ gq5 := fun e => (Own.apart T5 Q5 (by decide)).elim (fun h => by cases h) (fun h => h (by rw [e]; rfl))
    refine (markClock nw _ m5 (some ⟨g5, 0, none⟩) c5 r.2.1 1 (by omega) (by omega) _ T5).mono ?_
    rintro _ w10 ⟨rfl, t10, ns, hns, U5⟩
    replace t10 : Touch g5 _ _ := touch_grown t10
    replace T5 : Held shT w10 _ g5 m5 c5 ns := U5
    clear U5
    replace hns : Hid _ := hns
    have z_t10 := t10.le
    try simp only [World.size_alloc] at z_t10
    replace G := G.touch t10 (by omega)
    replace W := W.touch t10 (by omega)
    replace Y := Y.touch t10 (by omega)
    replace T2 := T2.touch t10 (by omega)
    replace Q3 := Q3.touch t10 (by omega)
    replace T4 := T4.touch t10 (by omega)
    replace Q5 := Q5.touch t10 (by omega)
    replace T7 := T7.touch t10 (by omega)
    replace T3 := T3.touch t10 (fun e => by have := hi_T3 _ e; omega)
    replace cW0 : World.cell? _ _ = some (.int .i64 nw) := W.cell 0
    replace cW1 : World.cell? _ _ = some (.slice av3 m5 cv3) := W.cell 1
    replace cY0 : World.cell? _ _ = some (.int .i64 nw) := Y.cell 0
    replace cY1 : World.cell? _ _ = some (.slice (some ⟨g5, 0, none⟩) m5 c5) := Y.cell 1
    have hp2 : ¬ (1 : Int) + 2 * (m5 : Int) < 0 := by omega
    go_wp2_with (fail)
    refine (markInts _ q5 _ r.2.2 (1 + 2 * (m5 : Int)) (by omega) (by omega) _ Q5).mono ?_
    rintro _ w10b ⟨rfl, t10b, ls, hls, V5⟩
    replace t10b : Touch gq5 _ _ := touch_grown (g := gq5) t10b
    replace Q5 : Held shI w10b _ gq5 q5 cq5 ls := V5
    clear V5
    replace hls : Hid _ := hls
    have z_t10b := t10b.le
    try simp only [World.size_alloc] at z_t10b
    replace G := G.touch t10b (by omega)
    replace W := W.touch t10b (by omega)
    replace Y := Y.touch t10b (by omega)
    replace T2 := T2.touch t10b (by omega)
    replace Q3 := Q3.touch t10b (by omega)
    replace T4 := T4.touch t10b (by omega)
    replace T5 := T5.touch t10b (by omega)
    replace T7 := T7.touch t10b (by omega)
    replace T3 := T3.touch t10b (fun e => by have := hi_T3 _ e; omega)
    replace cW0 : World.cell? _ _ = some (.int .i64 nw) := W.cell 0
    replace cW1 : World.cell? _ _ = some (.slice av3 m5 cv3) := W.cell 1
    replace cY0 : World.cell? _ _ = some (.int .i64 nw) := Y.cell 0
    replace cY1 : World.cell? _ _ = some (.slice (some ⟨g5, 0, none⟩) m5 c5) := Y.cell 1
    have hp3 : ¬ (1 + 2 * (m5 : Int) : Int) + (q5 : Int) < 0 := by omega
    go_wp2_with (fail)
    refine (heldClock nw _ m5 c5 ns 1 (by omega) (by omega) _ T5.reads hns.out).mono ?_
    rintro _ w11 ⟨rfl, k11⟩
    have z_k11 := k11.le
    try simp only [World.size_alloc] at z_k11
    replace G := G.trans k11
    replace W := W.since k11
    replace Y := Y.since k11
    replace T2 := T2.since k11
    replace Q3 := Q3.since k11
    replace T4 := T4.since k11
    replace T5 := T5.since k11
    replace Q5 := Q5.since k11
    replace T7 := T7.since k11
    replace T3 := T3.since k11
    replace cW0 : World.cell? _ _ = some (.int .i64 nw) := W.cell 0
    replace cW1 : World.cell? _ _ = some (.slice av3 m5 cv3) := W.cell 1
    replace cY0 : World.cell? _ _ = some (.int .i64 nw) := Y.cell 0
    replace cY1 : World.cell? _ _ = some (.slice (some ⟨g5, 0, none⟩) m5 c5) := Y.cell 1
    go_wp2_with (fail)
    refine (heldInts _ q5 cq5 ls (1 + 2 * (m5 : Int)) (by omega) (by omega) _ Q5.reads hls.out).mono ?_
    rintro _ w11b ⟨rfl, k11b⟩
    have z_k11b := k11b.le
    try simp only [World.size_alloc] at z_k11b
    replace G := G.trans k11b
    replace W := W.since k11b
    replace Y := Y.since k11b
    replace T2 := T2.since k11b
    replace Q3 := Q3.since k11b
    replace T4 := T4.since k11b
    replace T5 := T5.since k11b
    replace Q5 := Q5.since k11b
    replace T7 := T7.since k11b
    replace T3 := T3.since k11b
    replace cW0 : World.cell? _ _ = some (.int .i64 nw) := W.cell 0
    replace cW1 : World.cell? _ _ = some (.slice av3 m5 cv3) := W.cell 1
    replace cY0 : World.cell? _ _ = some (.int .i64 nw) := Y.cell 0
    replace cY1 : World.cell? _ _ = some (.slice (some ⟨g5, 0, none⟩) m5 c5) := Y.cell 1
    go_wp2_with (fail)
    refine (toOps a0 n0 c0 o0 hn _ (R0.since G)).mono ?_
    rintro _ w12 ⟨g12, rfl, T12, k12⟩
    have z_k12 := k12.le
    try simp only [World.size_alloc] at z_k12
    replace G := G.trans k12
    replace W := W.since k12
    replace Y := Y.since k12
    replace T2 := T2.since k12
    replace Q3 := Q3.since k12
    replace T4 := T4.since k12
    replace T5 := T5.since k12
    replace Q5 := Q5.since k12
    replace T7 := T7.since k12
    replace T3 := T3.since k12
    have lo_T12 := T12.low'
    try simp only [World.size_alloc] at lo_T12
    have hi_T12 := T12.lt
    try simp only [World.size_alloc] at hi_T12
    replace cW0 : World.cell? _ _ = some (.int .i64 nw) := W.cell 0
    replace cW1 : World.cell? _ _ = some (.slice av3 m5 cv3) := W.cell 1
    replace cY0 : World.cell? _ _ = some (.int .i64 nw) := Y.cell 0
    replace cY1 : World.cell? _ _ = some (.slice (some ⟨g5, 0, none⟩) m5 c5) := Y.cell 1
    go_wp2_with (fail)
    refine (implRun g12 n0 n0 _ o0 _ T12 hwf.out).mono ?_
    rintro _ w13 ⟨v13, m13, gq13, q13, cq13, rfl, T13, Q13, hv13, k13⟩
    rw [hr.out] at T13 Q13 ⊢
    rw [hnw.out]
    rw [if_pos hbig] at hv13
    obtain ⟨g13, c13, rfl⟩ := hv13
    have em : m5 = m13 := T3.1.symm.trans T13.1
    subst em
    have eq : q5 = q13 := Q3.1.symm.trans Q13.1
    subst eq
    replace T13 : Held shT w13 _ g13 m5 c13 r.2.1 := T13
    have z_k13 := k13.le
    try simp only [World.size_alloc] at z_k13
    replace G := G.trans k13
    replace W := W.since k13
    replace Y := Y.since k13
    replace T2 := T2.since k13
    replace Q3 := Q3.since k13
    replace T4 := T4.since k13
    replace T5 := T5.since k13
    replace Q5 := Q5.since k13
    replace T7 := T7.since k13
    replace T12 := T12.since k13
    replace T3 := T3.since k13
    have lo_T13 := T13.low'
    try simp only [World.size_alloc] at lo_T13
    have hi_T13 := T13.lt
    try simp only [World.size_alloc] at hi_T13
    have lo_Q13 := Q13.low'
    try simp only [World.size_alloc] at lo_Q13
    have hi_Q13 := Q13.lt
    try simp only [World.size_alloc] at hi_Q13
    have Z := Blk.new w13 #[.int .i64 nw, .slice (some ⟨g13, 0, none⟩) m5 c13] 29
    have k_Z := (Since.refl w13).alloc (.cells #[.int .i64 nw, .slice (some ⟨g13, 0, none⟩) m5 c13] 29)
    have z_k_Z := k_Z.le
    try simp only [World.size_alloc] at z_k_Z
    replace G := G.trans k_Z
    replace W := W.since k_Z
    replace Y := Y.since k_Z
    replace T2 := T2.since k_Z
    replace Q3 := Q3.since k_Z
    replace T4 := T4.since k_Z
    replace T5 := T5.since k_Z
    replace Q5 := Q5.since k_Z
    replace T7 := T7.since k_Z
    replace T12 := T12.since k_Z
    replace T13 := T13.since k_Z
    replace Q13 := Q13.since k_Z
    replace T3 := T3.since k_Z
    replace cW0 : World.cell? _ _ = some (.int .i64 nw) := W.cell 0
    replace cW1 : World.cell? _ _ = some (.slice av3 m5 cv3) := W.cell 1
    replace cY0 : World.cell? _ _ = some (.int .i64 nw) := Y.cell 0
    replace cY1 : World.cell? _ _ = some (.slice (some ⟨g5, 0, none⟩) m5 c5) := Y.cell 1
    have cZ0 : World.cell? _ _ = some (.int .i64 nw) := Z.cell 0
    have cZ1 : World.cell? _ _ = some (.slice (some ⟨g13, 0, none⟩) m5 c13) := Z.cell 1
    go_wp2_with (fail)
    refine (eqClock nw _ _ m5 c13 cv3 r.2.1 (by omega) _ T13.reads T3.reads).mono ?_
    rintro _ w14 ⟨rfl, k14⟩
    have z_k14 := k14.le
    try simp only [World.size_alloc] at z_k14
    replace G := G.trans k14
    replace W := W.since k14
    replace Y := Y.since k14
    replace Z := Z.since k14
    replace T2 := T2.since k14
    replace Q3 := Q3.since k14
    replace T4 := T4.since k14
    replace T5 := T5.since k14
    replace Q5 := Q5.since k14
    replace T7 := T7.since k14
    replace T12 := T12.since k14
    replace T13 := T13.since k14
    replace Q13 := Q13.since k14
    replace T3 := T3.since k14
    replace cW0 : World.cell? _ _ = some (.int .i64 nw) := W.cell 0
    replace cW1 : World.cell? _ _ = some (.slice av3 m5 cv3) := W.cell 1
    replace cY0 : World.cell? _ _ = some (.int .i64 nw) := Y.cell 0
    replace cY1 : World.cell? _ _ = some (.slice (some ⟨g5, 0, none⟩) m5 c5) := Y.cell 1
    replace cZ0 : World.cell? _ _ = some (.int .i64 nw) := Z.cell 0
    replace cZ1 : World.cell? _ _ = some (.slice (some ⟨g13, 0, none⟩) m5 c13) := Z.cell 1
    go_wp2_with (fail)
    refine (eqInts _ _ q5 cq13 cq3 r.2.2 hq3 _ Q13.reads Q3.reads).mono ?_
    rintro _ w14b ⟨rfl, k14b⟩
    have z_k14b := k14b.le
    try simp only [World.size_alloc] at z_k14b
    replace G := G.trans k14b
    replace W := W.since k14b
    replace Y := Y.since k14b
    replace Z := Z.since k14b
    replace T2 := T2.since k14b
    replace Q3 := Q3.since k14b
    replace T4 := T4.since k14b
    replace T5 := T5.since k14b
    replace Q5 := Q5.since k14b
    replace T7 := T7.since k14b
    replace T12 := T12.since k14b
    replace T13 := T13.since k14b
    replace Q13 := Q13.since k14b
    replace T3 := T3.since k14b
    replace cW0 : World.cell? _ _ = some (.int .i64 nw) := W.cell 0
    replace cW1 : World.cell? _ _ = some (.slice av3 m5 cv3) := W.cell 1
    replace cY0 : World.cell? _ _ = some (.int .i64 nw) := Y.cell 0
    replace cY1 : World.cell? _ _ = some (.slice (some ⟨g5, 0, none⟩) m5 c5) := Y.cell 1
    replace cZ0 : World.cell? _ _ = some (.int .i64 nw) := Z.cell 0
    replace cZ1 : World.cell? _ _ = some (.slice (some ⟨g13, 0, none⟩) m5 c13) := Z.cell 1
    go_wp2_with (fail)
    refine (heldClock nw _ m5 c5 ns 1 (by omega) (by omega) _ T5.reads hns.out).mono ?_
    rintro _ w15 ⟨rfl, k15⟩
    have z_k15 := k15.le
    try simp only [World.size_alloc] at z_k15
    replace G := G.trans k15
    replace W := W.since k15
    replace Y := Y.since k15
    replace Z := Z.since k15
    replace T2 := T2.since k15
    replace Q3 := Q3.since k15
    replace T4 := T4.since k15
    replace T5 := T5.since k15
    replace Q5 := Q5.since k15
    replace T7 := T7.since k15
    replace T12 := T12.since k15
    replace T13 := T13.since k15
    replace Q13 := Q13.since k15
    replace T3 := T3.since k15
    replace cW0 : World.cell? _ _ = some (.int .i64 nw) := W.cell 0
    replace cW1 : World.cell? _ _ = some (.slice av3 m5 cv3) := W.cell 1
    replace cY0 : World.cell? _ _ = some (.int .i64 nw) := Y.cell 0
    replace cY1 : World.cell? _ _ = some (.slice (some ⟨g5, 0, none⟩) m5 c5) := Y.cell 1
    replace cZ0 : World.cell? _ _ = some (.int .i64 nw) := Z.cell 0
    replace cZ1 : World.cell? _ _ = some (.slice (some ⟨g13, 0, none⟩) m5 c13) := Z.cell 1
    go_wp2_with (fail)
    refine (heldInts _ q5 cq5 ls (1 + 2 * (m5 : Int)) (by omega) (by omega) _ Q5.reads hls.out).mono ?_
    rintro _ w15b ⟨rfl, k15b⟩
    have z_k15b := k15b.le
    try simp only [World.size_alloc] at z_k15b
    replace G := G.trans k15b
    replace W := W.since k15b
    replace Y := Y.since k15b
    replace Z := Z.since k15b
    replace T2 := T2.since k15b
    replace Q3 := Q3.since k15b
    replace T4 := T4.since k15b
    replace T5 := T5.since k15b
    replace Q5 := Q5.since k15b
    replace T7 := T7.since k15b
    replace T12 := T12.since k15b
    replace T13 := T13.since k15b
    replace Q13 := Q13.since k15b
    replace T3 := T3.since k15b
    replace cW0 : World.cell? _ _ = some (.int .i64 nw) := W.cell 0
    replace cW1 : World.cell? _ _ = some (.slice av3 m5 cv3) := W.cell 1
    replace cY0 : World.cell? _ _ = some (.int .i64 nw) := Y.cell 0
    replace cY1 : World.cell? _ _ = some (.slice (some ⟨g5, 0, none⟩) m5 c5) := Y.cell 1
    replace cZ0 : World.cell? _ _ = some (.int .i64 nw) := Z.cell 0
    replace cZ1 : World.cell? _ _ = some (.slice (some ⟨g13, 0, none⟩) m5 c13) := Z.cell 1
    go_wp2_with (fail)
    go_ret
    exact ⟨rfl, G⟩
  · obtain ⟨hrl, hrq⟩ : r.2.1.length ≤ 1048576 ∧ r.2.2.length ≤ 1048576 := by rw [← hr.out]; exact run_le _
    have hr0 : Hid (r = (0, [], [])) := by rw [← hr.out]; exact run_big (by rw [R0.len]; omega)
    refine (toOps a0 n0 c0 o0 hn _ (R0.since G)).mono ?_
    rintro _ w2 ⟨g2, rfl, T2, k2⟩
    have z_k2 := k2.le
    try simp only [World.size_alloc] at z_k2
    replace G := G.trans k2
    have lo_T2 := T2.low'
    try simp only [World.size_alloc] at lo_T2
    have hi_T2 := T2.lt
    try simp only [World.size_alloc] at hi_T2
    go_wp2_with (fail)
    refine (specRun g2 n0 n0 _ o0 _ T2).mono ?_
    rintro _ w3 ⟨v3, m3, gq3, q3, cq3, rfl, T3, Q3, k3⟩
    rw [hr.out] at T3 Q3 ⊢
    obtain ⟨av3, cv3, rfl, -, -⟩ := T3.form
    have z_k3 := k3.le
    try simp only [World.size_alloc] at z_k3
    replace G := G.trans k3
    replace T2 := T2.since k3
    have hi_T3 : ∀ g, (Value.slice av3 m3 cv3).ownBlock = some g → g < w3.heap.size := fun g e => (T3.lt e).2
    have lo_Q3 := Q3.low'
    try simp only [World.size_alloc] at lo_Q3
    have hi_Q3 := Q3.lt
    try simp only [World.size_alloc] at hi_Q3
    have hm3 : m3 ≤ 1048576 := by rw [← T3.1]; exact hrl
    have hq3 : q3 ≤ 1048576 := by rw [← Q3.1]; exact hrq
    obtain ⟨nw, hnw⟩ : ∃ nw, Hid (r.1 = nw) := ⟨_, rfl⟩
    rw [hnw.out]
    have W := Blk.new w3 #[.int .i64 nw, .slice av3 m3 cv3] 29
    have k_W := (Since.refl w3).alloc (.cells #[.int .i64 nw, .slice av3 m3 cv3] 29)
    have z_k_W := k_W.le
    try simp only [World.size_alloc] at z_k_W
    replace G := G.trans k_W
    replace T2 := T2.since k_W
    replace Q3 := Q3.since k_W
    replace T3 := T3.since k_W
    go_wp2_with (fail)
    refine (toOps a0 n0 c0 o0 hn _ (R0.since G)).mono ?_
    rintro _ w4 ⟨g4, rfl, T4, k4⟩
    have z_k4 := k4.le
    try simp only [World.size_alloc] at z_k4
    replace G := G.trans k4
    replace W := W.since k4
    replace T2 := T2.since k4
    replace Q3 := Q3.since k4
    replace T3 := T3.since k4
    have lo_T4 := T4.low'
    try simp only [World.size_alloc] at lo_T4
    have hi_T4 := T4.lt
    try simp only [World.size_alloc] at hi_T4
    go_wp2_with (fail)
    refine (implRun g4 n0 n0 _ o0 _ T4 hwf.out).mono ?_
    rintro _ w5 ⟨v5, m5, gq5, q5, cq5, rfl, T5, Q5, hv5, k5⟩
    rw [hr.out] at T5 Q5 ⊢
    rw [hnw.out]
    obtain rfl : m5 = m3 := T5.1.symm.trans T3.1
    obtain rfl : q5 = q3 := Q5.1.symm.trans Q3.1
    rw [if_neg hbig] at hv5
    obtain ⟨rfl, rfl⟩ := hv5
    have hr1 : r.2.1 = [] := by rw [hr0.out]
    clear T5
    have z_k5 := k5.le
    try simp only [World.size_alloc] at z_k5
    replace G := G.trans k5
    replace W := W.since k5
    replace T2 := T2.since k5
    replace Q3 := Q3.since k5
    replace T4 := T4.since k5
    replace T3 := T3.since k5
    have lo_Q5 := Q5.low'
    try simp only [World.size_alloc] at lo_Q5
    have hi_Q5 := Q5.lt
    try simp only [World.size_alloc] at hi_Q5
    have Y := Blk.new w5 #[.int .i64 nw, .slice none 0 0] 29
    have k_Y := (Since.refl w5).alloc (.cells #[.int .i64 nw, .slice none 0 0] 29)
    have z_k_Y := k_Y.le
    try simp only [World.size_alloc] at z_k_Y
    replace G := G.trans k_Y
    replace W := W.since k_Y
    replace T2 := T2.since k_Y
    replace Q3 := Q3.since k_Y
    replace T4 := T4.since k_Y
    replace Q5 := Q5.since k_Y
    replace T3 := T3.since k_Y
    have cW0 : World.cell? _ _ = some (.int .i64 nw) := W.cell 0
    have cW1 : World.cell? _ _ = some (.slice av3 0 cv3) := W.cell 1
    have cY0 : World.cell? _ _ = some (.int .i64 nw) := Y.cell 0
    have cY1 : World.cell? _ _ = some (.slice none 0 0) := Y.cell 1
    go_wp2_with (fail)
    refine (eqClock nw _ _ 0 0 cv3 r.2.1 (by omega) _ (by rw [hr1]; exact Own.reads (Own.nil (S := shT) _ 0)) T3.reads).mono ?_
    rintro _ w6 ⟨rfl, k6⟩
    have z_k6 := k6.le
    try simp only [World.size_alloc] at z_k6
    replace G := G.trans k6
    replace W := W.since k6
    replace Y := Y.since k6
    replace T2 := T2.since k6
    replace Q3 := Q3.since k6
    replace T4 := T4.since k6
    replace Q5 := Q5.since k6
    replace T3 := T3.since k6
    replace cW0 : World.cell? _ _ = some (.int .i64 nw) := W.cell 0
    replace cW1 : World.cell? _ _ = some (.slice av3 0 cv3) := W.cell 1
    replace cY0 : World.cell? _ _ = some (.int .i64 nw) := Y.cell 0
    replace cY1 : World.cell? _ _ = some (.slice none 0 0) := Y.cell 1
    go_wp2_with (fail)
    refine (eqInts _ _ q5 cq5 cq3 r.2.2 hq3 _ Q5.reads Q3.reads).mono ?_
    rintro _ w6b ⟨rfl, k6b⟩
    have z_k6b := k6b.le
    try simp only [World.size_alloc] at z_k6b
    replace G := G.trans k6b
    replace W := W.since k6b
    replace Y := Y.since k6b
    replace T2 := T2.since k6b
    replace Q3 := Q3.since k6b
    replace T4 := T4.since k6b
    replace Q5 := Q5.since k6b
    replace T3 := T3.since k6b
    replace cW0 : World.cell? _ _ = some (.int .i64 nw) := W.cell 0
    replace cW1 : World.cell? _ _ = some (.slice av3 0 cv3) := W.cell 1
    replace cY0 : World.cell? _ _ = some (.int .i64 nw) := Y.cell 0
    replace cY1 : World.cell? _ _ = some (.slice none 0 0) := Y.cell 1
    go_wp2_with (fail)
    refine (toOps a0 n0 c0 o0 hn _ (R0.since G)).mono ?_
    rintro _ w7 ⟨g7, rfl, T7, k7⟩
    have z_k7 := k7.le
    try simp only [World.size_alloc] at z_k7
    replace G := G.trans k7
    replace W := W.since k7
    replace Y := Y.since k7
    replace T2 := T2.since k7
    replace Q3 := Q3.since k7
    replace T4 := T4.since k7
    replace Q5 := Q5.since k7
    replace T3 := T3.since k7
    have lo_T7 := T7.low'
    try simp only [World.size_alloc] at lo_T7
    have hi_T7 := T7.lt
    try simp only [World.size_alloc] at hi_T7
    replace cW0 : World.cell? _ _ = some (.int .i64 nw) := W.cell 0
    replace cW1 : World.cell? _ _ = some (.slice av3 0 cv3) := W.cell 1
    replace cY0 : World.cell? _ _ = some (.int .i64 nw) := Y.cell 0
    replace cY1 : World.cell? _ _ = some (.slice none 0 0) := Y.cell 1
    go_wp2_with (fail)
    refine (eqOps _ _ n0 n0 n0 o0 hn _ T4.reads T7.reads).mono ?_
    rintro _ w7b ⟨rfl, k7b⟩
    have z_k7b := k7b.le
    try simp only [World.size_alloc] at z_k7b
    replace G := G.trans k7b
    replace W := W.since k7b
    replace Y := Y.since k7b
    replace T2 := T2.since k7b
    replace Q3 := Q3.since k7b
    replace T4 := T4.since k7b
    replace Q5 := Q5.since k7b
    replace T7 := T7.since k7b
    replace T3 := T3.since k7b
    replace cW0 : World.cell? _ _ = some (.int .i64 nw) := W.cell 0
    replace cW1 : World.cell? _ _ = some (.slice av3 0 cv3) := W.cell 1
    replace cY0 : World.cell? _ _ = some (.int .i64 nw) := Y.cell 0
    replace cY1 : World.cell? _ _ = some (.slice none 0 0) := Y.cell 1
    go_wp2_with (fail)
    refine (markOps _ g4 n0 n0 o0 1 (by omega) (by omega) _ T4).mono ?_
    rintro _ w8 ⟨rfl, t8, ms, U4⟩
    replace T4 := U4
    clear U4
    have z_t8 := t8.le
    try simp only [World.size_alloc] at z_t8
    replace G := G.touch t8 (by omega)
    replace W := W.touch t8 (by omega)
    replace Y := Y.touch t8 (by omega)
    replace T2 := T2.touch t8 (by omega)
    replace Q3 := Q3.touch t8 (by omega)
    replace Q5 := Q5.touch t8 (by omega)
    replace T7 := T7.touch t8 (by omega)
    replace T3 := T3.touch t8 (fun e => by have := hi_T3 _ e; omega)
    replace cW0 : World.cell? _ _ = some (.int .i64 nw) := W.cell 0
    replace cW1 : World.cell? _ _ = some (.slice av3 0 cv3) := W.cell 1
    replace cY0 : World.cell? _ _ = some (.int .i64 nw) := Y.cell 0
    replace cY1 : World.cell? _ _ = some (.slice none 0 0) := Y.cell 1
    have hp1 : ¬ (1 : Int) + 3 * (n0 : Int) < 0 := by omega
    go_wp2_with (fail)
    refine (eqClock nw _ _ 0 0 cv3 r.2.1 (by omega) _ (by rw [hr1]; exact Own.reads (Own.nil (S := shT) _ 0)) T3.reads).mono ?_
    rintro _ w9 ⟨rfl, k9⟩
    have z_k9 := k9.le
    try simp only [World.size_alloc] at z_k9
    replace G := G.trans k9
    replace W := W.since k9
    replace Y := Y.since k9
    replace T2 := T2.since k9
    replace Q3 := Q3.since k9
    replace T4 := T4.since k9
    replace Q5 := Q5.since k9
    replace T7 := T7.since k9
    replace T3 := T3.since k9
    replace cW0 : World.cell? _ _ = some (.int .i64 nw) := W.cell 0
    replace cW1 : World.cell? _ _ = some (.slice av3 0 cv3) := W.cell 1
    replace cY0 : World.cell? _ _ = some (.int .i64 nw) := Y.cell 0
    replace cY1 : World.cell? _ _ = some (.slice none 0 0) := Y.cell 1
    go_wp2_with (fail)
    refine (eqInts _ _ q5 cq5 cq3 r.2.2 hq3 _ Q5.reads Q3.reads).mono ?_
    rintro _ w9b ⟨rfl, k9b⟩
    have z_k9b := k9b.le
    try simp only [World.size_alloc] at z_k9b
    replace G := G.trans k9b
    replace W := W.since k9b
    replace Y := Y.since k9b
    replace T2 := T2.since k9b
    replace Q3 := Q3.since k9b
    replace T4 := T4.since k9b
    replace Q5 := Q5.since k9b
    replace T7 := T7.since k9b
    replace T3 := T3.since k9b
    replace cW0 : World.cell? _ _ = some (.int .i64 nw) := W.cell 0
    replace cW1 : World.cell? _ _ = some (.slice av3 0 cv3) := W.cell 1
    replace cY0 : World.cell? _ _ = some (.int .i64 nw) := Y.cell 0
    replace cY1 : World.cell? _ _ = some (.slice none 0 0) := Y.cell 1
    go_wp2_with (fail)
    refine (markClock nw 0 0 none 0 [] 1 (by omega) (by omega) _ (Own.nil _ _)).mono ?_
    rintro _ w10 ⟨rfl, t10, ns, hns, U5⟩
    have k10 : Since _ w10 := ⟨t10.os, t10.tape, t10.output, t10.size, fun k hk => t10.block k hk (by simp [Value.ownBlock])⟩
    clear t10 U5
    replace hns : Hid _ := hns
    have z_k10 := k10.le
    try simp only [World.size_alloc] at z_k10
    replace G := G.trans k10
    replace W := W.since k10
    replace Y := Y.since k10
    replace T2 := T2.since k10
    replace Q3 := Q3.since k10
    replace T4 := T4.since k10
    replace Q5 := Q5.since k10
    replace T7 := T7.since k10
    replace T3 := T3.since k10
    replace cW0 : World.cell? _ _ = some (.int .i64 nw) := W.cell 0
    replace cW1 : World.cell? _ _ = some (.slice av3 0 cv3) := W.cell 1
    replace cY0 : World.cell? _ _ = some (.int .i64 nw) := Y.cell 0
    replace cY1 : World.cell? _ _ = some (.slice none 0 0) := Y.cell 1
    go_wp2_with (fail)
    refine (markInts _ q5 _ r.2.2 (1) (by omega) (by omega) _ Q5).mono ?_
    rintro _ w10b ⟨rfl, t10b, ls, hls, V5⟩
    replace t10b : Touch gq5 _ _ := touch_grown (g := gq5) t10b
    replace Q5 : Held shI w10b _ gq5 q5 cq5 ls := V5
    clear V5
    replace hls : Hid _ := hls
    have z_t10b := t10b.le
    try simp only [World.size_alloc] at z_t10b
    replace G := G.touch t10b (by omega)
    replace W := W.touch t10b (by omega)
    replace Y := Y.touch t10b (by omega)
    replace T2 := T2.touch t10b (by omega)
    replace Q3 := Q3.touch t10b (by omega)
    replace T4 := T4.touch t10b (by omega)
    replace T7 := T7.touch t10b (by omega)
    replace T3 := T3.touch t10b (fun e => by have := hi_T3 _ e; omega)
    replace cW0 : World.cell? _ _ = some (.int .i64 nw) := W.cell 0
    replace cW1 : World.cell? _ _ = some (.slice av3 0 cv3) := W.cell 1
    replace cY0 : World.cell? _ _ = some (.int .i64 nw) := Y.cell 0
    replace cY1 : World.cell? _ _ = some (.slice none 0 0) := Y.cell 1
    have hp3 : ¬ (1 : Int) + (q5 : Int) < 0 := by omega
    go_wp2_with (fail)
    refine (heldClock nw none 0 0 [] 1 (by omega) (by omega) _ (Own.reads (Own.nil (S := shT) _ 0)) (fun j hj => by omega)).mono ?_
    rintro _ w11 ⟨rfl, k11⟩
    have z_k11 := k11.le
    try simp only [World.size_alloc] at z_k11
    replace G := G.trans k11
    replace W := W.since k11
    replace Y := Y.since k11
    replace T2 := T2.since k11
    replace Q3 := Q3.since k11
    replace T4 := T4.since k11
    replace Q5 := Q5.since k11
    replace T7 := T7.since k11
    replace T3 := T3.since k11
    replace cW0 : World.cell? _ _ = some (.int .i64 nw) := W.cell 0
    replace cW1 : World.cell? _ _ = some (.slice av3 0 cv3) := W.cell 1
    replace cY0 : World.cell? _ _ = some (.int .i64 nw) := Y.cell 0
    replace cY1 : World.cell? _ _ = some (.slice none 0 0) := Y.cell 1
    go_wp2_with (fail)
    refine (heldInts _ q5 cq5 ls (1) (by omega) (by omega) _ Q5.reads hls.out).mono ?_
    rintro _ w11b ⟨rfl, k11b⟩
    have z_k11b := k11b.le
    try simp only [World.size_alloc] at z_k11b
    replace G := G.trans k11b
    replace W := W.since k11b
    replace Y := Y.since k11b
    replace T2 := T2.since k11b
    replace Q3 := Q3.since k11b
    replace T4 := T4.since k11b
    replace Q5 := Q5.since k11b
    replace T7 := T7.since k11b
    replace T3 := T3.since k11b
    replace cW0 : World.cell? _ _ = some (.int .i64 nw) := W.cell 0
    replace cW1 : World.cell? _ _ = some (.slice av3 0 cv3) := W.cell 1
    replace cY0 : World.cell? _ _ = some (.int .i64 nw) := Y.cell 0
    replace cY1 : World.cell? _ _ = some (.slice none 0 0) := Y.cell 1
    go_wp2_with (fail)
    refine (toOps a0 n0 c0 o0 hn _ (R0.since G)).mono ?_
    rintro _ w12 ⟨g12, rfl, T12, k12⟩
    have z_k12 := k12.le
    try simp only [World.size_alloc] at z_k12
    replace G := G.trans k12
    replace W := W.since k12
    replace Y := Y.since k12
    replace T2 := T2.since k12
    replace Q3 := Q3.since k12
    replace T4 := T4.since k12
    replace Q5 := Q5.since k12
    replace T7 := T7.since k12
    replace T3 := T3.since k12
    have lo_T12 := T12.low'
    try simp only [World.size_alloc] at lo_T12
    have hi_T12 := T12.lt
    try simp only [World.size_alloc] at hi_T12
    replace cW0 : World.cell? _ _ = some (.int .i64 nw) := W.cell 0
    replace cW1 : World.cell? _ _ = some (.slice av3 0 cv3) := W.cell 1
    replace cY0 : World.cell? _ _ = some (.int .i64 nw) := Y.cell 0
    replace cY1 : World.cell? _ _ = some (.slice none 0 0) := Y.cell 1
    go_wp2_with (fail)
    refine (implRun g12 n0 n0 _ o0 _ T12 hwf.out).mono ?_
    rintro _ w13 ⟨v13, m13, gq13, q13, cq13, rfl, T13, Q13, hv13, k13⟩
    rw [hr.out] at T13 Q13 ⊢
    rw [hnw.out]
    rw [if_neg hbig] at hv13
    obtain ⟨rfl, rfl⟩ := hv13
    have eq : q5 = q13 := Q3.1.symm.trans Q13.1
    subst eq
    clear T13
    have z_k13 := k13.le
    try simp only [World.size_alloc] at z_k13
    replace G := G.trans k13
    replace W := W.since k13
    replace Y := Y.since k13
    replace T2 := T2.since k13
    replace Q3 := Q3.since k13
    replace T4 := T4.since k13
    replace Q5 := Q5.since k13
    replace T7 := T7.since k13
    replace T12 := T12.since k13
    replace T3 := T3.since k13
    have lo_Q13 := Q13.low'
    try simp only [World.size_alloc] at lo_Q13
    have hi_Q13 := Q13.lt
    try simp only [World.size_alloc] at hi_Q13
    have Z := Blk.new w13 #[.int .i64 nw, .slice none 0 0] 29
    have k_Z := (Since.refl w13).alloc (.cells #[.int .i64 nw, .slice none 0 0] 29)
    have z_k_Z := k_Z.le
    try simp only [World.size_alloc] at z_k_Z
    replace G := G.trans k_Z
    replace W := W.since k_Z
    replace Y := Y.since k_Z
    replace T2 := T2.since k_Z
    replace Q3 := Q3.since k_Z
    replace T4 := T4.since k_Z
    replace Q5 := Q5.since k_Z
    replace T7 := T7.since k_Z
    replace T12 := T12.since k_Z
    replace Q13 := Q13.since k_Z
    replace T3 := T3.since k_Z
    replace cW0 : World.cell? _ _ = some (.int .i64 nw) := W.cell 0
    replace cW1 : World.cell? _ _ = some (.slice av3 0 cv3) := W.cell 1
    replace cY0 : World.cell? _ _ = some (.int .i64 nw) := Y.cell 0
    replace cY1 : World.cell? _ _ = some (.slice none 0 0) := Y.cell 1
    have cZ0 : World.cell? _ _ = some (.int .i64 nw) := Z.cell 0
    have cZ1 : World.cell? _ _ = some (.slice none 0 0) := Z.cell 1
    go_wp2_with (fail)
    refine (eqClock nw _ _ 0 0 cv3 r.2.1 (by omega) _ (by rw [hr1]; exact Own.reads (Own.nil (S := shT) _ 0)) T3.reads).mono ?_
    rintro _ w14 ⟨rfl, k14⟩
    have z_k14 := k14.le
    try simp only [World.size_alloc] at z_k14
    replace G := G.trans k14
    replace W := W.since k14
    replace Y := Y.since k14
    replace Z := Z.since k14
    replace T2 := T2.since k14
    replace Q3 := Q3.since k14
    replace T4 := T4.since k14
    replace Q5 := Q5.since k14
    replace T7 := T7.since k14
    replace T12 := T12.since k14
    replace Q13 := Q13.since k14
    replace T3 := T3.since k14
    replace cW0 : World.cell? _ _ = some (.int .i64 nw) := W.cell 0
    replace cW1 : World.cell? _ _ = some (.slice av3 0 cv3) := W.cell 1
    replace cY0 : World.cell? _ _ = some (.int .i64 nw) := Y.cell 0
    replace cY1 : World.cell? _ _ = some (.slice none 0 0) := Y.cell 1
    replace cZ0 : World.cell? _ _ = some (.int .i64 nw) := Z.cell 0
    replace cZ1 : World.cell? _ _ = some (.slice none 0 0) := Z.cell 1
    go_wp2_with (fail)
    refine (eqInts _ _ q5 cq13 cq3 r.2.2 hq3 _ Q13.reads Q3.reads).mono ?_
    rintro _ w14b ⟨rfl, k14b⟩
    have z_k14b := k14b.le
    try simp only [World.size_alloc] at z_k14b
    replace G := G.trans k14b
    replace W := W.since k14b
    replace Y := Y.since k14b
    replace Z := Z.since k14b
    replace T2 := T2.since k14b
    replace Q3 := Q3.since k14b
    replace T4 := T4.since k14b
    replace Q5 := Q5.since k14b
    replace T7 := T7.since k14b
    replace T12 := T12.since k14b
    replace Q13 := Q13.since k14b
    replace T3 := T3.since k14b
    replace cW0 : World.cell? _ _ = some (.int .i64 nw) := W.cell 0
    replace cW1 : World.cell? _ _ = some (.slice av3 0 cv3) := W.cell 1
    replace cY0 : World.cell? _ _ = some (.int .i64 nw) := Y.cell 0
    replace cY1 : World.cell? _ _ = some (.slice none 0 0) := Y.cell 1
    replace cZ0 : World.cell? _ _ = some (.int .i64 nw) := Z.cell 0
    replace cZ1 : World.cell? _ _ = some (.slice none 0 0) := Z.cell 1
    go_wp2_with (fail)
    refine (heldClock nw none 0 0 [] 1 (by omega) (by omega) _ (Own.reads (Own.nil (S := shT) _ 0)) (fun j hj => by omega)).mono ?_
    rintro _ w15 ⟨rfl, k15⟩
    have z_k15 := k15.le
    try simp only [World.size_alloc] at z_k15
    replace G := G.trans k15
    replace W := W.since k15
    replace Y := Y.since k15
    replace Z := Z.since k15
    replace T2 := T2.since k15
    replace Q3 := Q3.since k15
    replace T4 := T4.since k15
    replace Q5 := Q5.since k15
    replace T7 := T7.since k15
    replace T12 := T12.since k15
    replace Q13 := Q13.since k15
    replace T3 := T3.since k15
    replace cW0 : World.cell? _ _ = some (.int .i64 nw) := W.cell 0
    replace cW1 : World.cell? _ _ = some (.slice av3 0 cv3) := W.cell 1
    replace cY0 : World.cell? _ _ = some (.int .i64 nw) := Y.cell 0
    replace cY1 : World.cell? _ _ = some (.slice none 0 0) := Y.cell 1
    replace cZ0 : World.cell? _ _ = some (.int .i64 nw) := Z.cell 0
    replace cZ1 : World.cell? _ _ = some (.slice none 0 0) := Z.cell 1
    go_wp2_with (fail)
    refine (heldInts _ q5 cq5 ls (1) (by omega) (by omega) _ Q5.reads hls.out).mono ?_
    rintro _ w15b ⟨rfl, k15b⟩
    have z_k15b := k15b.le
    try simp only [World.size_alloc] at z_k15b
    replace G := G.trans k15b
    replace W := W.since k15b
    replace Y := Y.since k15b
    replace Z := Z.since k15b
    replace T2 := T2.since k15b
    replace Q3 := Q3.since k15b
    replace T4 := T4.since k15b
    replace Q5 := Q5.since k15b
    replace T7 := T7.since k15b
    replace T12 := T12.since k15b
    replace Q13 := Q13.since k15b
    replace T3 := T3.since k15b
    replace cW0 : World.cell? _ _ = some (.int .i64 nw) := W.cell 0
    replace cW1 : World.cell? _ _ = some (.slice av3 0 cv3) := W.cell 1
    replace cY0 : World.cell? _ _ = some (.int .i64 nw) := Y.cell 0
    replace cY1 : World.cell? _ _ = some (.slice none 0 0) := Y.cell 1
    replace cZ0 : World.cell? _ _ = some (.int .i64 nw) := Z.cell 0
    replace cZ1 : World.cell? _ _ = some (.slice none 0 0) := Z.cell 1
    go_wp2_with (fail)
    go_ret
    exact ⟨rfl, G⟩

set_option maxRecDepth 100000 in
theorem lifted (os : Os) (started : os.Started) (H : Type) (enc : TypeId × Value → H) :
    ReturnsInHanded {} Try.checked os 8 .any (Rows.fnExactClockRunSpec.pre6 enc Try.prog Try.f8 Rows.fnExactClockRunRow.domain false) (Rows.fnExactClockRunSpec.post enc Try.prog Try.f8 false true false false) := by
  refine returnsInHanded_of_change (C := Try.checked) own started (by kernel_rfl) Try.func8
    (ChangeSpec.witness6 (enc := enc) (C := Try.checked) false ⟨#[], #[.slice none 0 0], []⟩ 8 (by kernel_rfl) (by kernel_rfl) (by kernel_rfl) (by kernel_rfl)) ?_
  intro W base args ds gs before hval0 hW hcnd _
  have hval : ∀ (j : Nat) t v, Try.f8.params[j]? = some t → args[j]? = some v → Value.okWide Try.prog W .any base t v := hval0
  have hW' := hW
  obtain ⟨p, q, hA0, hV, rfl, hfz, hnd⟩ := hW
  have hA : DataW.TrodAll enc Try.prog W 0 (fun _ => true) true Try.f8.params.toList args.toList ds p := hA0
  rw [Try.params8] at hA hval
  obtain ⟨v0, vs0, d0, ds0, p0, q0, hargs, rfl, rfl, h0, r0⟩ := trodAll_cons hA
  obtain ⟨rfl, rfl, rfl⟩ := trodAll_nil r0
  obtain rfl : args = #[v0] := by cases args; simp_all
  obtain ⟨rfl, rfl⟩ := trodVars_none hV
  have e0 := h0
  have lt0 : ∀ x ∈ p0, x.block < W.heap.size := by obtain ⟨m, hm⟩ := e0; exact DataW.trod_lt m _ _ _ hm
  obtain ⟨a0, n0, c0, o0, rfl, R0, z0⟩ := open_clockops (hval 0 45 v0 rfl rfl) h0
  clear hA0 hval0
  refine (walk a0 n0 c0 o0 W R0 z0).mono fun e W' ⟨he, bel⟩ => ?_
  subst he
  exact ⟨_, rfl, _, _, _, [], _, [], hW', trodAll_mk1 (shut_bool Try.underlying4 _), (trodAll_cons_mk (Below.trod laidOut (by kernel_rfl) (of_decide_eq_true (by kernel_rfl)) e0 bel lt0) trodAll_mk0), rfl, bel.frame _, fun h => by cases h⟩

theorem over : Rows.fnExactClockRunRow.holds Try.pinned (OpenSpec.ofChange Rows.fnExactClockRunSpec) :=
  OpenClaim.holds_of_wide 8 Try.f8 rfl rfl rfl rfl rfl rfl rfl ⟨rfl, rfl, rfl, rfl, rfl⟩ rfl rfl rfl rfl rfl (by kernel_rfl) Try.func8 (by kernel_rfl)
    (of_decide_eq_true (by kernel_rfl)) (by unfold Func.isWrapper; first | (rw [if_pos (by decide +kernel)]; kernel_rfl) | (rw [if_neg (by decide +kernel)]; exact ⟨rfl, rfl⟩))
    (fun os started H enc _ => lifted os started H enc)

theorem proved : Rows.FnExactClockRunSaid := over
end Go.Proofs.Ytcclgcdghnmdfaa.fnExactClockRun

namespace Go.Proofs.Ytcclgcdghnmdfaa
theorem fnExactClockRun_holds : Rows.FnExactClockRunSaid := fnExactClockRun.proved
#print axioms fnExactClockRun_holds
end Go.Proofs.Ytcclgcdghnmdfaa
