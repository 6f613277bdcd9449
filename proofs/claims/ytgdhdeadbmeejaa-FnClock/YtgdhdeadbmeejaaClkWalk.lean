/-
  The walk of FnClock.
-/
import Derived.Test.YtgdhdeadbmeejaaDrawClkGo
import Derived.Test.YtgdhdeadbmeejaaClockFacts
import Derived.Test.YtgdhdeadbmeejaaTimImplGo
namespace Go.Proofs.Ytgdhdeadbmeejaa
open Go.ChangeShapes Go.WideShapes Go.ChangeAt Go.RowKit Go.Deep Go.Sort Go.Maps
set_option linter.unusedVariables false

theorem big6 (a : Option Addr) (len cap : Nat) (w : World) :
    Calls Try.prog 4 #[.slice a len cap] w fun e w' => e = .returned (.bool (decide ((1048576 : Int) < (len : Int)))) ∧ w = w' := by
  go_enter Try.func4, Try.ntmps4
  go_wp2
  go_ret
  exact ⟨by simp, rfl⟩

theorem iAt_mem {ns : List Int} {i : Nat} (h : i < ns.length) : iAt ns i ∈ ns := by
  simp [iAt, List.getD, List.getElem?_eq_getElem h]

theorem has6 (g n cap B : Nat) (ns : List Int) (x : Int) (w : World) (T : Held shI w B g n cap ns) :
    Calls Try.prog 13 #[.slice (some ⟨g, 0, none⟩) n cap, .int .i64 x] w fun e w' => e = .returned (.bool (decide (x ∈ ns))) ∧ Since w w' := by
  have hlen := T.1
  have hmax := T.reads.most
  unfold maxLen at hmax
  obtain ⟨r, hr⟩ : ∃ r, Hid (r = decide (x ∈ ns)) := ⟨_, rfl⟩
  rw [← hr.out]
  go_enter Try.func13, Try.ntmps13
  go_wp2
  go_loopw [5] (fun i wr => ∃ (k : Nat), k ≤ n ∧ i = .int .i64 k ∧ Hid (∀ j, j < k → iAt ns j ≠ x) ∧ Since w wr) (fun i _ => n - (intOf i).toNat)
  case atStart => exact ⟨0, by omega, rfl, fun j hj => by omega, Since.refl _⟩
  case round =>
    obtain ⟨k, hk, rfl, hno, S⟩ := hrel
    by_cases hlt : k < n
    · have hlt' : (k : Int) < (n : Int) := by omega
      have q0 := (T.since S).num k hlt
      by_cases e : iAt ns k = x
      · have hre : Hid (r = true) := hr.out.trans (by simp only [decide_eq_true_eq]; rw [← e]; exact iAt_mem (by omega))
        rw [e] at q0
        clear T
        go_wp2
        all_goals go_ret
        all_goals exact ⟨by rw [hre.out]; rfl, S⟩
      · have eb : (iAt ns k == x) = false := by simpa using e
        clear T
        go_wp2
        go_roundw
        case rel => exact ⟨k + 1, by omega, by go_num, fun j hj => by
          by_cases ej : j = k
          · rw [ej]; exact e
          · exact hno.out j (by omega), S⟩
        case measure => simp [intOf]; omega
    · have hkn : k = n := by omega
      subst hkn
      have hre : Hid (r = false) := hr.out.trans (by
        simp only [decide_eq_false_iff_not]
        intro hm
        obtain ⟨j, hj, e⟩ := List.mem_iff_getElem.1 hm
        refine hno.out j (by omega) ?_
        simp [iAt, List.getD, List.getElem?_eq_getElem hj, e])
      clear T
      go_wp2
      go_ret
      exact ⟨by rw [hre.out]; rfl, S⟩

set_option maxHeartbeats 8000000 in
set_option maxRecDepth 20000 in
theorem walkClock (a0 : Option Addr) (len0 cap0 : Nat) (z0 : List Int) (w : World) (hb : Bytes w a0 len0 z0) :
    Calls Try.prog 3 #[.slice a0 len0 cap0] w fun e w' => e = .returned (.bool true) ∧ Below w.heap.size w w' := by
  have hbig := fun wx => big6 a0 len0 cap0 wx
  by_cases hm : ¬ len0 ≤ 1048576
  · rw [show decide ((1048576 : Int) < (len0 : Int)) = true by simp; omega] at hbig
    clear hb
    go_enter Try.func3, Try.ntmps3
    go_wp2_with (go_at_call 4; refine (hbig _).mono ?_; rintro _ _ ⟨rfl, rfl⟩)
    go_ret
    exact ⟨rfl, Since.refl _⟩
  replace hm := Decidable.not_not.1 hm
  rw [show decide ((1048576 : Int) < (len0 : Int)) = false by simp; omega] at hbig
  go_enter Try.func3, Try.ntmps3
  go_wp2_with (go_at_call 4; refine (hbig _).mono ?_; rintro _ _ ⟨rfl, rfl⟩)
  clear hbig
  refine (drawClkGo a0 len0 cap0 z0 w hb hm).mono ?_
  rintro _ w1 ⟨now, av, n, cv, ts, t, rfl, T, hn, k1⟩
  have hform := T.form
  have hnil : av = none → cv = 0 := fun e => by obtain ⟨a, c, h1, h2, -⟩ := hform; injection h1 with h1 h3 h4; rw [h4]; exact (h2 (by rw [← h1]; exact e)).2
  clear hform
  have G := k1
  have z_k1 := k1.le
  have hTh : ∀ q, (Value.slice av n cv).ownBlock = some q → q < w1.heap.size := fun q e => (T.lt e).2
  have hi_T := hTh
  have A := Blk.new w1 #[.int .i64 now, .slice av n cv] 26
  have k_A := (Since.refl w1).alloc (.cells #[.int .i64 now, .slice av n cv] 26)
  have z_k_A := k_A.le
  try simp only [World.size_alloc] at z_k_A
  replace G := G.trans k_A
  replace T := T.since k_A
  have cA0 : World.cell? _ _ = some (.int .i64 now) := A.cell 0
  have cA1 : World.cell? _ _ = some (.slice av n cv) := A.cell 1
  go_wp2_with (fail)
  refine (specClockOk now av n cv ts _ T.reads).mono ?_
  rintro _ w2 ⟨rfl, k2⟩
  have z_k2 := k2.le
  try simp only [World.size_alloc] at z_k2
  replace G := G.trans k2
  replace A := A.since k2
  replace T := T.since k2
  replace cA0 : World.cell? _ _ = some (.int .i64 now) := A.cell 0
  replace cA1 : World.cell? _ _ = some (.slice av n cv) := A.cell 1
  by_cases hok : ¬ okC now ts
  · have hd : decide (okC now ts) = false := by simpa using hok
    rw [hd]
    go_wp2_with (fail)
    refine (implGo now av n cv ts t _ T.reads (by omega) hnil).mono ?_
    rintro _ w3 ⟨g3, m3, c3, gq3, q3, cq3, rfl, T3, Q3, k3⟩
    have z_k3 := k3.le
    try simp only [World.size_alloc] at z_k3
    replace G := G.trans k3
    replace A := A.since k3
    replace T := T.since k3
    have lo_Q3 := Q3.low'
    try simp only [World.size_alloc] at lo_Q3
    have hi_Q3 := Q3.lt
    try simp only [World.size_alloc] at hi_Q3
    have Y := Blk.new w3 #[.int .i64 (goC now ts t).1, .slice (some ⟨g3, 0, none⟩) m3 c3] 26
    have k_Y := (Since.refl w3).alloc (.cells #[.int .i64 (goC now ts t).1, .slice (some ⟨g3, 0, none⟩) m3 c3] 26)
    have z_k_Y := k_Y.le
    try simp only [World.size_alloc] at z_k_Y
    replace G := G.trans k_Y
    replace A := A.since k_Y
    replace Q3 := Q3.since k_Y
    replace T := T.since k_Y
    replace cA0 : World.cell? _ _ = some (.int .i64 now) := A.cell 0
    replace cA1 : World.cell? _ _ = some (.slice av n cv) := A.cell 1
    have cY0 : World.cell? _ _ = some (.int .i64 (goC now ts t).1) := Y.cell 0
    have cY1 : World.cell? _ _ = some (.slice (some ⟨g3, 0, none⟩) m3 c3) := Y.cell 1
    go_wp2_with (fail)
    refine (specGo now av n cv ts t _ T.reads (by omega) hnil).mono ?_
    rintro _ w4 ⟨v4, m4, gq4, q4, cq4, rfl, T4, Q4, k4⟩
    obtain ⟨av4, cv4, rfl, -, -⟩ := T4.form
    have eq4 : q4 = q3 := Q4.1.symm.trans Q3.1
    subst eq4
    clear T4 Q4 T3 Q3
    have z_k4 := k4.le
    try simp only [World.size_alloc] at z_k4
    replace G := G.trans k4
    replace A := A.since k4
    replace Y := Y.since k4
    replace T := T.since k4
    have W := Blk.new w4 #[.int .i64 (goC now ts t).1, .slice av4 m4 cv4] 26
    have k_W := (Since.refl w4).alloc (.cells #[.int .i64 (goC now ts t).1, .slice av4 m4 cv4] 26)
    have z_k_W := k_W.le
    try simp only [World.size_alloc] at z_k_W
    replace G := G.trans k_W
    replace A := A.since k_W
    replace Y := Y.since k_W
    replace T := T.since k_W
    replace cA0 : World.cell? _ _ = some (.int .i64 now) := A.cell 0
    replace cA1 : World.cell? _ _ = some (.slice av n cv) := A.cell 1
    replace cY0 : World.cell? _ _ = some (.int .i64 (goC now ts t).1) := Y.cell 0
    replace cY1 : World.cell? _ _ = some (.slice (some ⟨g3, 0, none⟩) m3 c3) := Y.cell 1
    have cW0 : World.cell? _ _ = some (.int .i64 (goC now ts t).1) := W.cell 0
    have cW1 : World.cell? _ _ = some (.slice av4 m4 cv4) := W.cell 1
    generalize (goC now ts t).1 = nw at *
    go_wp2
    go_ret
    exact ⟨by simp, G⟩
  replace hok := Decidable.not_not.1 hok
  have hd : decide (okC now ts) = true := by simpa using hok
  rw [hd]
  clear hd
  by_cases hx : t < 0
  · go_wp2_with (fail)
    refine (implGo now av n cv ts t _ T.reads (by omega) hnil).mono ?_
    rintro _ w3 ⟨g3, m3, c3, gq3, q3, cq3, rfl, T3, Q3, k3⟩
    have z_k3 := k3.le
    try simp only [World.size_alloc] at z_k3
    replace G := G.trans k3
    replace A := A.since k3
    replace T := T.since k3
    have lo_Q3 := Q3.low'
    try simp only [World.size_alloc] at lo_Q3
    have hi_Q3 := Q3.lt
    try simp only [World.size_alloc] at hi_Q3
    have Y := Blk.new w3 #[.int .i64 (goC now ts t).1, .slice (some ⟨g3, 0, none⟩) m3 c3] 26
    have k_Y := (Since.refl w3).alloc (.cells #[.int .i64 (goC now ts t).1, .slice (some ⟨g3, 0, none⟩) m3 c3] 26)
    have z_k_Y := k_Y.le
    try simp only [World.size_alloc] at z_k_Y
    replace G := G.trans k_Y
    replace A := A.since k_Y
    replace Q3 := Q3.since k_Y
    replace T := T.since k_Y
    replace cA0 : World.cell? _ _ = some (.int .i64 now) := A.cell 0
    replace cA1 : World.cell? _ _ = some (.slice av n cv) := A.cell 1
    have cY0 : World.cell? _ _ = some (.int .i64 (goC now ts t).1) := Y.cell 0
    have cY1 : World.cell? _ _ = some (.slice (some ⟨g3, 0, none⟩) m3 c3) := Y.cell 1
    go_wp2_with (fail)
    refine (specGo now av n cv ts t _ T.reads (by omega) hnil).mono ?_
    rintro _ w4 ⟨v4, m4, gq4, q4, cq4, rfl, T4, Q4, k4⟩
    obtain ⟨av4, cv4, rfl, -, -⟩ := T4.form
    have eq4 : q4 = q3 := Q4.1.symm.trans Q3.1
    subst eq4
    clear T4 Q4 T3 Q3
    have z_k4 := k4.le
    try simp only [World.size_alloc] at z_k4
    replace G := G.trans k4
    replace A := A.since k4
    replace Y := Y.since k4
    replace T := T.since k4
    have W := Blk.new w4 #[.int .i64 (goC now ts t).1, .slice av4 m4 cv4] 26
    have k_W := (Since.refl w4).alloc (.cells #[.int .i64 (goC now ts t).1, .slice av4 m4 cv4] 26)
    have z_k_W := k_W.le
    try simp only [World.size_alloc] at z_k_W
    replace G := G.trans k_W
    replace A := A.since k_W
    replace Y := Y.since k_W
    replace T := T.since k_W
    replace cA0 : World.cell? _ _ = some (.int .i64 now) := A.cell 0
    replace cA1 : World.cell? _ _ = some (.slice av n cv) := A.cell 1
    replace cY0 : World.cell? _ _ = some (.int .i64 (goC now ts t).1) := Y.cell 0
    replace cY1 : World.cell? _ _ = some (.slice (some ⟨g3, 0, none⟩) m3 c3) := Y.cell 1
    have cW0 : World.cell? _ _ = some (.int .i64 (goC now ts t).1) := W.cell 0
    have cW1 : World.cell? _ _ = some (.slice av4 m4 cv4) := W.cell 1
    generalize (goC now ts t).1 = nw at *
    go_wp2
    go_ret
    exact ⟨by simp, G⟩
  have ht0 : 0 ≤ t := by omega
  have hy := hx
  clear hx
  replace hy : ¬ _ := hy
  by_cases hx : (1000 : Int) < t
  · go_wp2_with (fail)
    refine (implGo now av n cv ts t _ T.reads (by omega) hnil).mono ?_
    rintro _ w3 ⟨g3, m3, c3, gq3, q3, cq3, rfl, T3, Q3, k3⟩
    have z_k3 := k3.le
    try simp only [World.size_alloc] at z_k3
    replace G := G.trans k3
    replace A := A.since k3
    replace T := T.since k3
    have lo_Q3 := Q3.low'
    try simp only [World.size_alloc] at lo_Q3
    have hi_Q3 := Q3.lt
    try simp only [World.size_alloc] at hi_Q3
    have Y := Blk.new w3 #[.int .i64 (goC now ts t).1, .slice (some ⟨g3, 0, none⟩) m3 c3] 26
    have k_Y := (Since.refl w3).alloc (.cells #[.int .i64 (goC now ts t).1, .slice (some ⟨g3, 0, none⟩) m3 c3] 26)
    have z_k_Y := k_Y.le
    try simp only [World.size_alloc] at z_k_Y
    replace G := G.trans k_Y
    replace A := A.since k_Y
    replace Q3 := Q3.since k_Y
    replace T := T.since k_Y
    replace cA0 : World.cell? _ _ = some (.int .i64 now) := A.cell 0
    replace cA1 : World.cell? _ _ = some (.slice av n cv) := A.cell 1
    have cY0 : World.cell? _ _ = some (.int .i64 (goC now ts t).1) := Y.cell 0
    have cY1 : World.cell? _ _ = some (.slice (some ⟨g3, 0, none⟩) m3 c3) := Y.cell 1
    go_wp2_with (fail)
    refine (specGo now av n cv ts t _ T.reads (by omega) hnil).mono ?_
    rintro _ w4 ⟨v4, m4, gq4, q4, cq4, rfl, T4, Q4, k4⟩
    obtain ⟨av4, cv4, rfl, -, -⟩ := T4.form
    have eq4 : q4 = q3 := Q4.1.symm.trans Q3.1
    subst eq4
    clear T4 Q4 T3 Q3
    have z_k4 := k4.le
    try simp only [World.size_alloc] at z_k4
    replace G := G.trans k4
    replace A := A.since k4
    replace Y := Y.since k4
    replace T := T.since k4
    have W := Blk.new w4 #[.int .i64 (goC now ts t).1, .slice av4 m4 cv4] 26
    have k_W := (Since.refl w4).alloc (.cells #[.int .i64 (goC now ts t).1, .slice av4 m4 cv4] 26)
    have z_k_W := k_W.le
    try simp only [World.size_alloc] at z_k_W
    replace G := G.trans k_W
    replace A := A.since k_W
    replace Y := Y.since k_W
    replace T := T.since k_W
    replace cA0 : World.cell? _ _ = some (.int .i64 now) := A.cell 0
    replace cA1 : World.cell? _ _ = some (.slice av n cv) := A.cell 1
    replace cY0 : World.cell? _ _ = some (.int .i64 (goC now ts t).1) := Y.cell 0
    replace cY1 : World.cell? _ _ = some (.slice (some ⟨g3, 0, none⟩) m3 c3) := Y.cell 1
    have cW0 : World.cell? _ _ = some (.int .i64 (goC now ts t).1) := W.cell 0
    have cW1 : World.cell? _ _ = some (.slice av4 m4 cv4) := W.cell 1
    generalize (goC now ts t).1 = nw at *
    go_wp2
    go_ret
    exact ⟨by simp, G⟩
  have ht1 : t ≤ 1000 := by omega
  have hy := hx
  clear hx
  replace hy : ¬ _ := hy
  by_cases hx : (999995000 : Int) < now
  · go_wp2_with (fail)
    refine (implGo now av n cv ts t _ T.reads (by omega) hnil).mono ?_
    rintro _ w3 ⟨g3, m3, c3, gq3, q3, cq3, rfl, T3, Q3, k3⟩
    have z_k3 := k3.le
    try simp only [World.size_alloc] at z_k3
    replace G := G.trans k3
    replace A := A.since k3
    replace T := T.since k3
    have lo_Q3 := Q3.low'
    try simp only [World.size_alloc] at lo_Q3
    have hi_Q3 := Q3.lt
    try simp only [World.size_alloc] at hi_Q3
    have Y := Blk.new w3 #[.int .i64 (goC now ts t).1, .slice (some ⟨g3, 0, none⟩) m3 c3] 26
    have k_Y := (Since.refl w3).alloc (.cells #[.int .i64 (goC now ts t).1, .slice (some ⟨g3, 0, none⟩) m3 c3] 26)
    have z_k_Y := k_Y.le
    try simp only [World.size_alloc] at z_k_Y
    replace G := G.trans k_Y
    replace A := A.since k_Y
    replace Q3 := Q3.since k_Y
    replace T := T.since k_Y
    replace cA0 : World.cell? _ _ = some (.int .i64 now) := A.cell 0
    replace cA1 : World.cell? _ _ = some (.slice av n cv) := A.cell 1
    have cY0 : World.cell? _ _ = some (.int .i64 (goC now ts t).1) := Y.cell 0
    have cY1 : World.cell? _ _ = some (.slice (some ⟨g3, 0, none⟩) m3 c3) := Y.cell 1
    go_wp2_with (fail)
    refine (specGo now av n cv ts t _ T.reads (by omega) hnil).mono ?_
    rintro _ w4 ⟨v4, m4, gq4, q4, cq4, rfl, T4, Q4, k4⟩
    obtain ⟨av4, cv4, rfl, -, -⟩ := T4.form
    have eq4 : q4 = q3 := Q4.1.symm.trans Q3.1
    subst eq4
    clear T4 Q4 T3 Q3
    have z_k4 := k4.le
    try simp only [World.size_alloc] at z_k4
    replace G := G.trans k4
    replace A := A.since k4
    replace Y := Y.since k4
    replace T := T.since k4
    have W := Blk.new w4 #[.int .i64 (goC now ts t).1, .slice av4 m4 cv4] 26
    have k_W := (Since.refl w4).alloc (.cells #[.int .i64 (goC now ts t).1, .slice av4 m4 cv4] 26)
    have z_k_W := k_W.le
    try simp only [World.size_alloc] at z_k_W
    replace G := G.trans k_W
    replace A := A.since k_W
    replace Y := Y.since k_W
    replace T := T.since k_W
    replace cA0 : World.cell? _ _ = some (.int .i64 now) := A.cell 0
    replace cA1 : World.cell? _ _ = some (.slice av n cv) := A.cell 1
    replace cY0 : World.cell? _ _ = some (.int .i64 (goC now ts t).1) := Y.cell 0
    replace cY1 : World.cell? _ _ = some (.slice (some ⟨g3, 0, none⟩) m3 c3) := Y.cell 1
    have cW0 : World.cell? _ _ = some (.int .i64 (goC now ts t).1) := W.cell 0
    have cW1 : World.cell? _ _ = some (.slice av4 m4 cv4) := W.cell 1
    generalize (goC now ts t).1 = nw at *
    go_wp2
    go_ret
    exact ⟨by simp, G⟩
  have hnw : now ≤ 999995000 := by omega
  have hy := hx
  clear hx
  replace hy : ¬ _ := hy
  go_wp2_with (fail)
  refine (at_ a0 len0 cap0 z0 1 (by omega) w hb hm _ G).mono ?_
  rintro _ _ ⟨rfl, hp0, hp1, rfl⟩
  try skip
  obtain ⟨p, hp⟩ : ∃ p, Hid (p = (if 1 < len0 then z0.getD 1 0 else (((1 : Nat) : Int) * 7 + (len0 : Int)) % 256)) := ⟨_, rfl⟩
  rw [← hp.out] at hp0 hp1 ⊢
  have hw1 : IntKind.i64.wrap (t + 1) = t + 1 := by rw [IntWalk.i64_left]; exact IntWalk.wrap64_in _ ⟨by omega, by omega⟩
  have hz1 : (t + 1 == 0) = false := by simp; omega
  have hz2 : t + 1 ≠ 0 := by omega
  obtain ⟨kk, hkk⟩ : ∃ kk, p.tmod (t + 1) = kk := ⟨_, rfl⟩
  have hkr : 0 ≤ kk ∧ kk ≤ t := by rw [← hkk, Int.tmod_eq_emod_of_nonneg (by omega)]; exact ⟨Int.emod_nonneg _ (by omega), by have := Int.emod_lt_of_pos p (show 0 < t + 1 by omega); omega⟩
  have hwk : IntKind.i64.wrap kk = kk := by rw [IntWalk.i64_left]; exact IntWalk.wrap64_in _ ⟨by omega, by omega⟩
  replace cA0 : World.cell? _ _ = some (.int .i64 now) := A.cell 0
  replace cA1 : World.cell? _ _ = some (.slice av n cv) := A.cell 1
  go_wp2_with (fail)
  refine (implGo now av n cv ts t _ T.reads (by omega) hnil).mono ?_
  rintro _ w3 ⟨g3, m3, c3, gx, qx, cx, rfl, T3, QX, k3⟩
  rw [go_once hok ht0 ht1 hnw] at T3 QX ⊢
  have z_k3 := k3.le
  try simp only [World.size_alloc] at z_k3
  replace G := G.trans k3
  replace A := A.since k3
  replace T := T.since k3
  have lo_T3 := T3.low'
  try simp only [World.size_alloc] at lo_T3
  have hi_T3 := T3.lt
  try simp only [World.size_alloc] at hi_T3
  have lo_QX := QX.low'
  try simp only [World.size_alloc] at lo_QX
  have hi_QX := QX.lt
  try simp only [World.size_alloc] at hi_QX
  have B := Blk.new w3 #[.int .i64 (now + t), .slice (some ⟨g3, 0, none⟩) m3 c3] 26
  have k_B := (Since.refl w3).alloc (.cells #[.int .i64 (now + t), .slice (some ⟨g3, 0, none⟩) m3 c3] 26)
  have z_k_B := k_B.le
  try simp only [World.size_alloc] at z_k_B
  replace G := G.trans k_B
  replace A := A.since k_B
  replace T3 := T3.since k_B
  replace QX := QX.since k_B
  replace T := T.since k_B
  replace cA0 : World.cell? _ _ = some (.int .i64 now) := A.cell 0
  replace cA1 : World.cell? _ _ = some (.slice av n cv) := A.cell 1
  have cB0 : World.cell? _ _ = some (.int .i64 (now + t)) := B.cell 0
  have cB1 : World.cell? _ _ = some (.slice (some ⟨g3, 0, none⟩) m3 c3) := B.cell 1
  go_wp2_with (fail)
  refine (implGo now av n cv ts kk _ T.reads (by omega) hnil).mono ?_
  rintro _ w4 ⟨g4, m4, c4, gy, qy, cy, rfl, T4, QY, k4⟩
  rw [go_once hok hkr.1 (by omega) hnw] at T4 QY ⊢
  have hm4 : m4 ≤ 100 := by rw [← T4.1]; exact Nat.le_trans (List.length_filter_le _ _) hok.2.1
  have z_k4 := k4.le
  try simp only [World.size_alloc] at z_k4
  replace G := G.trans k4
  replace A := A.since k4
  replace B := B.since k4
  replace T3 := T3.since k4
  replace QX := QX.since k4
  replace T := T.since k4
  have lo_T4 := T4.low'
  try simp only [World.size_alloc] at lo_T4
  have hi_T4 := T4.lt
  try simp only [World.size_alloc] at hi_T4
  have lo_QY := QY.low'
  try simp only [World.size_alloc] at lo_QY
  have hi_QY := QY.lt
  try simp only [World.size_alloc] at hi_QY
  have C := Blk.new w4 #[.int .i64 (now + kk), .slice (some ⟨g4, 0, none⟩) m4 c4] 26
  have k_C := (Since.refl w4).alloc (.cells #[.int .i64 (now + kk), .slice (some ⟨g4, 0, none⟩) m4 c4] 26)
  have z_k_C := k_C.le
  try simp only [World.size_alloc] at z_k_C
  replace G := G.trans k_C
  replace A := A.since k_C
  replace B := B.since k_C
  replace T3 := T3.since k_C
  replace QX := QX.since k_C
  replace T4 := T4.since k_C
  replace QY := QY.since k_C
  replace T := T.since k_C
  have hws : IntKind.i64.wrap (t - kk) = t - kk := by rw [IntWalk.i64_left]; exact IntWalk.wrap64_in _ ⟨by omega, by omega⟩
  replace cA0 : World.cell? _ _ = some (.int .i64 now) := A.cell 0
  replace cA1 : World.cell? _ _ = some (.slice av n cv) := A.cell 1
  replace cB0 : World.cell? _ _ = some (.int .i64 (now + t)) := B.cell 0
  replace cB1 : World.cell? _ _ = some (.slice (some ⟨g3, 0, none⟩) m3 c3) := B.cell 1
  have cC0 : World.cell? _ _ = some (.int .i64 (now + kk)) := C.cell 0
  have cC1 : World.cell? _ _ = some (.slice (some ⟨g4, 0, none⟩) m4 c4) := C.cell 1
  go_wp2_with (fail)
  refine (implGo (now + kk) (some ⟨g4, 0, none⟩) m4 c4 (stay ts (now + kk)) (t - kk) _ T4.reads (by omega) (by simp)).mono ?_
  rintro _ w5 ⟨g5, m5, c5, gz, qz, cz, rfl, T5, QZ, k5⟩
  rw [go_twice hok hkr.1 hkr.2 ht1 hnw] at T5 QZ ⊢
  have z_k5 := k5.le
  try simp only [World.size_alloc] at z_k5
  replace G := G.trans k5
  replace A := A.since k5
  replace B := B.since k5
  replace C := C.since k5
  replace T3 := T3.since k5
  replace QX := QX.since k5
  replace T4 := T4.since k5
  replace QY := QY.since k5
  replace T := T.since k5
  have lo_T5 := T5.low'
  try simp only [World.size_alloc] at lo_T5
  have hi_T5 := T5.lt
  try simp only [World.size_alloc] at hi_T5
  have lo_QZ := QZ.low'
  try simp only [World.size_alloc] at lo_QZ
  have hi_QZ := QZ.lt
  try simp only [World.size_alloc] at hi_QZ
  have D := Blk.new w5 #[.int .i64 (now + t), .slice (some ⟨g5, 0, none⟩) m5 c5] 26
  have k_D := (Since.refl w5).alloc (.cells #[.int .i64 (now + t), .slice (some ⟨g5, 0, none⟩) m5 c5] 26)
  have z_k_D := k_D.le
  try simp only [World.size_alloc] at z_k_D
  replace G := G.trans k_D
  replace A := A.since k_D
  replace B := B.since k_D
  replace C := C.since k_D
  replace T3 := T3.since k_D
  replace QX := QX.since k_D
  replace T4 := T4.since k_D
  replace QY := QY.since k_D
  replace T5 := T5.since k_D
  replace QZ := QZ.since k_D
  replace T := T.since k_D
  have em5 : m5 = m3 := T5.1.symm.trans T3.1
  subst em5
  have hyl : qy ≤ 100 := by rw [← QY.1]; exact Nat.le_trans (gone_len _ _) hok.2.1
  have hzl : qz ≤ 100 := by rw [← QZ.1]; exact Nat.le_trans (gone_len _ _) (go_ok hok hkr.1 (by omega) hnw).2.1
  have hsp := gone_split hok.2.2.2.1 (a := now + kk) (b := now + t) (by omega)
  have eqx : qx = qy + qz := by rw [← QX.1, ← QY.1, ← QZ.1, hsp, List.length_append]
  replace hsp : Hid _ := hsp
  replace cA0 : World.cell? _ _ = some (.int .i64 now) := A.cell 0
  replace cA1 : World.cell? _ _ = some (.slice av n cv) := A.cell 1
  replace cB0 : World.cell? _ _ = some (.int .i64 (now + t)) := B.cell 0
  replace cB1 : World.cell? _ _ = some (.slice (some ⟨g3, 0, none⟩) m5 c3) := B.cell 1
  replace cC0 : World.cell? _ _ = some (.int .i64 (now + kk)) := C.cell 0
  replace cC1 : World.cell? _ _ = some (.slice (some ⟨g4, 0, none⟩) m4 c4) := C.cell 1
  have cD0 : World.cell? _ _ = some (.int .i64 (now + t)) := D.cell 0
  have cD1 : World.cell? _ _ = some (.slice (some ⟨g5, 0, none⟩) m5 c5) := D.cell 1
  go_wp2_with (at_builtin; refine app_held laidI rfl _ _ rfl rfl QY rfl QZ.reads (by unfold maxLen; omega) (by omega) (by simp only [World.size_alloc]; omega) ?_)
  intro g6 c6 w6 QV t6 hat6
  clear T4 QZ
  rw [← eqx] at QV ⊢
  rw [← hsp.out] at QV
  have z_t6 := t6.le
  try simp only [World.size_alloc] at z_t6
  replace G := G.touch t6 (by omega)
  replace A := A.touch t6 (by omega)
  replace B := B.touch t6 (by omega)
  replace C := C.touch t6 (by omega)
  replace D := D.touch t6 (by omega)
  replace T3 := T3.touch t6 (by omega)
  replace QX := QX.touch t6 (by omega)
  replace T5 := T5.touch t6 (by omega)
  replace T := T.touch t6 (fun e => by have := hi_T _ e; omega)
  clear QY
  have lo_QV := QV.low'
  try simp only [World.size_alloc] at lo_QV
  have hi_QV := QV.lt
  try simp only [World.size_alloc] at hi_QV
  have hne6 : g6 ≠ gx := by omega
  clear hat6
  replace cA0 : World.cell? _ _ = some (.int .i64 now) := A.cell 0
  replace cA1 : World.cell? _ _ = some (.slice av n cv) := A.cell 1
  replace cB0 : World.cell? _ _ = some (.int .i64 (now + t)) := B.cell 0
  replace cB1 : World.cell? _ _ = some (.slice (some ⟨g3, 0, none⟩) m5 c3) := B.cell 1
  replace cC0 : World.cell? _ _ = some (.int .i64 (now + kk)) := C.cell 0
  replace cC1 : World.cell? _ _ = some (.slice (some ⟨g4, 0, none⟩) m4 c4) := C.cell 1
  replace cD0 : World.cell? _ _ = some (.int .i64 (now + t)) := D.cell 0
  replace cD1 : World.cell? _ _ = some (.slice (some ⟨g5, 0, none⟩) m5 c5) := D.cell 1
  go_wp2_with (fail)
  refine (implClockOk (now + t) _ m5 c3 _ _ T3.reads).mono ?_
  rintro _ w7 ⟨rfl, k7⟩
  have hd7 : decide (okC (now + t) (stay ts (now + t))) = true := by simpa using go_ok hok ht0 ht1 hnw
  rw [hd7]
  clear hd7
  have z_k7 := k7.le
  try simp only [World.size_alloc] at z_k7
  replace G := G.trans k7
  replace A := A.since k7
  replace B := B.since k7
  replace C := C.since k7
  replace D := D.since k7
  replace T3 := T3.since k7
  replace QX := QX.since k7
  replace T5 := T5.since k7
  replace QV := QV.since k7
  replace T := T.since k7
  replace cA0 : World.cell? _ _ = some (.int .i64 now) := A.cell 0
  replace cA1 : World.cell? _ _ = some (.slice av n cv) := A.cell 1
  replace cB0 : World.cell? _ _ = some (.int .i64 (now + t)) := B.cell 0
  replace cB1 : World.cell? _ _ = some (.slice (some ⟨g3, 0, none⟩) m5 c3) := B.cell 1
  replace cC0 : World.cell? _ _ = some (.int .i64 (now + kk)) := C.cell 0
  replace cC1 : World.cell? _ _ = some (.slice (some ⟨g4, 0, none⟩) m4 c4) := C.cell 1
  replace cD0 : World.cell? _ _ = some (.int .i64 (now + t)) := D.cell 0
  replace cD1 : World.cell? _ _ = some (.slice (some ⟨g5, 0, none⟩) m5 c5) := D.cell 1
  go_wp2_with (fail)
  go_loopw [16] (fun i wr => ∃ (j : Nat), j ≤ qx ∧ i = .int .i64 j ∧ Since w7 wr) (fun i _ => qx - (intOf i).toNat)
  case atStart => exact ⟨0, by omega, rfl, Since.refl _⟩
  case round =>
    obtain ⟨j, hj, rfl, kS⟩ := hrel
    by_cases hlt : j < qx
    · have q0 := (QX.since kS).num j hlt
      have q1 := (QV.since kS).num j hlt
      have hlt' : (j : Int) < (qx : Int) := by omega
      generalize iAt (gone ts (now + t)) j = O at q0 q1
      clear T3 T5 QX QV A B C D T
      go_wp2
      try go_quiet (fail)
      go_wp2
      go_roundw
      case rel => exact ⟨j + 1, by omega, by go_num, by first | exact kS | exact since_drews kS _⟩
      case measure => simp [intOf]; omega
    · have hge : ¬ (j : Int) < (qx : Int) := by omega
      have z_kS := kS.le
      try simp only [World.size_alloc] at z_kS
      replace G := G.trans kS
      replace A := A.since kS
      replace B := B.since kS
      replace C := C.since kS
      replace D := D.since kS
      replace T3 := T3.since kS
      replace QX := QX.since kS
      replace T5 := T5.since kS
      replace QV := QV.since kS
      replace T := T.since kS
      replace cA0 : World.cell? _ _ = some (.int .i64 now) := A.cell 0
      replace cA1 : World.cell? _ _ = some (.slice av n cv) := A.cell 1
      replace cB0 : World.cell? _ _ = some (.int .i64 (now + t)) := B.cell 0
      replace cB1 : World.cell? _ _ = some (.slice (some ⟨g3, 0, none⟩) m5 c3) := B.cell 1
      replace cC0 : World.cell? _ _ = some (.int .i64 (now + kk)) := C.cell 0
      replace cC1 : World.cell? _ _ = some (.slice (some ⟨g4, 0, none⟩) m4 c4) := C.cell 1
      replace cD0 : World.cell? _ _ = some (.int .i64 (now + t)) := D.cell 0
      replace cD1 : World.cell? _ _ = some (.slice (some ⟨g5, 0, none⟩) m5 c5) := D.cell 1
      go_wp2_with (fail)
      refine (at_ a0 len0 cap0 z0 2 (by omega) w hb hm _ G).mono ?_
      rintro _ _ ⟨rfl, hs0, hs1, rfl⟩
      obtain ⟨p2, hp2⟩ : ∃ p, Hid (p = (if 2 < len0 then z0.getD 2 0 else (((2 : Nat) : Int) * 7 + (len0 : Int)) % 256)) := ⟨_, rfl⟩
      rw [← hp2.out] at hs0 hs1 ⊢
      obtain ⟨wt, hwt⟩ : ∃ wt, Hid (wt = 1 + p2) := ⟨_, rfl⟩
      have hwt0 : 1 ≤ wt ∧ wt ≤ 256 := by have := hwt.out; omega
      have hw2 : IntKind.i64.wrap (1 + p2) = wt := by rw [hwt.out, IntWalk.i64_left]; exact IntWalk.wrap64_in _ ⟨by omega, by omega⟩
      have hw3 : IntKind.i64.wrap (wt - 1) = wt - 1 := by rw [IntWalk.i64_left]; exact IntWalk.wrap64_in _ ⟨by omega, by omega⟩
      go_wp2_with (fail)
      refine (implSet now av n cv ts 777777 wt _ T.reads (by omega) hnil (i64_of (by omega))).mono ?_
      rintro _ w8 ⟨g8, m8, c8, rfl, T8, k8⟩
      have z_k8 := k8.le
      try simp only [World.size_alloc] at z_k8
      replace G := G.trans k8
      replace A := A.since k8
      replace B := B.since k8
      replace C := C.since k8
      replace D := D.since k8
      replace T3 := T3.since k8
      replace QX := QX.since k8
      replace T5 := T5.since k8
      replace QV := QV.since k8
      replace T := T.since k8
      have lo_T8 := T8.low'
      try simp only [World.size_alloc] at lo_T8
      have hi_T8 := T8.lt
      try simp only [World.size_alloc] at hi_T8
      have E := Blk.new w8 #[.int .i64 now, .slice (some ⟨g8, 0, none⟩) m8 c8] 26
      have k_E := (Since.refl w8).alloc (.cells #[.int .i64 now, .slice (some ⟨g8, 0, none⟩) m8 c8] 26)
      have z_k_E := k_E.le
      try simp only [World.size_alloc] at z_k_E
      replace G := G.trans k_E
      replace A := A.since k_E
      replace B := B.since k_E
      replace C := C.since k_E
      replace D := D.since k_E
      replace T3 := T3.since k_E
      replace QX := QX.since k_E
      replace T5 := T5.since k_E
      replace QV := QV.since k_E
      replace T8 := T8.since k_E
      replace T := T.since k_E
      replace cA0 : World.cell? _ _ = some (.int .i64 now) := A.cell 0
      replace cA1 : World.cell? _ _ = some (.slice av n cv) := A.cell 1
      replace cB0 : World.cell? _ _ = some (.int .i64 (now + t)) := B.cell 0
      replace cB1 : World.cell? _ _ = some (.slice (some ⟨g3, 0, none⟩) m5 c3) := B.cell 1
      replace cC0 : World.cell? _ _ = some (.int .i64 (now + kk)) := C.cell 0
      replace cC1 : World.cell? _ _ = some (.slice (some ⟨g4, 0, none⟩) m4 c4) := C.cell 1
      replace cD0 : World.cell? _ _ = some (.int .i64 (now + t)) := D.cell 0
      replace cD1 : World.cell? _ _ = some (.slice (some ⟨g5, 0, none⟩) m5 c5) := D.cell 1
      have cE0 : World.cell? _ _ = some (.int .i64 now) := E.cell 0
      have cE1 : World.cell? _ _ = some (.slice (some ⟨g8, 0, none⟩) m8 c8) := E.cell 1
      rcases set_ok hok (wait := wt) hwt0.1 (by omega) hnw with ⟨hs2, hs3⟩ | ⟨hs2, hs3⟩
      · rw [hs2]
        have hlen := T.1
        have hn100 : (100 : Int) ≤ (n : Int) := by omega
        clear T T3 T5 T8 QX QV
        go_wp2
        go_ret
        exact ⟨by simp, G⟩
      rw [hs2]
      clear hs2
      have hoku : okC now (setC now ts 777777 wt).1 := okC_set hok
      generalize (setC now ts 777777 wt).1 = us at T8 hs3 hoku
      have hm8 : m8 ≤ 100 := by rw [← T8.1]; exact hoku.2.1
      clear T3 T5 QX QV
      go_wp2_with (fail)
      refine (implGo now (some ⟨g8, 0, none⟩) m8 c8 us (wt - 1) _ T8.reads (by omega) (by simp)).mono ?_
      rintro _ w9 ⟨g9, m9, c9, ga, qa, ca, rfl, T9, QA, k9⟩
      rw [go_once hoku (by omega) (by omega) hnw] at T9 QA ⊢
      have hm9 : m9 ≤ 100 := by rw [← T9.1]; exact Nat.le_trans (List.length_filter_le _ _) hoku.2.1
      have z_k9 := k9.le
      try simp only [World.size_alloc] at z_k9
      replace G := G.trans k9
      replace A := A.since k9
      replace B := B.since k9
      replace C := C.since k9
      replace D := D.since k9
      replace E := E.since k9
      replace T8 := T8.since k9
      replace T := T.since k9
      have lo_T9 := T9.low'
      try simp only [World.size_alloc] at lo_T9
      have hi_T9 := T9.lt
      try simp only [World.size_alloc] at hi_T9
      have lo_QA := QA.low'
      try simp only [World.size_alloc] at lo_QA
      have hi_QA := QA.lt
      try simp only [World.size_alloc] at hi_QA
      have F := Blk.new w9 #[.int .i64 (now + (wt - 1)), .slice (some ⟨g9, 0, none⟩) m9 c9] 26
      have k_F := (Since.refl w9).alloc (.cells #[.int .i64 (now + (wt - 1)), .slice (some ⟨g9, 0, none⟩) m9 c9] 26)
      have z_k_F := k_F.le
      try simp only [World.size_alloc] at z_k_F
      replace G := G.trans k_F
      replace A := A.since k_F
      replace B := B.since k_F
      replace C := C.since k_F
      replace D := D.since k_F
      replace E := E.since k_F
      replace T8 := T8.since k_F
      replace T9 := T9.since k_F
      replace QA := QA.since k_F
      replace T := T.since k_F
      replace cA0 : World.cell? _ _ = some (.int .i64 now) := A.cell 0
      replace cA1 : World.cell? _ _ = some (.slice av n cv) := A.cell 1
      replace cB0 : World.cell? _ _ = some (.int .i64 (now + t)) := B.cell 0
      replace cB1 : World.cell? _ _ = some (.slice (some ⟨g3, 0, none⟩) m5 c3) := B.cell 1
      replace cC0 : World.cell? _ _ = some (.int .i64 (now + kk)) := C.cell 0
      replace cC1 : World.cell? _ _ = some (.slice (some ⟨g4, 0, none⟩) m4 c4) := C.cell 1
      replace cD0 : World.cell? _ _ = some (.int .i64 (now + t)) := D.cell 0
      replace cD1 : World.cell? _ _ = some (.slice (some ⟨g5, 0, none⟩) m5 c5) := D.cell 1
      replace cE0 : World.cell? _ _ = some (.int .i64 now) := E.cell 0
      replace cE1 : World.cell? _ _ = some (.slice (some ⟨g8, 0, none⟩) m8 c8) := E.cell 1
      have cF0 : World.cell? _ _ = some (.int .i64 (now + (wt - 1))) := F.cell 0
      have cF1 : World.cell? _ _ = some (.slice (some ⟨g9, 0, none⟩) m9 c9) := F.cell 1
      go_wp2_with (fail)
      have hg2 := go_twice hoku (n := wt) (k := wt - 1) (by omega) (by omega) (by omega) hnw
      rw [show wt - (wt - 1) = 1 by omega] at hg2
      refine (implGo (now + (wt - 1)) (some ⟨g9, 0, none⟩) m9 c9 (stay us (now + (wt - 1))) 1 _ T9.reads (by omega) (by simp)).mono ?_
      rintro _ w10 ⟨g10, m10, c10, gb, qb, cb, rfl, T10, QB, k10⟩
      rw [hg2] at T10 QB ⊢
      clear hg2 T10
      have z_k10 := k10.le
      try simp only [World.size_alloc] at z_k10
      replace G := G.trans k10
      replace A := A.since k10
      replace B := B.since k10
      replace C := C.since k10
      replace D := D.since k10
      replace E := E.since k10
      replace F := F.since k10
      replace T8 := T8.since k10
      replace T9 := T9.since k10
      replace QA := QA.since k10
      replace T := T.since k10
      have lo_QB := QB.low'
      try simp only [World.size_alloc] at lo_QB
      have hi_QB := QB.lt
      try simp only [World.size_alloc] at hi_QB
      have V := Blk.new w10 #[.int .i64 (now + wt), .slice (some ⟨g10, 0, none⟩) m10 c10] 26
      have k_V := (Since.refl w10).alloc (.cells #[.int .i64 (now + wt), .slice (some ⟨g10, 0, none⟩) m10 c10] 26)
      have z_k_V := k_V.le
      try simp only [World.size_alloc] at z_k_V
      replace G := G.trans k_V
      replace A := A.since k_V
      replace B := B.since k_V
      replace C := C.since k_V
      replace D := D.since k_V
      replace E := E.since k_V
      replace F := F.since k_V
      replace T8 := T8.since k_V
      replace T9 := T9.since k_V
      replace QA := QA.since k_V
      replace QB := QB.since k_V
      replace T := T.since k_V
      replace cA0 : World.cell? _ _ = some (.int .i64 now) := A.cell 0
      replace cA1 : World.cell? _ _ = some (.slice av n cv) := A.cell 1
      replace cB0 : World.cell? _ _ = some (.int .i64 (now + t)) := B.cell 0
      replace cB1 : World.cell? _ _ = some (.slice (some ⟨g3, 0, none⟩) m5 c3) := B.cell 1
      replace cC0 : World.cell? _ _ = some (.int .i64 (now + kk)) := C.cell 0
      replace cC1 : World.cell? _ _ = some (.slice (some ⟨g4, 0, none⟩) m4 c4) := C.cell 1
      replace cD0 : World.cell? _ _ = some (.int .i64 (now + t)) := D.cell 0
      replace cD1 : World.cell? _ _ = some (.slice (some ⟨g5, 0, none⟩) m5 c5) := D.cell 1
      replace cE0 : World.cell? _ _ = some (.int .i64 now) := E.cell 0
      replace cE1 : World.cell? _ _ = some (.slice (some ⟨g8, 0, none⟩) m8 c8) := E.cell 1
      replace cF0 : World.cell? _ _ = some (.int .i64 (now + (wt - 1))) := F.cell 0
      replace cF1 : World.cell? _ _ = some (.slice (some ⟨g9, 0, none⟩) m9 c9) := F.cell 1
      have cV0 : World.cell? _ _ = some (.int .i64 (now + wt)) := V.cell 0
      have cV1 : World.cell? _ _ = some (.slice (some ⟨g10, 0, none⟩) m10 c10) := V.cell 1
      go_wp2_with (fail)
      refine (implStop now (some ⟨g8, 0, none⟩) m8 c8 us 777777 _ T8.reads (by omega) (by simp) (i64_of (by omega))).mono ?_
      rintro _ w11 ⟨g11, m11, c11, rfl, T11, k11⟩
      obtain ⟨hst1, hst2⟩ := stop_gone (wait := wt) hoku hs3
      rw [hst1]
      have hml : m11 + 1 = m8 := by rw [← T11.1, ← T8.1]; exact hst2
      clear hst1 hst2 T11
      have z_k11 := k11.le
      try simp only [World.size_alloc] at z_k11
      replace G := G.trans k11
      replace A := A.since k11
      replace B := B.since k11
      replace C := C.since k11
      replace D := D.since k11
      replace E := E.since k11
      replace F := F.since k11
      replace V := V.since k11
      replace T8 := T8.since k11
      replace T9 := T9.since k11
      replace QA := QA.since k11
      replace QB := QB.since k11
      replace T := T.since k11
      have H := Blk.new w11 #[.int .i64 now, .slice (some ⟨g11, 0, none⟩) m11 c11] 26
      have k_H := (Since.refl w11).alloc (.cells #[.int .i64 now, .slice (some ⟨g11, 0, none⟩) m11 c11] 26)
      have z_k_H := k_H.le
      try simp only [World.size_alloc] at z_k_H
      replace G := G.trans k_H
      replace A := A.since k_H
      replace B := B.since k_H
      replace C := C.since k_H
      replace D := D.since k_H
      replace E := E.since k_H
      replace F := F.since k_H
      replace V := V.since k_H
      replace T8 := T8.since k_H
      replace T9 := T9.since k_H
      replace QA := QA.since k_H
      replace QB := QB.since k_H
      replace T := T.since k_H
      have hw4 : IntKind.i64.wrap ((m8 : Int) - 1) = (m8 : Int) - 1 := by rw [IntWalk.i64_left]; exact IntWalk.wrap64_in _ ⟨by omega, by omega⟩
      have hml2 : ((m11 : Int) == (m8 : Int) - 1) = true := by simp; omega
      replace cA0 : World.cell? _ _ = some (.int .i64 now) := A.cell 0
      replace cA1 : World.cell? _ _ = some (.slice av n cv) := A.cell 1
      replace cB0 : World.cell? _ _ = some (.int .i64 (now + t)) := B.cell 0
      replace cB1 : World.cell? _ _ = some (.slice (some ⟨g3, 0, none⟩) m5 c3) := B.cell 1
      replace cC0 : World.cell? _ _ = some (.int .i64 (now + kk)) := C.cell 0
      replace cC1 : World.cell? _ _ = some (.slice (some ⟨g4, 0, none⟩) m4 c4) := C.cell 1
      replace cD0 : World.cell? _ _ = some (.int .i64 (now + t)) := D.cell 0
      replace cD1 : World.cell? _ _ = some (.slice (some ⟨g5, 0, none⟩) m5 c5) := D.cell 1
      replace cE0 : World.cell? _ _ = some (.int .i64 now) := E.cell 0
      replace cE1 : World.cell? _ _ = some (.slice (some ⟨g8, 0, none⟩) m8 c8) := E.cell 1
      replace cF0 : World.cell? _ _ = some (.int .i64 (now + (wt - 1))) := F.cell 0
      replace cF1 : World.cell? _ _ = some (.slice (some ⟨g9, 0, none⟩) m9 c9) := F.cell 1
      replace cV0 : World.cell? _ _ = some (.int .i64 (now + wt)) := V.cell 0
      replace cV1 : World.cell? _ _ = some (.slice (some ⟨g10, 0, none⟩) m10 c10) := V.cell 1
      have cH0 : World.cell? _ _ = some (.int .i64 now) := H.cell 0
      have cH1 : World.cell? _ _ = some (.slice (some ⟨g11, 0, none⟩) m11 c11) := H.cell 1
      go_wp2_with (fail)
      refine (has6 ga qa ca _ _ 777777 _ QA).mono ?_
      rintro _ w12 ⟨rfl, k12⟩
      rw [show decide (777777 ∈ gone us (now + (wt - 1))) = false by simpa using early_not hoku hs3]
      have z_k12 := k12.le
      try simp only [World.size_alloc] at z_k12
      replace G := G.trans k12
      replace A := A.since k12
      replace B := B.since k12
      replace C := C.since k12
      replace D := D.since k12
      replace E := E.since k12
      replace F := F.since k12
      replace V := V.since k12
      replace H := H.since k12
      replace T8 := T8.since k12
      replace T9 := T9.since k12
      replace QA := QA.since k12
      replace QB := QB.since k12
      replace T := T.since k12
      replace cA0 : World.cell? _ _ = some (.int .i64 now) := A.cell 0
      replace cA1 : World.cell? _ _ = some (.slice av n cv) := A.cell 1
      replace cB0 : World.cell? _ _ = some (.int .i64 (now + t)) := B.cell 0
      replace cB1 : World.cell? _ _ = some (.slice (some ⟨g3, 0, none⟩) m5 c3) := B.cell 1
      replace cC0 : World.cell? _ _ = some (.int .i64 (now + kk)) := C.cell 0
      replace cC1 : World.cell? _ _ = some (.slice (some ⟨g4, 0, none⟩) m4 c4) := C.cell 1
      replace cD0 : World.cell? _ _ = some (.int .i64 (now + t)) := D.cell 0
      replace cD1 : World.cell? _ _ = some (.slice (some ⟨g5, 0, none⟩) m5 c5) := D.cell 1
      replace cE0 : World.cell? _ _ = some (.int .i64 now) := E.cell 0
      replace cE1 : World.cell? _ _ = some (.slice (some ⟨g8, 0, none⟩) m8 c8) := E.cell 1
      replace cF0 : World.cell? _ _ = some (.int .i64 (now + (wt - 1))) := F.cell 0
      replace cF1 : World.cell? _ _ = some (.slice (some ⟨g9, 0, none⟩) m9 c9) := F.cell 1
      replace cV0 : World.cell? _ _ = some (.int .i64 (now + wt)) := V.cell 0
      replace cV1 : World.cell? _ _ = some (.slice (some ⟨g10, 0, none⟩) m10 c10) := V.cell 1
      replace cH0 : World.cell? _ _ = some (.int .i64 now) := H.cell 0
      replace cH1 : World.cell? _ _ = some (.slice (some ⟨g11, 0, none⟩) m11 c11) := H.cell 1
      go_wp2_with (fail)
      refine (has6 gb qb cb _ _ 777777 _ QB).mono ?_
      rintro _ w13 ⟨rfl, k13⟩
      rw [show decide (777777 ∈ gone (stay us (now + (wt - 1))) (now + wt)) = true by simpa using then_gone hs3]
      have z_k13 := k13.le
      try simp only [World.size_alloc] at z_k13
      replace G := G.trans k13
      replace A := A.since k13
      replace B := B.since k13
      replace C := C.since k13
      replace D := D.since k13
      replace E := E.since k13
      replace F := F.since k13
      replace V := V.since k13
      replace H := H.since k13
      replace T8 := T8.since k13
      replace T9 := T9.since k13
      replace QA := QA.since k13
      replace QB := QB.since k13
      replace T := T.since k13
      replace cA0 : World.cell? _ _ = some (.int .i64 now) := A.cell 0
      replace cA1 : World.cell? _ _ = some (.slice av n cv) := A.cell 1
      replace cB0 : World.cell? _ _ = some (.int .i64 (now + t)) := B.cell 0
      replace cB1 : World.cell? _ _ = some (.slice (some ⟨g3, 0, none⟩) m5 c3) := B.cell 1
      replace cC0 : World.cell? _ _ = some (.int .i64 (now + kk)) := C.cell 0
      replace cC1 : World.cell? _ _ = some (.slice (some ⟨g4, 0, none⟩) m4 c4) := C.cell 1
      replace cD0 : World.cell? _ _ = some (.int .i64 (now + t)) := D.cell 0
      replace cD1 : World.cell? _ _ = some (.slice (some ⟨g5, 0, none⟩) m5 c5) := D.cell 1
      replace cE0 : World.cell? _ _ = some (.int .i64 now) := E.cell 0
      replace cE1 : World.cell? _ _ = some (.slice (some ⟨g8, 0, none⟩) m8 c8) := E.cell 1
      replace cF0 : World.cell? _ _ = some (.int .i64 (now + (wt - 1))) := F.cell 0
      replace cF1 : World.cell? _ _ = some (.slice (some ⟨g9, 0, none⟩) m9 c9) := F.cell 1
      replace cV0 : World.cell? _ _ = some (.int .i64 (now + wt)) := V.cell 0
      replace cV1 : World.cell? _ _ = some (.slice (some ⟨g10, 0, none⟩) m10 c10) := V.cell 1
      replace cH0 : World.cell? _ _ = some (.int .i64 now) := H.cell 0
      replace cH1 : World.cell? _ _ = some (.slice (some ⟨g11, 0, none⟩) m11 c11) := H.cell 1
      go_wp2_with (fail)
      obtain ⟨hx1, hx2⟩ := next_in hoku hs3
      refine (implNext now (some ⟨g8, 0, none⟩) m8 c8 us _ T8.reads).mono ?_
      rintro _ w14 ⟨rfl, k14⟩
      have z_k14 := k14.le
      try simp only [World.size_alloc] at z_k14
      replace G := G.trans k14
      replace A := A.since k14
      replace B := B.since k14
      replace C := C.since k14
      replace D := D.since k14
      replace E := E.since k14
      replace F := F.since k14
      replace V := V.since k14
      replace H := H.since k14
      replace T8 := T8.since k14
      replace T9 := T9.since k14
      replace QA := QA.since k14
      replace QB := QB.since k14
      replace T := T.since k14
      replace cA0 : World.cell? _ _ = some (.int .i64 now) := A.cell 0
      replace cA1 : World.cell? _ _ = some (.slice av n cv) := A.cell 1
      replace cB0 : World.cell? _ _ = some (.int .i64 (now + t)) := B.cell 0
      replace cB1 : World.cell? _ _ = some (.slice (some ⟨g3, 0, none⟩) m5 c3) := B.cell 1
      replace cC0 : World.cell? _ _ = some (.int .i64 (now + kk)) := C.cell 0
      replace cC1 : World.cell? _ _ = some (.slice (some ⟨g4, 0, none⟩) m4 c4) := C.cell 1
      replace cD0 : World.cell? _ _ = some (.int .i64 (now + t)) := D.cell 0
      replace cD1 : World.cell? _ _ = some (.slice (some ⟨g5, 0, none⟩) m5 c5) := D.cell 1
      replace cE0 : World.cell? _ _ = some (.int .i64 now) := E.cell 0
      replace cE1 : World.cell? _ _ = some (.slice (some ⟨g8, 0, none⟩) m8 c8) := E.cell 1
      replace cF0 : World.cell? _ _ = some (.int .i64 (now + (wt - 1))) := F.cell 0
      replace cF1 : World.cell? _ _ = some (.slice (some ⟨g9, 0, none⟩) m9 c9) := F.cell 1
      replace cV0 : World.cell? _ _ = some (.int .i64 (now + wt)) := V.cell 0
      replace cV1 : World.cell? _ _ = some (.slice (some ⟨g10, 0, none⟩) m10 c10) := V.cell 1
      replace cH0 : World.cell? _ _ = some (.int .i64 now) := H.cell 0
      replace cH1 : World.cell? _ _ = some (.slice (some ⟨g11, 0, none⟩) m11 c11) := H.cell 1
      obtain ⟨nx, hnx⟩ : ∃ nx, Hid (nextC now us = nx) := ⟨_, rfl⟩
      rw [hnx.out] at hx1 hx2 ⊢
      go_wp2_with (fail)
      refine (implNext now (some ⟨g8, 0, none⟩) m8 c8 us _ T8.reads).mono ?_
      rintro _ w15 ⟨rfl, k15⟩
      rw [hnx.out]
      have z_k15 := k15.le
      try simp only [World.size_alloc] at z_k15
      replace G := G.trans k15
      replace A := A.since k15
      replace B := B.since k15
      replace C := C.since k15
      replace D := D.since k15
      replace E := E.since k15
      replace F := F.since k15
      replace V := V.since k15
      replace H := H.since k15
      replace T8 := T8.since k15
      replace T9 := T9.since k15
      replace QA := QA.since k15
      replace QB := QB.since k15
      replace T := T.since k15
      replace cA0 : World.cell? _ _ = some (.int .i64 now) := A.cell 0
      replace cA1 : World.cell? _ _ = some (.slice av n cv) := A.cell 1
      replace cB0 : World.cell? _ _ = some (.int .i64 (now + t)) := B.cell 0
      replace cB1 : World.cell? _ _ = some (.slice (some ⟨g3, 0, none⟩) m5 c3) := B.cell 1
      replace cC0 : World.cell? _ _ = some (.int .i64 (now + kk)) := C.cell 0
      replace cC1 : World.cell? _ _ = some (.slice (some ⟨g4, 0, none⟩) m4 c4) := C.cell 1
      replace cD0 : World.cell? _ _ = some (.int .i64 (now + t)) := D.cell 0
      replace cD1 : World.cell? _ _ = some (.slice (some ⟨g5, 0, none⟩) m5 c5) := D.cell 1
      replace cE0 : World.cell? _ _ = some (.int .i64 now) := E.cell 0
      replace cE1 : World.cell? _ _ = some (.slice (some ⟨g8, 0, none⟩) m8 c8) := E.cell 1
      replace cF0 : World.cell? _ _ = some (.int .i64 (now + (wt - 1))) := F.cell 0
      replace cF1 : World.cell? _ _ = some (.slice (some ⟨g9, 0, none⟩) m9 c9) := F.cell 1
      replace cV0 : World.cell? _ _ = some (.int .i64 (now + wt)) := V.cell 0
      replace cV1 : World.cell? _ _ = some (.slice (some ⟨g10, 0, none⟩) m10 c10) := V.cell 1
      replace cH0 : World.cell? _ _ = some (.int .i64 now) := H.cell 0
      replace cH1 : World.cell? _ _ = some (.slice (some ⟨g11, 0, none⟩) m11 c11) := H.cell 1
      go_wp2
      go_ret
      exact ⟨by first | rfl | simp, G⟩
end Go.Proofs.Ytgdhdeadbmeejaa
