/-
  What spec's CongAck and CongDup answer.
-/
import Derived.Test.YtakcalmmbknobaaCongD
namespace Go.Proofs.Ytakcalmmbknobaa
open Go.ChangeShapes Go.WideShapes Go.ChangeAt Go.RowKit
set_option linter.unusedVariables false

theorem specAckNot (x t d : Int) (f : Bool) (r n b : Int) (hk : (congOk x t d && decide (0 ≤ n ∧ n ≤ 8000)) = false) (w : World) :
    Calls Try.prog 20 #[congVal x t d f r, .int .i64 n, .int .u32 b] w fun e w' => e = .returned (.tuple #[congVal x t d f r, .bool false]) ∧ Since w w' := by
  have ho := fun wx => specCongOk x t d f r wx
  have hu := fun wx => specIn n 0 8000 wx
  generalize congOk x t d = k at ho hk
  generalize decide (0 ≤ n ∧ n ≤ 8000) = u at hu hk
  unfold congVal at *
  cases k
  · clear hu hk
    go_enter Try.func20, Try.ntmps20
    go_wp2_with (go_at_call 12; refine (ho _).mono ?_; rintro _ _ ⟨rfl, rfl⟩)
    refine bodyPost_ret (v := .tuple #[.agg #[.int .i64 x, .int .i64 t, .int .i64 d, .bool f, .int .u32 r], .bool false]) ?_ rfl ⟨rfl, by repeat (first | exact Since.refl _ | apply Since.drew | apply Since.alloc)⟩
    simp [results, go_sem]
  · obtain rfl : u = false := by simpa using hk
    clear hk
    go_enter Try.func20, Try.ntmps20
    go_wp2_with (first | (go_at_call 12; refine (ho _).mono ?_; rintro _ _ ⟨rfl, rfl⟩) | (go_at_call 29; refine (hu _).mono ?_; rintro _ _ ⟨rfl, rfl⟩))
    refine bodyPost_ret (v := .tuple #[.agg #[.int .i64 x, .int .i64 t, .int .i64 d, .bool f, .int .u32 r], .bool false]) ?_ rfl ⟨rfl, by repeat (first | exact Since.refl _ | apply Since.drew | apply Since.alloc)⟩
    simp [results, go_sem]

theorem specAckMend (x t d : Int) (f : Bool) (r n b s : Int) (hf : f = true) (hr : IsWord r) (hb : IsWord b) (hd : IsDist r b s) (hk : (congOk x t d && decide (0 ≤ n ∧ n ≤ 8000)) = true) (w : World) :
    Calls Try.prog 20 #[congVal x t d f r, .int .i64 n, .int .u32 b] w fun e w' => e = .returned (.tuple #[congVal (if decide (0 ≤ s) then t else min (max (x - n + 100) 100) 8000) t (if decide (0 ≤ s) then 0 else d) (if decide (0 ≤ s) then false else f) r, .bool (!decide (0 ≤ s))]) ∧ Since w w' := by
  have ho := fun wx => specCongOk x t d f r wx
  have hu := fun wx => specIn n 0 8000 wx
  obtain ⟨⟨x0, x1⟩, ⟨t0, t1⟩, ⟨d0, d1⟩, n0, n1⟩ := ok_both hk
  simp only [Bool.and_eq_true] at hk
  rw [hk.1] at ho
  rw [hk.2] at hu
  clear hk
  have hl := fun wx => specLessEq r b s hr hb hd wx
  subst hf
  clear hd
  generalize decide (0 ≤ s) = le at hl ⊢
  cases le
  · simp only [Bool.false_eq_true, if_false, Bool.not_false]
    have hc := fun wx => specClip (x - n + 100) 100 8000 (by omega) wx
    generalize min (max (x - n + 100) 100) 8000 = m at hc ⊢
    unfold congVal at *
    go_enter Try.func20, Try.ntmps20
    go_wp2_with (first | (go_at_call 12; refine (ho _).mono ?_; rintro _ _ ⟨rfl, rfl⟩) | (go_at_call 29; refine (hu _).mono ?_; rintro _ _ ⟨rfl, rfl⟩) | (go_at_call 32; refine (hl _).mono ?_; rintro _ _ ⟨rfl, rfl⟩) | (go_at_call 31; refine (hc _).mono ?_; rintro _ _ ⟨rfl, rfl⟩))
    refine bodyPost_ret (v := .tuple #[.agg #[.int .i64 m, .int .i64 t, .int .i64 d, .bool true, .int .u32 r], .bool true]) ?_ rfl ⟨rfl, by repeat (first | exact Since.refl _ | apply Since.drew | apply Since.alloc)⟩
    simp [results, go_sem]
  · simp only [if_true, Bool.not_true]
    unfold congVal at *
    go_enter Try.func20, Try.ntmps20
    go_wp2_with (first | (go_at_call 12; refine (ho _).mono ?_; rintro _ _ ⟨rfl, rfl⟩) | (go_at_call 29; refine (hu _).mono ?_; rintro _ _ ⟨rfl, rfl⟩) | (go_at_call 32; refine (hl _).mono ?_; rintro _ _ ⟨rfl, rfl⟩))
    refine bodyPost_ret (v := .tuple #[.agg #[.int .i64 t, .int .i64 t, .int .i64 0, .bool false, .int .u32 r], .bool false]) ?_ rfl ⟨rfl, by repeat (first | exact Since.refl _ | apply Since.drew | apply Since.alloc)⟩
    simp [results, go_sem]

set_option maxHeartbeats 1000000 in
theorem specAckGrow (x t d : Int) (f : Bool) (r n b : Int) (hf : f = false) (hk : (congOk x t d && decide (0 ≤ n ∧ n ≤ 8000)) = true) (w : World) :
    Calls Try.prog 20 #[congVal x t d f r, .int .i64 n, .int .u32 b] w fun e w' => e = .returned (.tuple #[congVal (if x < t then min (x + min n 100) 8000 else min (x + 10000 / x) 8000) t 0 f r, .bool false]) ∧ Since w w' := by
  have ho := fun wx => specCongOk x t d f r wx
  have hu := fun wx => specIn n 0 8000 wx
  obtain ⟨⟨x0, x1⟩, ⟨t0, t1⟩, ⟨d0, d1⟩, n0, n1⟩ := ok_both hk
  simp only [Bool.and_eq_true] at hk
  rw [hk.1] at ho
  rw [hk.2] at hu
  clear hk
  subst hf
  obtain ⟨q0, q1⟩ := quo_bounds x x0 x1
  have hx0 : ¬ x = 0 := by omega
  have hw : IntKind.i64.wrap (Int.tdiv 10000 x) = 10000 / x := by
    rw [Int.tdiv_eq_ediv_of_nonneg (by omega), IntWalk.i64_left]
    exact IntWalk.wrap64_in _ ⟨by omega, by omega⟩
  have c1 := fun wx => specClip (10000 / x) 1 100 (by omega) wx
  rw [show min (max (10000 / x) 1) 100 = 10000 / x by omega] at c1
  by_cases hx : x < t
  · simp only [hx, if_true]
    have c2 := fun wx => specClip n 0 100 (by omega) wx
    rw [show min (max n 0) 100 = min n 100 by omega] at c2
    have c3 := fun wx => specClip (x + min n 100) 100 8000 (by omega) wx
    rw [show min (max (x + min n 100) 100) 8000 = min (x + min n 100) 8000 by omega] at c3
    generalize min (x + min n 100) 8000 = m at c3 ⊢
    have g0 : 0 ≤ min n 100 := by omega
    have g1 : min n 100 ≤ 100 := by omega
    generalize min n 100 = g at c2 c3 g0 g1
    generalize 10000 / x = o at hw c1 q0 q1
    unfold congVal at *
    go_enter Try.func20, Try.ntmps20
    go_wp2_with (first | (go_at_call 12; refine (ho _).mono ?_; rintro _ _ ⟨rfl, rfl⟩) | (go_at_call 29; refine (hu _).mono ?_; rintro _ _ ⟨rfl, rfl⟩) | (go_at_call_of 31 (Value.int IntKind.i64 o); refine (c1 _).mono ?_; clear c1; rintro _ _ ⟨rfl, rfl⟩) | (go_at_call 31; refine (c2 _).mono ?_; clear c2; rintro _ _ ⟨rfl, rfl⟩) | (go_at_call 31; refine (c3 _).mono ?_; clear c3; rintro _ _ ⟨rfl, rfl⟩))
    refine bodyPost_ret (v := .tuple #[.agg #[.int .i64 m, .int .i64 t, .int .i64 0, .bool false, .int .u32 r], .bool false]) ?_ rfl ⟨rfl, by repeat (first | exact Since.refl _ | apply Since.drew | apply Since.alloc)⟩
    simp [results, go_sem]
  · simp only [hx, if_false]
    have c3 := fun wx => specClip (x + 10000 / x) 100 8000 (by omega) wx
    rw [show min (max (x + 10000 / x) 100) 8000 = min (x + 10000 / x) 8000 by omega] at c3
    generalize min (x + 10000 / x) 8000 = m at c3 ⊢
    generalize 10000 / x = o at hw c1 c3 q0 q1
    unfold congVal at *
    go_enter Try.func20, Try.ntmps20
    go_wp2_with (first | (go_at_call 12; refine (ho _).mono ?_; rintro _ _ ⟨rfl, rfl⟩) | (go_at_call 29; refine (hu _).mono ?_; rintro _ _ ⟨rfl, rfl⟩) | (go_at_call_of 31 (Value.int IntKind.i64 o); refine (c1 _).mono ?_; clear c1; rintro _ _ ⟨rfl, rfl⟩) | (go_at_call 31; refine (c3 _).mono ?_; clear c3; rintro _ _ ⟨rfl, rfl⟩))
    refine bodyPost_ret (v := .tuple #[.agg #[.int .i64 m, .int .i64 t, .int .i64 0, .bool false, .int .u32 r], .bool false]) ?_ rfl ⟨rfl, by repeat (first | exact Since.refl _ | apply Since.drew | apply Since.alloc)⟩
    simp [results, go_sem]

theorem specAck (x t d : Int) (f : Bool) (r n b s : Int) (hr : IsWord r) (hb : IsWord b) (hd : IsDist r b s) (w : World) :
    Calls Try.prog 20 #[congVal x t d f r, .int .i64 n, .int .u32 b] w fun e w' => e = .returned (ackVal (congOk x t d && decide (0 ≤ n ∧ n ≤ 8000)) f (decide (0 ≤ s)) x t d r n) ∧ Since w w' := by
  cases hk : (congOk x t d && decide (0 ≤ n ∧ n ≤ 8000))
  · exact specAckNot x t d f r n b hk w
  · cases f
    · refine (specAckGrow x t d false r n b rfl hk w).mono ?_
      rintro _ w' ⟨rfl, g⟩
      refine ⟨?_, g⟩
      simp [ackVal, ackX, ackD, ackF, ackB]
    · refine (specAckMend x t d true r n b s rfl hr hb hd hk w).mono ?_
      rintro _ w' ⟨rfl, g⟩
      refine ⟨?_, g⟩
      generalize decide (0 ≤ s) = le
      cases le <;> simp [ackVal, ackX, ackD, ackF, ackB]

theorem specDupNot (x t d : Int) (f : Bool) (r n b : Int) (hk : (congOk x t d && decide (0 ≤ n ∧ n ≤ 8000)) = false) (w : World) :
    Calls Try.prog 21 #[congVal x t d f r, .int .i64 n, .int .u32 b] w fun e w' => e = .returned (.tuple #[congVal x t d f r, .bool false]) ∧ Since w w' := by
  have ho := fun wx => specCongOk x t d f r wx
  have hu := fun wx => specIn n 0 8000 wx
  generalize congOk x t d = k at ho hk
  generalize decide (0 ≤ n ∧ n ≤ 8000) = u at hu hk
  unfold congVal at *
  cases k
  · clear hu hk
    go_enter Try.func21, Try.ntmps21
    go_wp2_with (go_at_call 12; refine (ho _).mono ?_; rintro _ _ ⟨rfl, rfl⟩)
    refine bodyPost_ret (v := .tuple #[.agg #[.int .i64 x, .int .i64 t, .int .i64 d, .bool f, .int .u32 r], .bool false]) ?_ rfl ⟨rfl, by repeat (first | exact Since.refl _ | apply Since.drew | apply Since.alloc)⟩
    simp [results, go_sem]
  · obtain rfl : u = false := by simpa using hk
    clear hk
    go_enter Try.func21, Try.ntmps21
    go_wp2_with (first | (go_at_call 12; refine (ho _).mono ?_; rintro _ _ ⟨rfl, rfl⟩) | (go_at_call 29; refine (hu _).mono ?_; rintro _ _ ⟨rfl, rfl⟩))
    refine bodyPost_ret (v := .tuple #[.agg #[.int .i64 x, .int .i64 t, .int .i64 d, .bool f, .int .u32 r], .bool false]) ?_ rfl ⟨rfl, by repeat (first | exact Since.refl _ | apply Since.drew | apply Since.alloc)⟩
    simp [results, go_sem]

theorem specDupMend (x t d : Int) (f : Bool) (r n b : Int) (hf : f = true) (hk : (congOk x t d && decide (0 ≤ n ∧ n ≤ 8000)) = true) (w : World) :
    Calls Try.prog 21 #[congVal x t d f r, .int .i64 n, .int .u32 b] w fun e w' => e = .returned (.tuple #[congVal (min (x + 100) 8000) t d f r, .bool false]) ∧ Since w w' := by
  have ho := fun wx => specCongOk x t d f r wx
  have hu := fun wx => specIn n 0 8000 wx
  obtain ⟨⟨x0, x1⟩, ⟨t0, t1⟩, ⟨d0, d1⟩, n0, n1⟩ := ok_both hk
  simp only [Bool.and_eq_true] at hk
  rw [hk.1] at ho
  rw [hk.2] at hu
  clear hk
  subst hf
  have hc := fun wx => specClip (x + 100) 100 8000 (by omega) wx
  rw [show min (max (x + 100) 100) 8000 = min (x + 100) 8000 by omega] at hc
  generalize min (x + 100) 8000 = m at hc ⊢
  unfold congVal at *
  go_enter Try.func21, Try.ntmps21
  go_wp2_with (first | (go_at_call 12; refine (ho _).mono ?_; rintro _ _ ⟨rfl, rfl⟩) | (go_at_call 29; refine (hu _).mono ?_; rintro _ _ ⟨rfl, rfl⟩) | (go_at_call 31; refine (hc _).mono ?_; rintro _ _ ⟨rfl, rfl⟩))
  refine bodyPost_ret (v := .tuple #[.agg #[.int .i64 m, .int .i64 t, .int .i64 d, .bool true, .int .u32 r], .bool false]) ?_ rfl ⟨rfl, by repeat (first | exact Since.refl _ | apply Since.drew | apply Since.alloc)⟩
  simp [results, go_sem]

theorem specDupOther (x t d : Int) (f : Bool) (r n b : Int) (hf : f = false) (h2 : ¬ d = 2) (hk : (congOk x t d && decide (0 ≤ n ∧ n ≤ 8000)) = true) (w : World) :
    Calls Try.prog 21 #[congVal x t d f r, .int .i64 n, .int .u32 b] w fun e w' => e = .returned (.tuple #[congVal x t (min (d + 1) 1000000) f r, .bool false]) ∧ Since w w' := by
  have ho := fun wx => specCongOk x t d f r wx
  have hu := fun wx => specIn n 0 8000 wx
  obtain ⟨⟨x0, x1⟩, ⟨t0, t1⟩, ⟨d0, d1⟩, n0, n1⟩ := ok_both hk
  simp only [Bool.and_eq_true] at hk
  rw [hk.1] at ho
  rw [hk.2] at hu
  clear hk
  subst hf
  have hc := fun wx => specClip (d + 1) 0 1000000 (by omega) wx
  rw [show min (max (d + 1) 0) 1000000 = min (d + 1) 1000000 by omega] at hc
  have h3 : ¬ min (d + 1) 1000000 = 3 := by omega
  clear h2
  generalize min (d + 1) 1000000 = m at hc h3 ⊢
  unfold congVal at *
  go_enter Try.func21, Try.ntmps21
  go_wp2_with (first | (go_at_call 12; refine (ho _).mono ?_; rintro _ _ ⟨rfl, rfl⟩) | (go_at_call 29; refine (hu _).mono ?_; rintro _ _ ⟨rfl, rfl⟩) | (go_at_call 31; refine (hc _).mono ?_; rintro _ _ ⟨rfl, rfl⟩))
  refine bodyPost_ret (v := .tuple #[.agg #[.int .i64 x, .int .i64 t, .int .i64 m, .bool false, .int .u32 r], .bool false]) ?_ rfl ⟨rfl, by repeat (first | exact Since.refl _ | apply Since.drew | apply Since.alloc)⟩
  simp [results, go_sem]

theorem specDupThird (x t d : Int) (f : Bool) (r n b : Int) (hf : f = false) (h2 : d = 2) (hk : (congOk x t d && decide (0 ≤ n ∧ n ≤ 8000)) = true) (w : World) :
    Calls Try.prog 21 #[congVal x t d f r, .int .i64 n, .int .u32 b] w fun e w' => e = .returned (.tuple #[congVal (max (n / 2) 200 + 300) (max (n / 2) 200) 3 true b, .bool true]) ∧ Since w w' := by
  have ho := fun wx => specCongOk x t d f r wx
  have hu := fun wx => specIn n 0 8000 wx
  obtain ⟨⟨x0, x1⟩, ⟨t0, t1⟩, ⟨d0, d1⟩, n0, n1⟩ := ok_both hk
  simp only [Bool.and_eq_true] at hk
  rw [hk.1] at ho
  rw [hk.2] at hu
  clear hk
  subst hf
  subst h2
  have c1 := fun wx => specClip 3 0 1000000 (by omega) wx
  rw [show min (max (3 : Int) 0) 1000000 = 3 by omega] at c1
  have c2 := fun wx => specClip (n / 2) 200 8000 (by omega) wx
  rw [show min (max (n / 2) 200) 8000 = max (n / 2) 200 by omega] at c2
  have c3 := fun wx => specClip (max (n / 2) 200 + 300) 100 8000 (by omega) wx
  rw [show min (max (max (n / 2) 200 + 300) 100) 8000 = max (n / 2) 200 + 300 by omega] at c3
  have m0 : 200 ≤ max (n / 2) 200 := by omega
  have m1 : max (n / 2) 200 ≤ 4000 := by omega
  generalize max (n / 2) 200 = m at c2 c3 m0 m1 ⊢
  unfold congVal at *
  go_enter Try.func21, Try.ntmps21
  go_wp2_with (first | (go_at_call 12; refine (ho _).mono ?_; rintro _ _ ⟨rfl, rfl⟩) | (go_at_call 29; refine (hu _).mono ?_; rintro _ _ ⟨rfl, rfl⟩) | (go_at_call 31; refine (c1 _).mono ?_; clear c1; rintro _ _ ⟨rfl, rfl⟩))
  go_wp2_with (go_at_call 31; refine (c2 _).mono ?_; clear c2; rintro _ _ ⟨rfl, rfl⟩)
  go_wp2_with (go_at_call 31; refine (c3 _).mono ?_; clear c3; rintro _ _ ⟨rfl, rfl⟩)
  refine bodyPost_ret (v := .tuple #[.agg #[.int .i64 (m + 300), .int .i64 m, .int .i64 3, .bool true, .int .u32 b], .bool true]) ?_ rfl ⟨rfl, by repeat (first | exact Since.refl _ | apply Since.drew | apply Since.alloc)⟩
  simp [results, go_sem]

theorem specDup (x t d : Int) (f : Bool) (r n b : Int) (w : World) :
    Calls Try.prog 21 #[congVal x t d f r, .int .i64 n, .int .u32 b] w fun e w' => e = .returned (dupVal (congOk x t d && decide (0 ≤ n ∧ n ≤ 8000)) f x t d r n b) ∧ Since w w' := by
  cases hk : (congOk x t d && decide (0 ≤ n ∧ n ≤ 8000))
  · exact specDupNot x t d f r n b hk w
  · cases f
    · by_cases h2 : d = 2
      · refine (specDupThird x t d false r n b rfl h2 hk w).mono ?_
        rintro _ w' ⟨rfl, g⟩
        refine ⟨?_, g⟩
        subst h2
        simp [dupVal, dupX, dupT, dupD, dupF, dupR, third]
        rfl
      · refine (specDupOther x t d false r n b rfl h2 hk w).mono ?_
        rintro _ w' ⟨rfl, g⟩
        refine ⟨?_, g⟩
        simp [dupVal, dupX, dupT, dupD, dupF, dupR, third, h2]
    · refine (specDupMend x t d true r n b rfl hk w).mono ?_
      rintro _ w' ⟨rfl, g⟩
      refine ⟨?_, g⟩
      simp [dupVal, dupX, dupT, dupD, dupF, dupR, third]
end Go.Proofs.Ytakcalmmbknobaa
