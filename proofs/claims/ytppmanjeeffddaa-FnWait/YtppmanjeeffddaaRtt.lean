/-
  Contracts of impl's and spec's RttOk, of impl's methods of a wait, and of the laws' copying of one, at every wait.
-/
import Derived.Test.YtppmanjeeffddaaPkt
namespace Go.Proofs.Ytppmanjeeffddaa
open Go.ChangeShapes Go.WideShapes Go.ChangeAt Go.RowKit
set_option linter.unusedVariables false

/-- A wait as a value. -/
def rttVal (a : Bool) (s v h : Int) : Value := .agg #[.bool a, .int .i64 s, .int .i64 v, .int .i64 h]

/-- What RttOk answers. -/
def rttOk (a : Bool) (s v h : Int) : Bool := decide (0 ≤ s ∧ s ≤ 800000) && (decide (0 ≤ v ∧ v ≤ 400000) && (decide (0 ≤ h ∧ h ≤ 8) && (a || (decide (s = 0) && decide (v = 0)))))

theorem ret_bool {b c : Bool} (h : b = c) : Ending.returned (Value.bool b) = Ending.returned (Value.bool c) := by rw [h]

theorem ret_int {b c : Int} (h : b = c) : Ending.returned (Value.int .i64 b) = Ending.returned (Value.int .i64 c) := by rw [h]

theorem implRttOk (a : Bool) (s v h : Int) (w : World) :
    Calls Try.prog 14 #[rttVal a s v h] w fun e w' => e = .returned (.bool (rttOk a s v h)) ∧ w' = w.alloc (.cells #[.bool a, .int .i64 s, .int .i64 v, .int .i64 h] 28) := by
  unfold rttVal
  go_enter Try.func14, Try.ntmps14
  go_wp2
  all_goals go_ret
  all_goals refine ⟨ret_bool ?_, by first | rfl | simp [*]⟩
  all_goals rw [Bool.eq_iff_iff]
  all_goals simp [rttOk, *]
  all_goals omega

theorem specRttOk (a : Bool) (s v h : Int) (w : World) :
    Calls Try.prog 17 #[rttVal a s v h] w fun e w' => e = .returned (.bool (rttOk a s v h)) ∧ w' = w.alloc (.cells #[.bool a, .int .i64 s, .int .i64 v, .int .i64 h] 28) := by
  unfold rttVal rttOk
  have i1 := fun wx => specIn s 0 800000 wx
  have i2 := fun wx => specIn v 0 400000 wx
  have i3 := fun wx => specIn h 0 8 wx
  generalize decide (0 ≤ s ∧ s ≤ 800000) = b1 at i1 ⊢
  generalize decide (0 ≤ v ∧ v ≤ 400000) = b2 at i2 ⊢
  generalize decide (0 ≤ h ∧ h ≤ 8) = b3 at i3 ⊢
  go_enter Try.func17, Try.ntmps17
  cases b1
  · go_wp2_with (go_at_call 39; refine (i1 _).mono ?_; clear i1; rintro _ _ ⟨rfl, rfl⟩)
    go_ret
    exact ⟨rfl, rfl⟩
  cases b2
  · go_wp2_with (first | (go_at_call 39; refine (i1 _).mono ?_; clear i1; rintro _ _ ⟨rfl, rfl⟩) | (go_at_call 39; refine (i2 _).mono ?_; rintro _ _ ⟨rfl, rfl⟩))
    go_ret
    exact ⟨rfl, rfl⟩
  go_wp2_with (first | (go_at_call 39; refine (i1 _).mono ?_; clear i1; rintro _ _ ⟨rfl, rfl⟩) | (go_at_call 39; refine (i2 _).mono ?_; clear i2; rintro _ _ ⟨rfl, rfl⟩) | (go_at_call 39; refine (i3 _).mono ?_; clear i3; rintro _ _ ⟨rfl, rfl⟩))
  all_goals go_ret
  all_goals refine ⟨ret_bool ?_, by first | rfl | simp [*]⟩
  all_goals rw [Bool.eq_iff_iff]
  all_goals simp_all

theorem toRtt (a : Bool) (s v h : Int) (w : World) :
    Calls Try.prog 18 #[rttVal a s v h] w fun e w' => e = .returned (rttVal a s v h) ∧ Since w w' := by
  unfold rttVal
  go_enter Try.func18, Try.ntmps18
  go_wp2
  refine bodyPost_ret (v := .agg #[.bool a, .int .i64 s, .int .i64 v, .int .i64 h]) ?_ rfl ⟨rfl, by repeat (first | exact Since.refl _ | apply Since.drew | apply Since.alloc)⟩
  simp [results, go_sem]

theorem eqRtt (a : Bool) (s v h : Int) (w : World) :
    Calls Try.prog 20 #[rttVal a s v h, rttVal a s v h] w fun e w' => e = .returned (.bool true) ∧ Since w w' := by
  unfold rttVal
  go_enter Try.func20, Try.ntmps20
  go_wp2
  go_ret
  exact ⟨rfl, by repeat (first | exact Since.refl _ | apply Since.drew | apply Since.alloc)⟩

theorem isSample (r : Int) (w : World) :
    Calls Try.prog 35 #[.int .i64 r] w fun e w' => e = .returned (.bool (decide (0 ≤ r ∧ r ≤ 100000))) ∧ w = w' := by
  go_enter Try.func35, Try.ntmps35
  go_wp2
  all_goals go_ret
  all_goals refine ⟨ret_bool ?_, by first | rfl | simp [*]⟩
  all_goals rw [Bool.eq_iff_iff]
  all_goals simp [*]
  all_goals omega

theorem implMean (a : Bool) (s v h : Int) (h0 : 0 ≤ s) (h1 : s ≤ 800000) (w : World) :
    Calls Try.prog 42 #[rttVal a s v h] w fun e w' => e = .returned (.int .i64 (s / 8)) ∧ w' = w.alloc (.cells #[.bool a, .int .i64 s, .int .i64 v, .int .i64 h] 28) := by
  unfold rttVal
  go_enter Try.func42, Try.ntmps42
  go_wp2
  go_ret
  exact ⟨rfl, rfl⟩

theorem implBegun (a : Bool) (s v h r : Int) (h0 : 0 ≤ r) (h1 : r ≤ 100000) (w : World) :
    Calls Try.prog 36 #[rttVal a s v h, .int .i64 r] w fun e w' => e = .returned (rttVal a (8 * r) (2 * r) h) ∧ ∃ x y : Array Value, w' = (w.alloc (.cells x 28)).alloc (.cells y 28) := by
  unfold rttVal
  go_enter Try.func36, Try.ntmps36
  go_wp2
  rw [show 4 * r / 2 = 2 * r by omega]
  refine bodyPost_ret (v := .agg #[.bool a, .int .i64 (8 * r), .int .i64 (2 * r), .int .i64 h]) ?_ rfl ⟨rfl, _, _, rfl⟩
  simp [results, go_sem]

theorem implSmoothed (a : Bool) (s v d r : Int) (h0 : 0 ≤ r) (h1 : r ≤ 100000) (h2 : 0 ≤ s) (h3 : s ≤ 800000) (h4 : 0 ≤ v) (h5 : v ≤ 400000) (w : World) :
    Calls Try.prog 37 #[rttVal a s v d, .int .i64 r] w fun e w' => e = .returned (rttVal a (s + (r - s / 8)) (v + (max (r - s / 8) (-(r - s / 8)) - v / 4)) d) ∧ ∃ x y z : Array Value, w' = ((w.alloc (.cells x 28)).alloc (.cells y 28)).alloc (.cells z 28) := by
  have hm := fun wx => implMean a s v d h2 h3 wx
  unfold rttVal at hm ⊢
  go_enter Try.func37, Try.ntmps37
  go_wp2_with (go_at_call 42; refine (hm _).mono ?_; rintro _ _ ⟨rfl, rfl⟩)
  · rw [Int.max_eq_right (by omega)]
    refine bodyPost_ret (v := .agg #[.bool a, .int .i64 (s + (r - s / 8)), .int .i64 (v + (-(r - s / 8) - v / 4)), .int .i64 d]) ?_ rfl ⟨rfl, _, _, _, rfl⟩
    simp [results, go_sem]
  · rw [Int.max_eq_left (by omega)]
    refine bodyPost_ret (v := .agg #[.bool a, .int .i64 (s + (r - s / 8)), .int .i64 (v + (r - s / 8 - v / 4)), .int .i64 d]) ?_ rfl ⟨rfl, _, _, _, rfl⟩
    simp [results, go_sem]

theorem implFailed (a : Bool) (s v d : Int) (h0 : 0 ≤ d) (h1 : d ≤ 8) (w : World) :
    Calls Try.prog 38 #[rttVal a s v d] w fun e w' => e = .returned (rttVal a s v (min (d + 1) 8)) ∧ ∃ x y : Array Value, w' = (w.alloc (.cells x 28)).alloc (.cells y 28) := by
  unfold rttVal
  go_enter Try.func38, Try.ntmps38
  go_wp2
  · rw [Int.min_eq_right (by omega)]
    refine bodyPost_ret (v := .agg #[.bool a, .int .i64 s, .int .i64 v, .int .i64 8]) ?_ rfl ⟨rfl, _, _, rfl⟩
    simp [results, go_sem]
  · rw [Int.min_eq_left (by omega)]
    refine bodyPost_ret (v := .agg #[.bool a, .int .i64 s, .int .i64 v, .int .i64 (d + 1)]) ?_ rfl ⟨rfl, _, _, rfl⟩
    simp [results, go_sem]

/-- What RttSample answers: at a wait that is right and an answer's time, and elsewhere. -/
def sampleS (a : Bool) (s r : Int) : Int := if a then s + (r - s / 8) else 8 * r

/-- How much the time varies then. -/
def sampleV (a : Bool) (s v r : Int) : Int := if a then v + (max (r - s / 8) (-(r - s / 8)) - v / 4) else 2 * r

theorem ok_bounds {a : Bool} {s v h : Int} (k : rttOk a s v h = true) : 0 ≤ s ∧ s ≤ 800000 ∧ 0 ≤ v ∧ v ≤ 400000 ∧ 0 ≤ h ∧ h ≤ 8 ∧ (a = true ∨ s = 0 ∧ v = 0) := by
  simp [rttOk] at k
  obtain ⟨⟨k1, k2⟩, ⟨k3, k4⟩, ⟨k5, k6⟩, k7⟩ := k
  exact ⟨k1, k2, k3, k4, k5, k6, k7⟩

theorem implSample (a : Bool) (s v h r : Int) (w : World) :
    Calls Try.prog 15 #[rttVal a s v h, .int .i64 r] w fun e w' => e = .returned (if rttOk a s v h && decide (0 ≤ r ∧ r ≤ 100000) then rttVal true (sampleS a s r) (sampleV a s v r) 0 else rttVal false 0 0 0) ∧ Since w w' := by
  have ho := fun wx => implRttOk a s v h wx
  have hs := fun wx => isSample r wx
  unfold rttVal at ho
  by_cases hk : rttOk a s v h = true
  · have hb := ok_bounds hk
    rw [hk] at ho ⊢
    by_cases hr : 0 ≤ r ∧ r ≤ 100000
    · have hd : decide (0 ≤ r ∧ r ≤ 100000) = true := by simp [hr]
      rw [hd] at hs ⊢
      simp only [Bool.and_self, if_true]
      cases a
      · have hl := fun wx => implBegun false s v h r hr.1 hr.2 wx
        unfold rttVal sampleS sampleV at *
        clear hb hd hk hr
        simp only [Bool.false_eq_true, if_false]
        go_enter Try.func15, Try.ntmps15
        go_wp2_with (first | (go_at_call 14; refine (ho _).mono ?_; rintro _ _ ⟨rfl, rfl⟩) | (go_at_call 35; refine (hs _).mono ?_; rintro _ _ ⟨rfl, rfl⟩) | (go_at_call 36; refine (hl _).mono ?_; rintro _ _ ⟨rfl, x, y, rfl⟩))
        refine bodyPost_ret (v := .agg #[.bool true, .int .i64 (8 * r), .int .i64 (2 * r), .int .i64 0]) ?_ rfl ⟨rfl, by repeat (first | exact Since.refl _ | apply Since.drew | apply Since.alloc)⟩
        simp [results, go_sem]
      · have hl := fun wx => implSmoothed true s v h r hr.1 hr.2 hb.1 hb.2.1 hb.2.2.1 hb.2.2.2.1 wx
        unfold sampleS sampleV
        simp only [if_true]
        generalize s + (r - s / 8) = s' at hl ⊢
        generalize v + (max (r - s / 8) (-(r - s / 8)) - v / 4) = v' at hl ⊢
        unfold rttVal at *
        clear hb hd hk hr
        go_enter Try.func15, Try.ntmps15
        go_wp2_with (first | (go_at_call 14; refine (ho _).mono ?_; rintro _ _ ⟨rfl, rfl⟩) | (go_at_call 35; refine (hs _).mono ?_; rintro _ _ ⟨rfl, rfl⟩) | (go_at_call 37; refine (hl _).mono ?_; rintro _ _ ⟨rfl, x, y, z, rfl⟩))
        refine bodyPost_ret (v := .agg #[.bool true, .int .i64 s', .int .i64 v', .int .i64 0]) ?_ rfl ⟨rfl, by repeat (first | exact Since.refl _ | apply Since.drew | apply Since.alloc)⟩
        simp [results, go_sem]
    · have hd : decide (0 ≤ r ∧ r ≤ 100000) = false := by simp [hr]
      rw [hd] at hs ⊢
      clear hb hd hk hr
      simp only [Bool.and_false, Bool.false_eq_true, if_false]
      unfold rttVal
      go_enter Try.func15, Try.ntmps15
      go_wp2_with (first | (go_at_call 14; refine (ho _).mono ?_; rintro _ _ ⟨rfl, rfl⟩) | (go_at_call 35; refine (hs _).mono ?_; rintro _ _ ⟨rfl, rfl⟩))
      refine bodyPost_ret (v := .agg #[.bool false, .int .i64 0, .int .i64 0, .int .i64 0]) ?_ rfl ⟨rfl, by repeat (first | exact Since.refl _ | apply Since.drew | apply Since.alloc)⟩
      simp [results, go_sem]
  · have hk' : rttOk a s v h = false := by simpa using hk
    rw [hk'] at ho ⊢
    clear hk hk'
    simp only [Bool.false_and, Bool.false_eq_true, if_false]
    unfold rttVal
    go_enter Try.func15, Try.ntmps15
    go_wp2_with (go_at_call 14; refine (ho _).mono ?_; rintro _ _ ⟨rfl, rfl⟩)
    refine bodyPost_ret (v := .agg #[.bool false, .int .i64 0, .int .i64 0, .int .i64 0]) ?_ rfl ⟨rfl, by repeat (first | exact Since.refl _ | apply Since.drew | apply Since.alloc)⟩
    simp [results, go_sem]

theorem implBack (a : Bool) (s v h : Int) (w : World) :
    Calls Try.prog 16 #[rttVal a s v h] w fun e w' => e = .returned (if rttOk a s v h then rttVal a s v (min (h + 1) 8) else rttVal false 0 0 0) ∧ Since w w' := by
  have ho := fun wx => implRttOk a s v h wx
  unfold rttVal at ho
  by_cases hk : rttOk a s v h = true
  · have hb := ok_bounds hk
    have hl := fun wx => implFailed a s v h hb.2.2.2.2.1 hb.2.2.2.2.2.1 wx
    rw [hk] at ho ⊢
    simp only [if_true]
    generalize min (h + 1) 8 = h' at hl ⊢
    unfold rttVal at *
    clear hb hk
    go_enter Try.func16, Try.ntmps16
    go_wp2_with (first | (go_at_call 14; refine (ho _).mono ?_; rintro _ _ ⟨rfl, rfl⟩) | (go_at_call 38; refine (hl _).mono ?_; rintro _ _ ⟨rfl, x, y, rfl⟩))
    refine bodyPost_ret (v := .agg #[.bool a, .int .i64 s, .int .i64 v, .int .i64 h']) ?_ rfl ⟨rfl, by repeat (first | exact Since.refl _ | apply Since.drew | apply Since.alloc)⟩
    simp [results, go_sem]
  · have hk' : rttOk a s v h = false := by simpa using hk
    rw [hk'] at ho ⊢
    clear hk hk'
    simp only [Bool.false_eq_true, if_false]
    unfold rttVal
    go_enter Try.func16, Try.ntmps16
    go_wp2_with (go_at_call 14; refine (ho _).mono ?_; rintro _ _ ⟨rfl, rfl⟩)
    refine bodyPost_ret (v := .agg #[.bool false, .int .i64 0, .int .i64 0, .int .i64 0]) ?_ rfl ⟨rfl, by repeat (first | exact Since.refl _ | apply Since.drew | apply Since.alloc)⟩
    simp [results, go_sem]
end Go.Proofs.Ytppmanjeeffddaa
