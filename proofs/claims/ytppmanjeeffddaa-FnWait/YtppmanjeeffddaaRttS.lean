/-
  Contracts of spec's RttSample, RttBack and RttWait, at every wait.
-/
import Derived.Test.YtppmanjeeffddaaRttW
namespace Go.Proofs.Ytppmanjeeffddaa
open Go.ChangeShapes Go.WideShapes Go.ChangeAt Go.RowKit
set_option linter.unusedVariables false

theorem specSample (a : Bool) (s v d r : Int) (w : World) :
    Calls Try.prog 19 #[rttVal a s v d, .int .i64 r] w fun e w' => e = .returned (if rttOk a s v d && decide (0 ≤ r ∧ r ≤ 100000) then rttVal true (sampleS a s r) (sampleV a s v r) 0 else rttVal false 0 0 0) ∧ Since w w' := by
  have ho := fun wx => specRttOk a s v d wx
  have hs := fun wx => specIn r 0 100000 wx
  unfold rttVal at ho
  by_cases hk : rttOk a s v d = true
  · have hb := ok_bounds hk
    rw [hk] at ho ⊢
    by_cases hr : 0 ≤ r ∧ r ≤ 100000
    · have hd : decide (0 ≤ r ∧ r ≤ 100000) = true := by simp [hr]
      rw [hd] at hs ⊢
      simp only [Bool.and_self, if_true]
      obtain ⟨b1, b2, b3, b4, b5, b6, -⟩ := hb
      obtain ⟨r1, r2⟩ := hr
      clear hd hk
      unfold sampleS sampleV
      cases a
      · unfold rttVal
        simp only [Bool.false_eq_true, if_false]
        go_enter Try.func19, Try.ntmps19
        go_wp2_with (first | (go_at_call 17; refine (ho _).mono ?_; rintro _ _ ⟨rfl, rfl⟩) | (go_at_call 39; refine (hs _).mono ?_; rintro _ _ ⟨rfl, rfl⟩))
        refine bodyPost_ret (v := .agg #[.bool true, .int .i64 (8 * r), .int .i64 (2 * r), .int .i64 0]) ?_ rfl ⟨rfl, by repeat (first | exact Since.refl _ | apply Since.drew | apply Since.alloc)⟩
        simp [results, go_sem]
      · simp only [if_true]
        unfold rttVal
        by_cases hn : r - s / 8 < 0
        · have hx : v + (max (r - s / 8) (-(r - s / 8)) - v / 4) = v + -(r - s / 8) - v / 4 := by omega
          rw [hx]
          clear hx
          go_enter Try.func19, Try.ntmps19
          go_wp2_with (first | (go_at_call 17; refine (ho _).mono ?_; rintro _ _ ⟨rfl, rfl⟩) | (go_at_call 39; refine (hs _).mono ?_; rintro _ _ ⟨rfl, rfl⟩))
          refine bodyPost_ret (v := .agg #[.bool true, .int .i64 (s + (r - s / 8)), .int .i64 (v + -(r - s / 8) - v / 4), .int .i64 0]) ?_ rfl ⟨rfl, by repeat (first | exact Since.refl _ | apply Since.drew | apply Since.alloc)⟩
          simp [results, go_sem]
        · have hx : v + (max (r - s / 8) (-(r - s / 8)) - v / 4) = v + (r - s / 8) - v / 4 := by omega
          rw [hx]
          clear hx
          go_enter Try.func19, Try.ntmps19
          go_wp2_with (first | (go_at_call 17; refine (ho _).mono ?_; rintro _ _ ⟨rfl, rfl⟩) | (go_at_call 39; refine (hs _).mono ?_; rintro _ _ ⟨rfl, rfl⟩))
          refine bodyPost_ret (v := .agg #[.bool true, .int .i64 (s + (r - s / 8)), .int .i64 (v + (r - s / 8) - v / 4), .int .i64 0]) ?_ rfl ⟨rfl, by repeat (first | exact Since.refl _ | apply Since.drew | apply Since.alloc)⟩
          simp [results, go_sem]
    · have hd : decide (0 ≤ r ∧ r ≤ 100000) = false := by simp [hr]
      rw [hd] at hs ⊢
      clear hb hd hk hr
      simp only [Bool.and_false, Bool.false_eq_true, if_false]
      unfold rttVal
      go_enter Try.func19, Try.ntmps19
      go_wp2_with (first | (go_at_call 17; refine (ho _).mono ?_; rintro _ _ ⟨rfl, rfl⟩) | (go_at_call 39; refine (hs _).mono ?_; rintro _ _ ⟨rfl, rfl⟩))
      refine bodyPost_ret (v := .agg #[.bool false, .int .i64 0, .int .i64 0, .int .i64 0]) ?_ rfl ⟨rfl, by repeat (first | exact Since.refl _ | apply Since.drew | apply Since.alloc)⟩
      simp [results, go_sem]
  · have hk' : rttOk a s v d = false := by simpa using hk
    rw [hk'] at ho ⊢
    clear hk hk'
    simp only [Bool.false_and, Bool.false_eq_true, if_false]
    unfold rttVal
    go_enter Try.func19, Try.ntmps19
    go_wp2_with (go_at_call 17; refine (ho _).mono ?_; rintro _ _ ⟨rfl, rfl⟩)
    refine bodyPost_ret (v := .agg #[.bool false, .int .i64 0, .int .i64 0, .int .i64 0]) ?_ rfl ⟨rfl, by repeat (first | exact Since.refl _ | apply Since.drew | apply Since.alloc)⟩
    simp [results, go_sem]

theorem specBack (a : Bool) (s v d : Int) (w : World) :
    Calls Try.prog 21 #[rttVal a s v d] w fun e w' => e = .returned (if rttOk a s v d then rttVal a s v (min (d + 1) 8) else rttVal false 0 0 0) ∧ Since w w' := by
  have ho := fun wx => specRttOk a s v d wx
  unfold rttVal at ho
  by_cases hk : rttOk a s v d = true
  · obtain ⟨b1, b2, b3, b4, b5, b6, -⟩ := ok_bounds hk
    rw [hk] at ho ⊢
    simp only [if_true]
    unfold rttVal
    clear hk
    by_cases hn : d < 8
    · rw [show min (d + 1) 8 = d + 1 by omega]
      go_enter Try.func21, Try.ntmps21
      go_wp2_with (go_at_call 17; refine (ho _).mono ?_; rintro _ _ ⟨rfl, rfl⟩)
      refine bodyPost_ret (v := .agg #[.bool a, .int .i64 s, .int .i64 v, .int .i64 (d + 1)]) ?_ rfl ⟨rfl, by repeat (first | exact Since.refl _ | apply Since.drew | apply Since.alloc)⟩
      simp [results, go_sem]
    · rw [show min (d + 1) 8 = d by omega]
      go_enter Try.func21, Try.ntmps21
      go_wp2_with (go_at_call 17; refine (ho _).mono ?_; rintro _ _ ⟨rfl, rfl⟩)
      refine bodyPost_ret (v := .agg #[.bool a, .int .i64 s, .int .i64 v, .int .i64 d]) ?_ rfl ⟨rfl, by repeat (first | exact Since.refl _ | apply Since.drew | apply Since.alloc)⟩
      simp [results, go_sem]
  · have hk' : rttOk a s v d = false := by simpa using hk
    rw [hk'] at ho ⊢
    clear hk hk'
    simp only [Bool.false_eq_true, if_false]
    unfold rttVal
    go_enter Try.func21, Try.ntmps21
    go_wp2_with (go_at_call 17; refine (ho _).mono ?_; rintro _ _ ⟨rfl, rfl⟩)
    refine bodyPost_ret (v := .agg #[.bool false, .int .i64 0, .int .i64 0, .int .i64 0]) ?_ rfl ⟨rfl, by repeat (first | exact Since.refl _ | apply Since.drew | apply Since.alloc)⟩
    simp [results, go_sem]
end Go.Proofs.Ytppmanjeeffddaa
