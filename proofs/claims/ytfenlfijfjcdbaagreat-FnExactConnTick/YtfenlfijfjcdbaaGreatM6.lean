/-
  Contracts of impl's and spec's RttOk and of the laws' copying of a wait, at every wait.
  Contracts of impl's and spec's SeqDist, SeqLess, SeqLessEq, SeqMax over those of Seq: at every two words; no condition but that the arguments are words.
  Contracts of impl's and spec's CongOk, CongStart and CongLost, of impl's small methods over what may be under way, of spec's clipping, and of the laws' copying, at every value.
-/
import Derived.Test.YtfenlfijfjcdbaaGreatM1
namespace Go.Proofs.YtfenlfijfjcdbaaGreat
open Go.ChangeShapes Go.WideShapes Go.ChangeAt Go.RowKit
set_option linter.unusedVariables false
set_option maxRecDepth 10000

def rttVal (a : Bool) (s v h : Int) : Value := .agg #[.bool a, .int .i64 s, .int .i64 v, .int .i64 h]

def rttOk (a : Bool) (s v h : Int) : Bool := decide (0 ≤ s ∧ s ≤ 800000) && (decide (0 ≤ v ∧ v ≤ 400000) && (decide (0 ≤ h ∧ h ≤ 8) && (a || (decide (s = 0) && decide (v = 0)))))

theorem implRttOk (a : Bool) (s v h : Int) (w : World) :
    Calls Tryz.prog 79 #[rttVal a s v h] w fun e w' => e = .returned (.bool (rttOk a s v h)) ∧ w' = w.alloc (.cells #[.bool a, .int .i64 s, .int .i64 v, .int .i64 h] 39) := by
  unfold rttVal
  go_enter Tryz.func79, Tryz.ntmps79
  go_wp2
  all_goals go_ret
  all_goals refine ⟨ret_bool ?_, by first | rfl | simp [*]⟩
  all_goals rw [Bool.eq_iff_iff]
  all_goals simp [rttOk, *]
  all_goals omega

theorem specRttOk (a : Bool) (s v h : Int) (w : World) :
    Calls Tryz.prog 50 #[rttVal a s v h] w fun e w' => e = .returned (.bool (rttOk a s v h)) ∧ w' = w.alloc (.cells #[.bool a, .int .i64 s, .int .i64 v, .int .i64 h] 39) := by
  unfold rttVal rttOk
  have i1 := fun wx => specIn s 0 800000 wx
  have i2 := fun wx => specIn v 0 400000 wx
  have i3 := fun wx => specIn h 0 8 wx
  generalize decide (0 ≤ s ∧ s ≤ 800000) = b1 at i1 ⊢
  generalize decide (0 ≤ v ∧ v ≤ 400000) = b2 at i2 ⊢
  generalize decide (0 ≤ h ∧ h ≤ 8) = b3 at i3 ⊢
  go_enter Tryz.func50, Tryz.ntmps50
  cases b1
  · go_wp2_with (go_at_call 18; refine (i1 _).mono ?_; clear i1; rintro _ _ ⟨rfl, rfl⟩)
    go_ret
    exact ⟨rfl, rfl⟩
  cases b2
  · go_wp2_with (first | (go_at_call 18; refine (i1 _).mono ?_; clear i1; rintro _ _ ⟨rfl, rfl⟩) | (go_at_call 18; refine (i2 _).mono ?_; rintro _ _ ⟨rfl, rfl⟩))
    go_ret
    exact ⟨rfl, rfl⟩
  go_wp2_with (first | (go_at_call 18; refine (i1 _).mono ?_; clear i1; rintro _ _ ⟨rfl, rfl⟩) | (go_at_call 18; refine (i2 _).mono ?_; clear i2; rintro _ _ ⟨rfl, rfl⟩) | (go_at_call 18; refine (i3 _).mono ?_; clear i3; rintro _ _ ⟨rfl, rfl⟩))
  all_goals go_ret
  all_goals refine ⟨ret_bool ?_, by first | rfl | simp [*]⟩
  all_goals rw [Bool.eq_iff_iff]
  all_goals simp_all

theorem toRtt (a : Bool) (s v h : Int) (w : World) :
    Calls Tryz.prog 32 #[rttVal a s v h] w fun e w' => e = .returned (rttVal a s v h) ∧ Since w w' := by
  unfold rttVal
  go_enter Tryz.func32, Tryz.ntmps32
  go_wp2
  refine bodyPost_ret (v := .agg #[.bool a, .int .i64 s, .int .i64 v, .int .i64 h]) ?_ rfl ⟨rfl, by repeat (first | exact Since.refl _ | apply Since.drew | apply Since.alloc)⟩
  simp [results, go_sem]

theorem eqRtt (a : Bool) (s v h : Int) (w : World) :
    Calls Tryz.prog 40 #[rttVal a s v h, rttVal a s v h] w fun e w' => e = .returned (.bool true) ∧ Since w w' := by
  unfold rttVal
  go_enter Tryz.func40, Tryz.ntmps40
  go_wp2
  go_ret
  exact ⟨rfl, by repeat (first | exact Since.refl _ | apply Since.drew | apply Since.alloc)⟩

theorem ok_bounds {a : Bool} {s v h : Int} (k : rttOk a s v h = true) : 0 ≤ s ∧ s ≤ 800000 ∧ 0 ≤ v ∧ v ≤ 400000 ∧ 0 ≤ h ∧ h ≤ 8 ∧ (a = true ∨ s = 0 ∧ v = 0) := by
  simp [rttOk] at k
  obtain ⟨⟨k1, k2⟩, ⟨k3, k4⟩, ⟨k5, k6⟩, k7⟩ := k
  exact ⟨k1, k2, k3, k4, k5, k6, k7⟩
end Go.Proofs.YtfenlfijfjcdbaaGreat

namespace Go.Proofs.YtfenlfijfjcdbaaGreat
open Go.ChangeShapes Go.WideShapes Go.ChangeAt Go.RowKit
set_option linter.unusedVariables false
set_option maxRecDepth 10000

theorem implDist (a b d : Int) (ha : IsWord a) (hb : IsWord b) (hd : IsDist a b d) (w : World) :
    Calls Tryz.prog 81 #[.int .u32 a, .int .u32 b] w fun e w' => e = .returned (.int .i64 d) ∧ w = w' := by
  go_enter Tryz.func81, Tryz.ntmps81
  go_wp2_with (go_at_call 101; refine (distTo a b d ha hb hd _).mono ?_; rintro _ _ ⟨rfl, rfl⟩)
  go_ret
  exact ⟨rfl, rfl⟩

theorem less (a b d : Int) (ha : IsWord a) (hb : IsWord b) (hd : IsDist a b d) (w : World) :
    Calls Tryz.prog 114 #[.int .u32 a, .int .u32 b] w fun e w' => e = .returned (.bool (decide (0 < d))) ∧ w = w' := by
  go_enter Tryz.func114, Tryz.ntmps114
  go_wp2_with (go_at_call 101; refine (distTo a b d ha hb hd _).mono ?_; rintro _ _ ⟨rfl, rfl⟩)
  go_ret
  exact ⟨rfl, rfl⟩

theorem implLess (a b d : Int) (ha : IsWord a) (hb : IsWord b) (hd : IsDist a b d) (w : World) :
    Calls Tryz.prog 102 #[.int .u32 a, .int .u32 b] w fun e w' => e = .returned (.bool (decide (0 < d))) ∧ w = w' := by
  go_enter Tryz.func102, Tryz.ntmps102
  go_wp2_with (go_at_call 114; refine (less a b d ha hb hd _).mono ?_; rintro _ _ ⟨rfl, rfl⟩)
  go_ret
  exact ⟨rfl, rfl⟩

theorem specLess (a b d : Int) (ha : IsWord a) (hb : IsWord b) (hd : IsDist a b d) (w : World) :
    Calls Tryz.prog 53 #[.int .u32 a, .int .u32 b] w fun e w' => e = .returned (.bool (decide (0 < d))) ∧ w = w' := by
  go_enter Tryz.func53, Tryz.ntmps53
  go_wp2_with (go_at_call 27; refine (specDist a b d ha hb hd _).mono ?_; rintro _ _ ⟨rfl, rfl⟩)
  go_ret
  exact ⟨rfl, rfl⟩

theorem implLessEq (a b d : Int) (ha : IsWord a) (hb : IsWord b) (hd : IsDist a b d) (w : World) :
    Calls Tryz.prog 82 #[.int .u32 a, .int .u32 b] w fun e w' => e = .returned (.bool (decide (0 ≤ d))) ∧ w = w' := by
  by_cases h : a = b
  · have hp : decide (0 ≤ d) = true := by
      obtain ⟨h1, h2, h3⟩ := hd
      simp
      omega
    have he : (a == b) = true := by simpa using h
    go_enter Tryz.func82, Tryz.ntmps82
    go_wp2
    go_ret
    rw [hp]
    exact ⟨rfl, rfl⟩
  · have he : (a == b) = false := by simpa using h
    go_enter Tryz.func82, Tryz.ntmps82
    go_wp2_with (go_at_call 102; refine (implLess a b d ha hb hd _).mono ?_; rintro _ _ ⟨rfl, rfl⟩)
    go_ret
    have hp : decide (0 < d) = decide (0 ≤ d) := by
      obtain ⟨h1, h2, h3⟩ := hd
      obtain ⟨h4, h5⟩ := ha
      obtain ⟨h6, h7⟩ := hb
      simp
      omega
    rw [← hp]
    exact ⟨rfl, rfl⟩

theorem specLessEq (a b d : Int) (ha : IsWord a) (hb : IsWord b) (hd : IsDist a b d) (w : World) :
    Calls Tryz.prog 52 #[.int .u32 a, .int .u32 b] w fun e w' => e = .returned (.bool (decide (0 ≤ d))) ∧ w = w' := by
  by_cases h : a = b
  · have hp : decide (0 ≤ d) = true := by
      obtain ⟨h1, h2, h3⟩ := hd
      simp
      omega
    have he : (a == b) = true := by simpa using h
    go_enter Tryz.func52, Tryz.ntmps52
    go_wp2
    go_ret
    rw [hp]
    exact ⟨rfl, rfl⟩
  · have he : (a == b) = false := by simpa using h
    go_enter Tryz.func52, Tryz.ntmps52
    go_wp2_with (go_at_call 53; refine (specLess a b d ha hb hd _).mono ?_; rintro _ _ ⟨rfl, rfl⟩)
    go_ret
    have hp : decide (0 < d) = decide (0 ≤ d) := by
      obtain ⟨h1, h2, h3⟩ := hd
      obtain ⟨h4, h5⟩ := ha
      obtain ⟨h6, h7⟩ := hb
      simp
      omega
    rw [← hp]
    exact ⟨rfl, rfl⟩

theorem implMax (a b d : Int) (ha : IsWord a) (hb : IsWord b) (hd : IsDist a b d) (w : World) :
    Calls Tryz.prog 87 #[.int .u32 a, .int .u32 b] w fun e w' => e = .returned (.int .u32 (if 0 < d then b else a)) ∧ w = w' := by
  by_cases h : 0 < d
  · rw [if_pos h]
    go_enter Tryz.func87, Tryz.ntmps87
    go_wp2_with (go_at_call 102; refine (implLess a b d ha hb hd _).mono ?_; rintro _ _ ⟨rfl, rfl⟩)
    go_ret
    exact ⟨rfl, rfl⟩
  · rw [if_neg h]
    go_enter Tryz.func87, Tryz.ntmps87
    go_wp2_with (go_at_call 102; refine (implLess a b d ha hb hd _).mono ?_; rintro _ _ ⟨rfl, rfl⟩)
    go_ret
    exact ⟨rfl, rfl⟩

theorem specMax (a b d : Int) (ha : IsWord a) (hb : IsWord b) (hd : IsDist a b d) (w : World) :
    Calls Tryz.prog 22 #[.int .u32 a, .int .u32 b] w fun e w' => e = .returned (.int .u32 (if 0 < d then b else a)) ∧ w = w' := by
  by_cases h : 0 < d
  · rw [if_pos h]
    go_enter Tryz.func22, Tryz.ntmps22
    go_wp2_with (go_at_call 53; refine (specLess a b d ha hb hd _).mono ?_; rintro _ _ ⟨rfl, rfl⟩)
    go_ret
    exact ⟨rfl, rfl⟩
  · rw [if_neg h]
    go_enter Tryz.func22, Tryz.ntmps22
    go_wp2_with (go_at_call 53; refine (specLess a b d ha hb hd _).mono ?_; rintro _ _ ⟨rfl, rfl⟩)
    go_ret
    exact ⟨rfl, rfl⟩
end Go.Proofs.YtfenlfijfjcdbaaGreat

namespace Go.Proofs.YtfenlfijfjcdbaaGreat
open Go.ChangeShapes Go.WideShapes Go.ChangeAt Go.RowKit
set_option linter.unusedVariables false
set_option maxRecDepth 10000

def congVal (x t d : Int) (f : Bool) (r : Int) : Value := .agg #[.int .i64 x, .int .i64 t, .int .i64 d, .bool f, .int .u32 r]

def congOk (x t d : Int) : Bool := decide (100 ≤ x ∧ x ≤ 8000) && (decide (200 ≤ t ∧ t ≤ 8000) && decide (0 ≤ d ∧ d ≤ 1000000))

theorem implCongOk (x t d : Int) (f : Bool) (r : Int) (w : World) :
    Calls Tryz.prog 80 #[congVal x t d f r] w fun e w' => e = .returned (.bool (congOk x t d)) ∧ w' = w.alloc (.cells #[.int .i64 x, .int .i64 t, .int .i64 d, .bool f, .int .u32 r] 40) := by
  unfold congVal
  go_enter Tryz.func80, Tryz.ntmps80
  go_wp2
  all_goals go_ret
  all_goals refine ⟨ret_bool ?_, by first | rfl | simp [*]⟩
  all_goals rw [Bool.eq_iff_iff]
  all_goals simp [congOk, *]
  all_goals omega

theorem specCongOk (x t d : Int) (f : Bool) (r : Int) (w : World) :
    Calls Tryz.prog 51 #[congVal x t d f r] w fun e w' => e = .returned (.bool (congOk x t d)) ∧ w' = w.alloc (.cells #[.int .i64 x, .int .i64 t, .int .i64 d, .bool f, .int .u32 r] 40) := by
  unfold congVal congOk
  have i1 := fun wx => specIn x 100 8000 wx
  have i2 := fun wx => specIn t 200 8000 wx
  have i3 := fun wx => specIn d 0 1000000 wx
  generalize decide (100 ≤ x ∧ x ≤ 8000) = b1 at i1 ⊢
  generalize decide (200 ≤ t ∧ t ≤ 8000) = b2 at i2 ⊢
  generalize decide (0 ≤ d ∧ d ≤ 1000000) = b3 at i3 ⊢
  go_enter Tryz.func51, Tryz.ntmps51
  cases b1
  · go_wp2_with (go_at_call 18; refine (i1 _).mono ?_; clear i1; rintro _ _ ⟨rfl, rfl⟩)
    go_ret
    exact ⟨rfl, rfl⟩
  cases b2
  · go_wp2_with (first | (go_at_call 18; refine (i1 _).mono ?_; clear i1; rintro _ _ ⟨rfl, rfl⟩) | (go_at_call 18; refine (i2 _).mono ?_; rintro _ _ ⟨rfl, rfl⟩))
    go_ret
    exact ⟨rfl, rfl⟩
  go_wp2_with (first | (go_at_call 18; refine (i1 _).mono ?_; clear i1; rintro _ _ ⟨rfl, rfl⟩) | (go_at_call 18; refine (i2 _).mono ?_; clear i2; rintro _ _ ⟨rfl, rfl⟩) | (go_at_call 18; refine (i3 _).mono ?_; clear i3; rintro _ _ ⟨rfl, rfl⟩))
  all_goals go_ret
  all_goals refine ⟨ret_bool ?_, by first | rfl | simp [*]⟩
  all_goals rw [Bool.eq_iff_iff]
  all_goals simp_all

theorem toCong (x t d : Int) (f : Bool) (r : Int) (w : World) :
    Calls Tryz.prog 33 #[congVal x t d f r] w fun e w' => e = .returned (congVal x t d f r) ∧ Since w w' := by
  unfold congVal
  go_enter Tryz.func33, Tryz.ntmps33
  go_wp2
  refine bodyPost_ret (v := .agg #[.int .i64 x, .int .i64 t, .int .i64 d, .bool f, .int .u32 r]) ?_ rfl ⟨rfl, by repeat (first | exact Since.refl _ | apply Since.drew | apply Since.alloc)⟩
  simp [results, go_sem]

theorem eqCong (x t d : Int) (f : Bool) (r : Int) (w : World) :
    Calls Tryz.prog 41 #[congVal x t d f r, congVal x t d f r] w fun e w' => e = .returned (.bool true) ∧ Since w w' := by
  unfold congVal
  go_enter Tryz.func41, Tryz.ntmps41
  go_wp2
  go_ret
  exact ⟨rfl, by repeat (first | exact Since.refl _ | apply Since.drew | apply Since.alloc)⟩

theorem isUnderWay (n : Int) (w : World) :
    Calls Tryz.prog 110 #[.int .i64 n] w fun e w' => e = .returned (.bool (decide (0 ≤ n ∧ n ≤ 8000))) ∧ w = w' := by
  go_enter Tryz.func110, Tryz.ntmps110
  go_wp2
  all_goals go_ret
  all_goals refine ⟨ret_bool ?_, by first | rfl | simp [*]⟩
  all_goals rw [Bool.eq_iff_iff]
  all_goals simp [*]
  all_goals omega

theorem specClip (x a b : Int) (h : a ≤ b) (w : World) :
    Calls Tryz.prog 26 #[.int .i64 x, .int .i64 a, .int .i64 b] w fun e w' => e = .returned (.int .i64 (min (max x a) b)) ∧ w = w' := by
  go_enter Tryz.func26, Tryz.ntmps26
  go_wp2
  all_goals go_ret
  all_goals exact ⟨ret_int (by omega), rfl⟩

theorem implHalved (n : Int) (h0 : 0 ≤ n) (h1 : n ≤ 8000) (w : World) :
    Calls Tryz.prog 111 #[.int .i64 n] w fun e w' => e = .returned (.int .i64 (max (n / 2) 200)) ∧ w = w' := by
  go_enter Tryz.func111, Tryz.ntmps111
  go_wp2
  all_goals go_ret
  all_goals exact ⟨ret_int (by omega), rfl⟩

def lostOf (k : Bool) (x t d : Int) (f : Bool) (r n : Int) : Value := if k then congVal 100 (max (n / 2) 200) 0 false 0 else congVal x t d f r

theorem implLost (x t d : Int) (f : Bool) (r n : Int) (w : World) :
    Calls Tryz.prog 90 #[congVal x t d f r, .int .i64 n] w fun e w' => e = .returned (lostOf (congOk x t d && decide (0 ≤ n ∧ n ≤ 8000)) x t d f r n) ∧ Since w w' := by
  have ho := fun wx => implCongOk x t d f r wx
  have hu := fun wx => isUnderWay n wx
  generalize congOk x t d = k at ho ⊢
  unfold lostOf congVal at *
  cases k
  · simp only [Bool.false_and, Bool.false_eq_true, if_false]
    clear hu
    go_enter Tryz.func90, Tryz.ntmps90
    go_wp2_with (go_at_call 80; refine (ho _).mono ?_; rintro _ _ ⟨rfl, rfl⟩)
    refine bodyPost_ret (v := .agg #[.int .i64 x, .int .i64 t, .int .i64 d, .bool f, .int .u32 r]) ?_ rfl ⟨rfl, by repeat (first | exact Since.refl _ | apply Since.drew | apply Since.alloc)⟩
    simp [results, go_sem]
  by_cases hn : 0 ≤ n ∧ n ≤ 8000
  · have hh := fun wx => implHalved n hn.1 hn.2 wx
    have hd : decide (0 ≤ n ∧ n ≤ 8000) = true := by simp [hn]
    rw [hd] at hu ⊢
    clear hd hn
    simp only [Bool.and_self, if_true]
    generalize max (n / 2) 200 = m at hh ⊢
    go_enter Tryz.func90, Tryz.ntmps90
    go_wp2_with (first | (go_at_call 80; refine (ho _).mono ?_; rintro _ _ ⟨rfl, rfl⟩) | (go_at_call 110; refine (hu _).mono ?_; rintro _ _ ⟨rfl, rfl⟩) | (go_at_call 111; refine (hh _).mono ?_; rintro _ _ ⟨rfl, rfl⟩))
    refine bodyPost_ret (v := .agg #[.int .i64 100, .int .i64 m, .int .i64 0, .bool false, .int .u32 0]) ?_ rfl ⟨rfl, by repeat (first | exact Since.refl _ | apply Since.drew | apply Since.alloc)⟩
    simp [results, go_sem]
  · have hd : decide (0 ≤ n ∧ n ≤ 8000) = false := by simp [hn]
    rw [hd] at hu ⊢
    clear hd hn
    simp only [Bool.and_false, Bool.false_eq_true, if_false]
    go_enter Tryz.func90, Tryz.ntmps90
    go_wp2_with (first | (go_at_call 80; refine (ho _).mono ?_; rintro _ _ ⟨rfl, rfl⟩) | (go_at_call 110; refine (hu _).mono ?_; rintro _ _ ⟨rfl, rfl⟩))
    refine bodyPost_ret (v := .agg #[.int .i64 x, .int .i64 t, .int .i64 d, .bool f, .int .u32 r]) ?_ rfl ⟨rfl, by repeat (first | exact Since.refl _ | apply Since.drew | apply Since.alloc)⟩
    simp [results, go_sem]

theorem specLost (x t d : Int) (f : Bool) (r n : Int) (w : World) :
    Calls Tryz.prog 25 #[congVal x t d f r, .int .i64 n] w fun e w' => e = .returned (lostOf (congOk x t d && decide (0 ≤ n ∧ n ≤ 8000)) x t d f r n) ∧ Since w w' := by
  have ho := fun wx => specCongOk x t d f r wx
  have hu := fun wx => specIn n 0 8000 wx
  generalize congOk x t d = k at ho ⊢
  unfold lostOf congVal at *
  cases k
  · simp only [Bool.false_and, Bool.false_eq_true, if_false]
    clear hu
    go_enter Tryz.func25, Tryz.ntmps25
    go_wp2_with (go_at_call 51; refine (ho _).mono ?_; rintro _ _ ⟨rfl, rfl⟩)
    refine bodyPost_ret (v := .agg #[.int .i64 x, .int .i64 t, .int .i64 d, .bool f, .int .u32 r]) ?_ rfl ⟨rfl, by repeat (first | exact Since.refl _ | apply Since.drew | apply Since.alloc)⟩
    simp [results, go_sem]
  by_cases hn : 0 ≤ n ∧ n ≤ 8000
  · have hh := fun wx => specClip (n / 2) 200 8000 (by omega) wx
    rw [show min (max (n / 2) 200) 8000 = max (n / 2) 200 by omega] at hh
    have hd : decide (0 ≤ n ∧ n ≤ 8000) = true := by simp [hn]
    rw [hd] at hu ⊢
    obtain ⟨n0, n1⟩ := hn
    clear hd
    simp only [Bool.and_self, if_true]
    generalize max (n / 2) 200 = m at hh ⊢
    go_enter Tryz.func25, Tryz.ntmps25
    go_wp2_with (first | (go_at_call 51; refine (ho _).mono ?_; rintro _ _ ⟨rfl, rfl⟩) | (go_at_call 18; refine (hu _).mono ?_; rintro _ _ ⟨rfl, rfl⟩) | (go_at_call 26; refine (hh _).mono ?_; rintro _ _ ⟨rfl, rfl⟩))
    refine bodyPost_ret (v := .agg #[.int .i64 100, .int .i64 m, .int .i64 0, .bool false, .int .u32 0]) ?_ rfl ⟨rfl, by repeat (first | exact Since.refl _ | apply Since.drew | apply Since.alloc)⟩
    simp [results, go_sem]
  · have hd : decide (0 ≤ n ∧ n ≤ 8000) = false := by simp [hn]
    rw [hd] at hu ⊢
    clear hd hn
    simp only [Bool.and_false, Bool.false_eq_true, if_false]
    go_enter Tryz.func25, Tryz.ntmps25
    go_wp2_with (first | (go_at_call 51; refine (ho _).mono ?_; rintro _ _ ⟨rfl, rfl⟩) | (go_at_call 18; refine (hu _).mono ?_; rintro _ _ ⟨rfl, rfl⟩))
    refine bodyPost_ret (v := .agg #[.int .i64 x, .int .i64 t, .int .i64 d, .bool f, .int .u32 r]) ?_ rfl ⟨rfl, by repeat (first | exact Since.refl _ | apply Since.drew | apply Since.alloc)⟩
    simp [results, go_sem]
end Go.Proofs.YtfenlfijfjcdbaaGreat
