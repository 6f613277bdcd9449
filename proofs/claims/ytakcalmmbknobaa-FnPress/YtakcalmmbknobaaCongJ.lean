/-
  Contracts of impl's methods over what may be under way while a loss is mended, and where the same is confirmed once more.
-/
import Derived.Test.YtakcalmmbknobaaCong
namespace Go.Proofs.Ytakcalmmbknobaa
open Go.ChangeShapes Go.WideShapes Go.ChangeAt Go.RowKit
set_option linter.unusedVariables false

theorem ackedMending (x t d : Int) (f : Bool) (r n b s : Int) (hr : IsWord r) (hb : IsWord b) (hd : IsDist r b s) (h0 : 100 ≤ x) (h1 : x ≤ 8000) (h2 : 0 ≤ n) (h3 : n ≤ 8000) (h4 : 200 ≤ t) (h5 : t ≤ 8000) (w : World) :
    Calls Try.prog 39 #[congVal x t d f r, .int .i64 n, .int .u32 b] w fun e w' => e = .returned (.tuple #[congVal (if decide (0 ≤ s) then t else min (max (x - n + 100) 100) 8000) t (if decide (0 ≤ s) then 0 else d) (if decide (0 ≤ s) then false else f) r, .bool (!decide (0 ≤ s))]) ∧ Since w w' := by
  have hl := fun wx => implLessEq r b s hr hb hd wx
  clear hd
  generalize decide (0 ≤ s) = le at hl ⊢
  cases le
  · simp only [Bool.false_eq_true, if_false, Bool.not_false]
    have hs := fun wx => implSized x t d f r (x - n + 100) wx
    generalize min (max (x - n + 100) 100) 8000 = m at hs ⊢
    unfold congVal at *
    go_enter Try.func39, Try.ntmps39
    go_wp2_with (first | (go_at_call 45; refine (hl _).mono ?_; rintro _ _ ⟨rfl, rfl⟩) | (go_at_call 44; refine (hs _).mono ?_; rintro _ _ ⟨rfl, y, z, rfl⟩))
    refine bodyPost_ret (v := .tuple #[.agg #[.int .i64 m, .int .i64 t, .int .i64 d, .bool f, .int .u32 r], .bool true]) ?_ rfl ⟨rfl, by repeat (first | exact Since.refl _ | apply Since.drew | apply Since.alloc)⟩
    simp [results, go_sem]
  · simp only [if_true, Bool.not_true]
    have hs := fun wx => implSized x t 0 false r t wx
    rw [show min (max t 100) 8000 = t by omega] at hs
    unfold congVal at *
    go_enter Try.func39, Try.ntmps39
    go_wp2_with (first | (go_at_call 45; refine (hl _).mono ?_; rintro _ _ ⟨rfl, rfl⟩) | (go_at_call 44; refine (hs _).mono ?_; rintro _ _ ⟨rfl, y, z, rfl⟩))
    refine bodyPost_ret (v := .tuple #[.agg #[.int .i64 t, .int .i64 t, .int .i64 0, .bool false, .int .u32 r], .bool false]) ?_ rfl ⟨rfl, by repeat (first | exact Since.refl _ | apply Since.drew | apply Since.alloc)⟩
    simp [results, go_sem]

theorem dupedMending (x t d : Int) (f : Bool) (r n b : Int) (h0 : 100 ≤ x) (h1 : x ≤ 8000) (w : World) :
    Calls Try.prog 40 #[congVal x t d f r, .int .i64 n, .int .u32 b] w fun e w' => e = .returned (.tuple #[congVal (min (x + 100) 8000) t d f r, .bool false]) ∧ Since w w' := by
  have hs := fun wx => implSized x t d f r (x + 100) wx
  rw [show min (max (x + 100) 100) 8000 = min (x + 100) 8000 by omega] at hs
  generalize min (x + 100) 8000 = m at hs ⊢
  unfold congVal at *
  go_enter Try.func40, Try.ntmps40
  go_wp2_with (go_at_call 44; refine (hs _).mono ?_; rintro _ _ ⟨rfl, y, z, rfl⟩)
  refine bodyPost_ret (v := .tuple #[.agg #[.int .i64 m, .int .i64 t, .int .i64 d, .bool f, .int .u32 r], .bool false]) ?_ rfl ⟨rfl, by repeat (first | exact Since.refl _ | apply Since.drew | apply Since.alloc)⟩
  simp [results, go_sem]

theorem dupedThird (x t d : Int) (f : Bool) (r n b : Int) (h2 : 0 ≤ n) (h3 : n ≤ 8000) (h4 : d = 2) (w : World) :
    Calls Try.prog 37 #[congVal x t d f r, .int .i64 n, .int .u32 b] w fun e w' => e = .returned (.tuple #[congVal (max (n / 2) 200 + 300) (max (n / 2) 200) 3 true b, .bool true]) ∧ Since w w' := by
  have hh := fun wx => implHalved n h2 h3 wx
  have hs := fun wx => implSized x (max (n / 2) 200) 3 true b (max (n / 2) 200 + 300) wx
  rw [show min (max (max (n / 2) 200 + 300) 100) 8000 = max (n / 2) 200 + 300 by omega] at hs
  have m0 : 200 ≤ max (n / 2) 200 := by omega
  have m1 : max (n / 2) 200 ≤ 4000 := by omega
  generalize max (n / 2) 200 = m at hs hh m0 m1 ⊢
  subst h4
  unfold congVal at *
  go_enter Try.func37, Try.ntmps37
  go_wp2_with (first | (go_at_call 30; refine (hh _).mono ?_; rintro _ _ ⟨rfl, rfl⟩) | (go_at_call 44; refine (hs _).mono ?_; rintro _ _ ⟨rfl, y, z, rfl⟩))
  refine bodyPost_ret (v := .tuple #[.agg #[.int .i64 (m + 300), .int .i64 m, .int .i64 3, .bool true, .int .u32 b], .bool true]) ?_ rfl ⟨rfl, by repeat (first | exact Since.refl _ | apply Since.drew | apply Since.alloc)⟩
  simp [results, go_sem]

theorem dupedOther (x t d : Int) (f : Bool) (r n b : Int) (h2 : 0 ≤ d) (h3 : d ≤ 1000000) (h4 : ¬ d = 2) (w : World) :
    Calls Try.prog 37 #[congVal x t d f r, .int .i64 n, .int .u32 b] w fun e w' => e = .returned (.tuple #[congVal x t (min (d + 1) 1000000) f r, .bool false]) ∧ Since w w' := by
  unfold congVal
  by_cases hd : d < 1000000
  · rw [show min (d + 1) 1000000 = d + 1 by omega]
    have h5 : ¬ d + 1 = 3 := by omega
    go_enter Try.func37, Try.ntmps37
    go_wp2
    refine bodyPost_ret (v := .tuple #[.agg #[.int .i64 x, .int .i64 t, .int .i64 (d + 1), .bool f, .int .u32 r], .bool false]) ?_ rfl ⟨rfl, by repeat (first | exact Since.refl _ | apply Since.drew | apply Since.alloc)⟩
    simp [results, go_sem]
  · rw [show min (d + 1) 1000000 = 1000000 by omega]
    go_enter Try.func37, Try.ntmps37
    go_wp2
    refine bodyPost_ret (v := .tuple #[.agg #[.int .i64 x, .int .i64 t, .int .i64 1000000, .bool f, .int .u32 r], .bool false]) ?_ rfl ⟨rfl, by repeat (first | exact Since.refl _ | apply Since.drew | apply Since.alloc)⟩
    simp [results, go_sem]

end Go.Proofs.Ytakcalmmbknobaa
