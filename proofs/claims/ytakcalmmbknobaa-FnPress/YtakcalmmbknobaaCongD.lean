/-
  What CongAck and CongDup answer, as plain functions, and impl's answers by them.
-/
import Derived.Test.YtakcalmmbknobaaCongBy
namespace Go.Proofs.Ytakcalmmbknobaa
open Go.ChangeShapes Go.WideShapes Go.ChangeAt Go.RowKit
set_option linter.unusedVariables false

/-- What may be under way behind a confirmation of n new bytes: k tells whether the arguments are right, le whether Recover is reached. -/
def ackX (k f le : Bool) (x t n : Int) : Int := if k then (if f then (if le then t else min (max (x - n + 100) 100) 8000) else if x < t then min (x + min n 100) 8000 else min (x + 10000 / x) 8000) else x

/-- How often the same was confirmed then. -/
def ackD (k f le : Bool) (d : Int) : Int := if k then (if f then (if le then 0 else d) else 0) else d

/-- Whether a loss is still mended then. -/
def ackF (k f le : Bool) : Bool := if k then (if f then (if le then false else f) else f) else f

/-- Whether the next ones are to be sent again. -/
def ackB (k f le : Bool) : Bool := k && (f && !le)

/-- All that CongAck answers. -/
def ackVal (k f le : Bool) (x t d r n : Int) : Value := .tuple #[congVal (ackX k f le x t n) t (ackD k f le d) (ackF k f le) r, .bool (ackB k f le)]

theorem ok_both {x t d n : Int} (hk : (congOk x t d && decide (0 ≤ n ∧ n ≤ 8000)) = true) : (100 ≤ x ∧ x ≤ 8000) ∧ (200 ≤ t ∧ t ≤ 8000) ∧ (0 ≤ d ∧ d ≤ 1000000) ∧ 0 ≤ n ∧ n ≤ 8000 := by
  simp only [Bool.and_eq_true, decide_eq_true_eq] at hk
  obtain ⟨h1, h2, h3⟩ := cong_bounds hk.1
  exact ⟨h1, h2, h3, hk.2⟩

theorem implAck (x t d : Int) (f : Bool) (r n b s : Int) (hr : IsWord r) (hb : IsWord b) (hd : IsDist r b s) (w : World) :
    Calls Try.prog 11 #[congVal x t d f r, .int .i64 n, .int .u32 b] w fun e w' => e = .returned (ackVal (congOk x t d && decide (0 ≤ n ∧ n ≤ 8000)) f (decide (0 ≤ s)) x t d r n) ∧ Since w w' := by
  cases hk : (congOk x t d && decide (0 ≤ n ∧ n ≤ 8000))
  · exact implAckNot x t d f r n b hk w
  · obtain ⟨⟨x0, x1⟩, ⟨t0, t1⟩, ⟨d0, d1⟩, n0, n1⟩ := ok_both hk
    cases f
    · by_cases hx : x < t
      · refine (implAckBy x t d false r n b hk _ _ (fun wx => stepsQuick x t d false r rfl hx wx) _ _ _ _ _ _ (fun _ _ => by kernel_rfl) (fun wx => ackedQuickly x t d false r n b x0 x1 n0 n1 wx) w).mono ?_
        rintro _ w' ⟨rfl, g⟩
        refine ⟨?_, g⟩
        simp [ackVal, ackX, ackD, ackF, ackB, hx]
      · refine (implAckBy x t d false r n b hk _ _ (fun wx => stepsSlow x t d false r rfl hx wx) _ _ _ _ _ _ (fun _ _ => by kernel_rfl) (fun wx => ackedSlowly x t d false r n b x0 x1 wx) w).mono ?_
        rintro _ w' ⟨rfl, g⟩
        refine ⟨?_, g⟩
        simp [ackVal, ackX, ackD, ackF, ackB, hx]
    · refine (implAckBy x t d true r n b hk _ _ (fun wx => stepsMend x t d true r rfl wx) _ _ _ _ _ _ (fun _ _ => by kernel_rfl) (fun wx => ackedMending x t d true r n b s hr hb hd x0 x1 n0 n1 t0 t1 wx) w).mono ?_
      rintro _ w' ⟨rfl, g⟩
      refine ⟨?_, g⟩
      generalize decide (0 ≤ s) = le
      cases le <;> simp [ackVal, ackX, ackD, ackF, ackB]

/-- Whether the third that confirms the same tells of a loss. -/
def third (k f : Bool) (d : Int) : Bool := k && (!f && decide (d = 2))

/-- What may be under way then. -/
def dupX (k f : Bool) (x d n : Int) : Int := if k then (if f then min (x + 100) 8000 else if d = 2 then max (n / 2) 200 + 300 else x) else x

/-- From where on it grows slowly then. -/
def dupT (k f : Bool) (t d n : Int) : Int := if third k f d then max (n / 2) 200 else t

/-- How often the same was confirmed then. -/
def dupD (k f : Bool) (d : Int) : Int := if k then (if f then d else min (d + 1) 1000000) else d

/-- Whether a loss is mended then. -/
def dupF (k f : Bool) (d : Int) : Bool := if third k f d then true else f

/-- Until what is confirmed. -/
def dupR (k f : Bool) (d r b : Int) : Int := if third k f d then b else r

/-- All that CongDup answers. -/
def dupVal (k f : Bool) (x t d r n b : Int) : Value := .tuple #[congVal (dupX k f x d n) (dupT k f t d n) (dupD k f d) (dupF k f d) (dupR k f d r b), .bool (third k f d)]

theorem implDup (x t d : Int) (f : Bool) (r n b : Int) (w : World) :
    Calls Try.prog 15 #[congVal x t d f r, .int .i64 n, .int .u32 b] w fun e w' => e = .returned (dupVal (congOk x t d && decide (0 ≤ n ∧ n ≤ 8000)) f x t d r n b) ∧ Since w w' := by
  cases hk : (congOk x t d && decide (0 ≤ n ∧ n ≤ 8000))
  · exact implDupNot x t d f r n b hk w
  · obtain ⟨⟨x0, x1⟩, ⟨t0, t1⟩, ⟨d0, d1⟩, n0, n1⟩ := ok_both hk
    cases f
    · have hst : ∃ p, ∀ wx, Calls Try.prog 28 #[congVal x t d false r] wx fun e w' => e = .returned (.agg #[.func (.func p) #[] #[], .func (.func 37) #[] #[]]) ∧ Since wx w' := by
        by_cases hx : x < t
        · exact ⟨_, fun wx => stepsQuick x t d false r rfl hx wx⟩
        · exact ⟨_, fun wx => stepsSlow x t d false r rfl hx wx⟩
      obtain ⟨p, hst⟩ := hst
      by_cases h2 : d = 2
      · refine (implDupBy x t d false r n b hk _ _ hst _ _ _ _ _ _ (fun _ _ => by kernel_rfl) (fun wx => dupedThird x t d false r n b n0 n1 h2 wx) w).mono ?_
        rintro _ w' ⟨rfl, g⟩
        refine ⟨?_, g⟩
        subst h2
        simp [dupVal, dupX, dupT, dupD, dupF, dupR, third]
        rfl
      · refine (implDupBy x t d false r n b hk _ _ hst _ _ _ _ _ _ (fun _ _ => by kernel_rfl) (fun wx => dupedOther x t d false r n b d0 d1 h2 wx) w).mono ?_
        rintro _ w' ⟨rfl, g⟩
        refine ⟨?_, g⟩
        simp [dupVal, dupX, dupT, dupD, dupF, dupR, third, h2]
    · refine (implDupBy x t d true r n b hk _ _ (fun wx => stepsMend x t d true r rfl wx) _ _ _ _ _ _ (fun _ _ => by kernel_rfl) (fun wx => dupedMending x t d true r n b x0 x1 wx) w).mono ?_
      rintro _ w' ⟨rfl, g⟩
      refine ⟨?_, g⟩
      simp [dupVal, dupX, dupT, dupD, dupF, dupR, third]
end Go.Proofs.Ytakcalmmbknobaa
