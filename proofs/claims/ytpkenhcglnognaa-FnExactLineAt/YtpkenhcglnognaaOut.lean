/-
  Contracts of the laws' functions over buffers of bytes to be sent, and of impl's and spec's OutOk.
-/
import Derived.Test.YtpkenhcglnognaaM1
import Derived.Test.YtpkenhcglnognaaCmp
import Derived.Test.YtpkenhcglnognaaAgg
namespace Go.Proofs.Ytpkenhcglnognaa
open Go.ChangeShapes Go.WideShapes Go.ChangeAt Go.RowKit Go.Deep
set_option linter.unusedVariables false
set_option maxRecDepth 10000

/-- A buffer of bytes to be sent, as a value. -/
def outVal (f : Int) (d : ByteArray) (r : Int) : Value := .agg #[.int .u32 f, .string d, .int .i64 r]

/-- What OutOk answers. -/
def outOk (d : ByteArray) (r : Int) : Bool := decide (1 ≤ r ∧ r ≤ 4096) && decide ((d.size : Int) ≤ r)

theorem toOut (f : Int) (d : ByteArray) (r : Int) (w : World) :
    Calls Try.prog 56 #[outVal f d r] w fun e w' => e = .returned (outVal f d r) ∧ Since w w' := by
  unfold outVal
  go_enter Try.func56, Try.ntmps56
  go_wp2
  refine bodyPost_ret (v := .agg #[.int .u32 f, .string d, .int .i64 r]) ?_ rfl ⟨rfl, by repeat (first | exact Since.refl _ | apply Since.drew | apply Since.alloc)⟩
  simp [results, go_sem]

theorem szOut (f : Int) (d : ByteArray) (r : Int) (l : Int) (hl : 0 ≤ l ∧ l ≤ 1048576) (hd : d.size ≤ 9223372036854775807) (w : World) :
    Calls Try.prog 54 #[outVal f d r, .int .i64 l] w fun e w' => e = .returned (.int .i64 (if (d.size : Int) ≤ l then l - d.size else -1)) ∧ Since w w' := by
  unfold outVal
  by_cases h : (d.size : Int) ≤ l
  · rw [if_pos h]
    go_enter Try.func54, Try.ntmps54
    go_wp2
    go_ret
    exact ⟨rfl, by repeat (first | exact Since.refl _ | apply Since.drew | apply Since.alloc)⟩
  · rw [if_neg h]
    go_enter Try.func54, Try.ntmps54
    go_wp2
    go_ret
    exact ⟨rfl, by repeat (first | exact Since.refl _ | apply Since.drew | apply Since.alloc)⟩

theorem eqOut (f : Int) (d : ByteArray) (r : Int) (w : World) :
    Calls Try.prog 66 #[outVal f d r, outVal f d r] w fun e w' => e = .returned (.bool true) ∧ Since w w' := by
  unfold outVal
  go_enter Try.func66, Try.ntmps66
  go_wp2
  go_ret
  exact ⟨rfl, ((Since.refl _).alloc _).alloc _⟩

theorem isRoom (x : Int) (w : World) :
    Calls Try.prog 36 #[.int .i64 x] w fun e w' => e = .returned (.bool (decide (1 ≤ x ∧ x ≤ 4096))) ∧ w = w' := by
  by_cases h1 : 1 ≤ x
  · have e1 : decide (1 ≤ x ∧ x ≤ 4096) = decide (x ≤ 4096) := by simp [h1]
    rw [e1]
    clear e1
    go_enter Try.func36, Try.ntmps36
    go_wp2
    go_ret
    exact ⟨rfl, rfl⟩
  · have e1 : decide (1 ≤ x ∧ x ≤ 4096) = false := by simp [h1]
    rw [e1]
    clear e1
    go_enter Try.func36, Try.ntmps36
    go_wp2
    go_ret
    exact ⟨rfl, rfl⟩

theorem implOutOk (f : Int) (d : ByteArray) (r : Int) (w : World) :
    Calls Try.prog 60 #[outVal f d r] w fun e w' => e = .returned (.bool (outOk d r)) ∧ Since w w' := by
  unfold outVal outOk
  have i1 := fun wx => isRoom r wx
  generalize decide (1 ≤ r ∧ r ≤ 4096) = b1 at i1 ⊢
  cases b1
  · go_enter Try.func60, Try.ntmps60
    go_wp2_with (go_at_call 36; refine (i1 _).mono ?_; rintro _ _ ⟨rfl, rfl⟩)
    go_ret
    exact ⟨rfl, by repeat (first | exact Since.refl _ | apply Since.drew | apply Since.alloc)⟩
  · go_enter Try.func60, Try.ntmps60
    go_wp2_with (go_at_call 36; refine (i1 _).mono ?_; rintro _ _ ⟨rfl, rfl⟩)
    go_ret
    exact ⟨rfl, by repeat (first | exact Since.refl _ | apply Since.drew | apply Since.alloc)⟩

theorem specOutOk (f : Int) (d : ByteArray) (r : Int) (w : World) :
    Calls Try.prog 28 #[outVal f d r] w fun e w' => e = .returned (.bool (outOk d r)) ∧ Since w w' := by
  unfold outVal outOk
  have i1 := fun wx => specIn r 1 4096 wx
  generalize decide (1 ≤ r ∧ r ≤ 4096) = b1 at i1 ⊢
  cases b1
  · go_enter Try.func28, Try.ntmps28
    go_wp2_with (go_at_call 15; refine (i1 _).mono ?_; rintro _ _ ⟨rfl, rfl⟩)
    go_ret
    exact ⟨rfl, by repeat (first | exact Since.refl _ | apply Since.drew | apply Since.alloc)⟩
  · go_enter Try.func28, Try.ntmps28
    go_wp2_with (go_at_call 15; refine (i1 _).mono ?_; rintro _ _ ⟨rfl, rfl⟩)
    go_ret
    exact ⟨rfl, by repeat (first | exact Since.refl _ | apply Since.drew | apply Since.alloc)⟩
end Go.Proofs.Ytpkenhcglnognaa
