/-
  Contracts of impl's and spec's SegOk and SegSpan, at every segment.
-/
import Derived.Test.YtigjppamjfnmcaaM2
namespace Go.Proofs.Ytigjppamjfnmcaa
open Go.ChangeShapes Go.WideShapes Go.ChangeAt Go.RowKit
set_option linter.unusedVariables false

set_option maxHeartbeats 1000000 in
theorem implSegOk (fr to sq ak fl wn ms : Int) (d : ByteArray) (hf : IsInt fl) (w : World) :
    Calls Try.prog 41 #[segVal fr to sq ak fl wn ms d] w fun e w' => e = .returned (.bool (segOk fr to fl wn ms d)) ∧ Since w w' := by
  have i1 := fun wx => isPort fr wx
  have i2 := fun wx => isPort to wx
  have i4 := fun wx => isHalf wn wx
  have i5 := fun wx => mssOk fr to sq ak fl wn ms d hf wx
  unfold segVal at i5 ⊢
  unfold segOk
  have G := Since.refl (w.alloc (.cells #[.int .i64 fr, .int .i64 to, .int .u32 sq, .int .u32 ak, .int .i64 fl, .int .i64 wn, .int .i64 ms, .string d] 28))
  have e6 : decide (d.size ≤ 536) = decide ((d.size : Int) ≤ 536) := by simp; omega
  rw [e6]
  clear e6
  generalize decide (1 ≤ fr ∧ fr ≤ 65535) = b1 at i1 ⊢
  generalize decide (1 ≤ to ∧ to ≤ 65535) = b2 at i2 ⊢
  generalize decide (0 ≤ wn ∧ wn ≤ 65535) = b4 at i4 ⊢
  generalize mssFits fl ms = b5 at i5 ⊢
  cases b1
  · go_enter Try.func41, Try.ntmps41
    go_wp2_with (first | (go_at_call 57; refine (i1 _).mono ?_; clear i1; rintro _ _ ⟨rfl, rfl⟩))
    go_ret
    exact ⟨rfl, ((Since.refl _).alloc _).trans G⟩
  cases b2
  · go_enter Try.func41, Try.ntmps41
    go_wp2_with (first | (go_at_call 57; refine (i1 _).mono ?_; clear i1; rintro _ _ ⟨rfl, rfl⟩) | (go_at_call 57; refine (i2 _).mono ?_; clear i2; rintro _ _ ⟨rfl, rfl⟩))
    go_ret
    exact ⟨rfl, ((Since.refl _).alloc _).trans G⟩
  by_cases h0 : 0 ≤ fl
  case neg =>
    rw [show decide (0 ≤ fl ∧ fl ≤ 31) = false by simp [h0]]
    go_enter Try.func41, Try.ntmps41
    go_wp2_with (first | (go_at_call 57; refine (i1 _).mono ?_; clear i1; rintro _ _ ⟨rfl, rfl⟩) | (go_at_call 57; refine (i2 _).mono ?_; clear i2; rintro _ _ ⟨rfl, rfl⟩))
    go_ret
    exact ⟨rfl, ((Since.refl _).alloc _).trans G⟩
  by_cases h1 : fl ≤ 31
  case neg =>
    rw [show decide (0 ≤ fl ∧ fl ≤ 31) = false by simp [h1]]
    go_enter Try.func41, Try.ntmps41
    go_wp2_with (first | (go_at_call 57; refine (i1 _).mono ?_; clear i1; rintro _ _ ⟨rfl, rfl⟩) | (go_at_call 57; refine (i2 _).mono ?_; clear i2; rintro _ _ ⟨rfl, rfl⟩))
    go_ret
    exact ⟨rfl, ((Since.refl _).alloc _).trans G⟩
  rw [show decide (0 ≤ fl ∧ fl ≤ 31) = true by simp [h0, h1]]
  cases b4
  · go_enter Try.func41, Try.ntmps41
    go_wp2_with (first | (go_at_call 57; refine (i1 _).mono ?_; clear i1; rintro _ _ ⟨rfl, rfl⟩) | (go_at_call 57; refine (i2 _).mono ?_; clear i2; rintro _ _ ⟨rfl, rfl⟩) | (go_at_call 58; refine (i4 _).mono ?_; rintro _ _ ⟨rfl, rfl⟩))
    go_ret
    exact ⟨rfl, ((Since.refl _).alloc _).trans G⟩
  cases b5
  · go_enter Try.func41, Try.ntmps41
    go_wp2_with (first | (go_at_call 57; refine (i1 _).mono ?_; clear i1; rintro _ _ ⟨rfl, rfl⟩) | (go_at_call 57; refine (i2 _).mono ?_; clear i2; rintro _ _ ⟨rfl, rfl⟩) | (go_at_call 58; refine (i4 _).mono ?_; rintro _ _ ⟨rfl, rfl⟩) | (go_at_call 59; refine (i5 _).mono ?_; rintro _ w5 ⟨rfl, g5⟩; replace G := Since.trans G g5; obtain ⟨C0, C1, C2, C3, C4, C5, C6, C7⟩ := kept8 G))
    go_ret
    exact ⟨rfl, ((Since.refl _).alloc _).trans G⟩
  · go_enter Try.func41, Try.ntmps41
    go_wp2_with (first | (go_at_call 57; refine (i1 _).mono ?_; clear i1; rintro _ _ ⟨rfl, rfl⟩) | (go_at_call 57; refine (i2 _).mono ?_; clear i2; rintro _ _ ⟨rfl, rfl⟩) | (go_at_call 58; refine (i4 _).mono ?_; rintro _ _ ⟨rfl, rfl⟩) | (go_at_call 59; refine (i5 _).mono ?_; rintro _ w5 ⟨rfl, g5⟩; replace G := Since.trans G g5; obtain ⟨C0, C1, C2, C3, C4, C5, C6, C7⟩ := kept8 G))
    go_ret
    exact ⟨rfl, ((Since.refl _).alloc _).trans G⟩

set_option maxHeartbeats 1000000 in
theorem specSegOk (fr to sq ak fl wn ms : Int) (d : ByteArray) (hf : IsInt fl) (w : World) :
    Calls Try.prog 33 #[segVal fr to sq ak fl wn ms d] w fun e w' => e = .returned (.bool (segOk fr to fl wn ms d)) ∧ Since w w' := by
  have hn : ∀ (x : Bool) (w : World), (Op.unary .not (.bool x)).run Try.prog w = .ok (.bool (!x)) w := fun _ _ => rfl
  have i1 := fun wx => specIn fr 1 65535 wx
  have i2 := fun wx => specIn to 1 65535 wx
  have i3 := fun wx => specIn fl 0 31 wx
  have i4 := fun wx => specIn wn 0 65535 wx
  have i8 := fun wx => specIn ms 64 1460 wx
  unfold segVal
  unfold segOk
  have G := Since.refl (w.alloc (.cells #[.int .i64 fr, .int .i64 to, .int .u32 sq, .int .u32 ak, .int .i64 fl, .int .i64 wn, .int .i64 ms, .string d] 28))
  generalize decide (1 ≤ fr ∧ fr ≤ 65535) = b1 at i1 ⊢
  generalize decide (1 ≤ to ∧ to ≤ 65535) = b2 at i2 ⊢
  generalize decide (0 ≤ wn ∧ wn ≤ 65535) = b4 at i4 ⊢
  cases b1
  · go_enter Try.func33, Try.ntmps33
    go_wp2_with (first | (go_at_call 56; refine (i1 _).mono ?_; clear i1; rintro _ _ ⟨rfl, rfl⟩))
    go_ret
    exact ⟨rfl, ((Since.refl _).alloc _).trans G⟩
  cases b2
  · go_enter Try.func33, Try.ntmps33
    go_wp2_with (first | (go_at_call 56; refine (i1 _).mono ?_; clear i1; rintro _ _ ⟨rfl, rfl⟩) | (go_at_call 56; refine (i2 _).mono ?_; clear i2; rintro _ _ ⟨rfl, rfl⟩))
    go_ret
    exact ⟨rfl, ((Since.refl _).alloc _).trans G⟩
  by_cases h3 : 0 ≤ fl ∧ fl ≤ 31
  case neg =>
    rw [show decide (0 ≤ fl ∧ fl ≤ 31) = false by simp [h3]] at i3 ⊢
    go_enter Try.func33, Try.ntmps33
    go_wp2_with (first | (go_at_call 56; refine (i1 _).mono ?_; clear i1; rintro _ _ ⟨rfl, rfl⟩) | (go_at_call 56; refine (i2 _).mono ?_; clear i2; rintro _ _ ⟨rfl, rfl⟩) | (go_at_call 56; refine (i3 _).mono ?_; clear i3; rintro _ _ ⟨rfl, rfl⟩))
    go_ret
    exact ⟨rfl, ((Since.refl _).alloc _).trans G⟩
  rw [show decide (0 ≤ fl ∧ fl ≤ 31) = true by simp [h3]] at i3 ⊢
  have i7 := fun wx => specHas fl 2 h3.1 hf (by simp [IsFlag]) wx
  clear h3
  cases b4
  · go_enter Try.func33, Try.ntmps33
    go_wp2_with (first | (go_at_call 56; refine (i1 _).mono ?_; clear i1; rintro _ _ ⟨rfl, rfl⟩) | (go_at_call 56; refine (i2 _).mono ?_; clear i2; rintro _ _ ⟨rfl, rfl⟩) | (go_at_call 56; refine (i3 _).mono ?_; clear i3; rintro _ _ ⟨rfl, rfl⟩) | (go_at_call 56; refine (i4 _).mono ?_; clear i4; rintro _ _ ⟨rfl, rfl⟩))
    go_ret
    exact ⟨rfl, ((Since.refl _).alloc _).trans G⟩
  by_cases h6 : d.size ≤ 536
  case neg =>
    rw [show decide (d.size ≤ 536) = false by simp [h6]]
    have h6' : (536 : Int) < (d.size : Int) := by omega
    rw [show (true && (true && (true && (true && (mssFits fl ms && false))))) = false by simp]
    go_enter Try.func33, Try.ntmps33
    go_wp2_with (first | (go_at_call 56; refine (i1 _).mono ?_; clear i1; rintro _ _ ⟨rfl, rfl⟩) | (go_at_call 56; refine (i2 _).mono ?_; clear i2; rintro _ _ ⟨rfl, rfl⟩) | (go_at_call 56; refine (i3 _).mono ?_; clear i3; rintro _ _ ⟨rfl, rfl⟩) | (go_at_call 56; refine (i4 _).mono ?_; clear i4; rintro _ _ ⟨rfl, rfl⟩))
    go_ret
    exact ⟨rfl, ((Since.refl _).alloc _).trans G⟩
  rw [show decide (d.size ≤ 536) = true by simp [h6]]
  have h6' : ¬ (536 : Int) < (d.size : Int) := by omega
  clear h6
  unfold mssFits
  by_cases h0 : ms = 0
  case pos =>
    subst h0
    go_enter Try.func33, Try.ntmps33
    go_wp2_with (first | (go_at_call 56; refine (i1 _).mono ?_; clear i1; rintro _ _ ⟨rfl, rfl⟩) | (go_at_call 56; refine (i2 _).mono ?_; clear i2; rintro _ _ ⟨rfl, rfl⟩) | (go_at_call 56; refine (i3 _).mono ?_; clear i3; rintro _ _ ⟨rfl, rfl⟩) | (go_at_call 56; refine (i4 _).mono ?_; clear i4; rintro _ _ ⟨rfl, rfl⟩))
    go_ret
    exact ⟨rfl, ((Since.refl _).alloc _).trans G⟩
  rw [show decide (ms = 0) = false by simp [h0]]
  have h0' : (ms == 0) = false := by simp [h0]
  generalize decide (64 ≤ ms ∧ ms ≤ 1460) = b8 at i8 ⊢
  generalize hasF fl 2 = b7 at i7 ⊢
  cases b7
  · go_enter Try.func33, Try.ntmps33
    go_wp2_with (first | (go_at_call 56; refine (i1 _).mono ?_; clear i1; rintro _ _ ⟨rfl, rfl⟩) | (go_at_call 56; refine (i2 _).mono ?_; clear i2; rintro _ _ ⟨rfl, rfl⟩) | (go_at_call 56; refine (i3 _).mono ?_; clear i3; rintro _ _ ⟨rfl, rfl⟩) | (go_at_call 56; refine (i4 _).mono ?_; clear i4; rintro _ _ ⟨rfl, rfl⟩) | (go_at_call 32; refine (i7 _).mono ?_; rintro _ _ ⟨rfl, rfl⟩))
    go_ret
    exact ⟨rfl, ((Since.refl _).alloc _).trans G⟩
  · go_enter Try.func33, Try.ntmps33
    go_wp2_with (first | (go_at_call 56; refine (i1 _).mono ?_; clear i1; rintro _ _ ⟨rfl, rfl⟩) | (go_at_call 56; refine (i2 _).mono ?_; clear i2; rintro _ _ ⟨rfl, rfl⟩) | (go_at_call 56; refine (i3 _).mono ?_; clear i3; rintro _ _ ⟨rfl, rfl⟩) | (go_at_call 56; refine (i4 _).mono ?_; clear i4; rintro _ _ ⟨rfl, rfl⟩) | (go_at_call 32; refine (i7 _).mono ?_; rintro _ _ ⟨rfl, rfl⟩) | (go_at_call 56; refine (i8 _).mono ?_; clear i8; rintro _ _ ⟨rfl, rfl⟩))
    go_ret
    exact ⟨by simp, ((Since.refl _).alloc _).trans G⟩

/-- How many places a segment takes. -/
def spanOf (fl : Int) (n : Int) : Int := n + (if hasF fl 2 = true then 1 else 0) + (if hasF fl 1 = true then 1 else 0)
end Go.Proofs.Ytigjppamjfnmcaa
