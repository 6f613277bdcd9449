/-
  Contracts of the laws' marking of a list of texts and of their looking for the marks.
-/
import Derived.Test.YtdampggjnmmhfaaRowLaw
namespace Go.Proofs.Ytdampggjnmmhfaa
open Go.ChangeShapes Go.WideShapes Go.ChangeAt Go.RowKit
set_option linter.unusedVariables false

/-- Text j of a list is the mark of k + j. -/
def Marked (k : Int) (n : Nat) (ss : List ByteArray) : Prop := ∀ j, j < n → txt ss j = markOf (k + j)

theorem txt_set_same (ss : List ByteArray) (i : Nat) (s : ByteArray) (h : i < ss.length) : txt (ss.set i s) i = s := by
  simp [txt, List.getD, h]

theorem txt_set_other (ss : List ByteArray) (i j : Nat) (s : ByteArray) (h : i ≠ j) : txt (ss.set i s) j = txt ss j := by
  simp [txt, List.getD, h]

set_option maxHeartbeats 1000000 in
theorem markTexts (B g n cap : Nat) (ss : List ByteArray) (k : Int) (hk0 : 1 ≤ k) (hk1 : k + n ≤ 1073741824) (w : World) (T : Texts w B g n cap ss) :
    Calls Try.prog 27 #[.slice (some ⟨g, 0, none⟩) n cap, .int .i64 k] w fun e w' => e = .returned (.int .i64 (k + n)) ∧ Touch g w w' ∧ ∃ ms, Marked k n ms ∧ Texts w' B g n cap ms := by
  go_enter Try.func27, Try.ntmps27
  go_wp2
  go_loopw [1, 5] (fun q i wr => ∃ (j : Nat) (ms : List ByteArray), j ≤ n ∧ i = .int .i64 j ∧ q = .int .i64 (k + j) ∧ Hid (Marked k j ms) ∧ Texts wr B g n cap ms ∧ Touch g w wr) (fun _ i _ => n - (intOf i).toNat)
  case atStart => exact ⟨0, ss, by omega, rfl, by simp, fun j hj => by omega, T, Touch.refl _ _⟩
  case round =>
    obtain ⟨j, ms, hj, rfl, rfl, hM, Tr, S⟩ := hrel
    by_cases hlt : j < n
    · have hm := fun wx => markText (k + j) (by omega) (by omega) wx
      have hlt' : (j : Int) < (n : Int) := by omega
      clear T
      go_wp2_with (go_at_call 42; refine (hm _).mono ?_; rintro _ w1 ⟨rfl, g1⟩; have T1 := Tr.since g1; have hc := T1.cell j hlt; have hf := T1.free j)
      have hw2 : IntKind.i64.wrap (k + j + 1) = k + j + 1 := by rw [IntWalk.i64_left]; exact IntWalk.wrap64_in _ ⟨by omega, by omega⟩
      go_roundw
      case rel =>
        refine ⟨j + 1, ms.set j (markOf (k + j)), by omega, by go_num, ?_, ?_, T1.set j hlt _, (S.trans (Touch.of_since g1 g)).put j _⟩
        · go_num
        · intro i hi
          by_cases e : i = j
          · subst e
            exact txt_set_same _ _ _ (by rw [Tr.len]; exact hlt)
          · rw [txt_set_other _ _ _ _ (Ne.symm e)]
            exact hM.out i (by omega)
      case measure => simp [intOf]; omega
    · have hjn : j = n := by omega
      subst hjn
      go_wp2
      go_ret
      exact ⟨rfl, S, ms, hM.out, Tr⟩

set_option maxHeartbeats 1000000 in
theorem heldTexts (a : Option Addr) (n cap : Nat) (ms : List ByteArray) (k : Int) (hk0 : 1 ≤ k) (hk1 : k + n ≤ 1073741824) (w : World) (R : Reads w a n ms) (hM : Marked k n ms) :
    Calls Try.prog 28 #[.slice a n cap, .int .i64 k] w fun e w' => e = .returned (.int .i64 (k + n)) ∧ Since w w' := by
  go_enter Try.func28, Try.ntmps28
  go_wp2
  go_loopw [1, 5] (fun q i wr => ∃ (j : Nat), j ≤ n ∧ i = .int .i64 j ∧ q = .int .i64 (k + j) ∧ Since w wr) (fun _ i _ => n - (intOf i).toNat)
  case atStart => exact ⟨0, by omega, rfl, by simp, Since.refl _⟩
  case round =>
    obtain ⟨j, hj, rfl, rfl, S⟩ := hrel
    by_cases hlt : j < n
    · obtain ⟨x, rfl, hb, hc0⟩ := (R.since S).cell j hlt
      rw [hM j hlt] at hc0
      have hm0 := fun wx => markText (k + j) (by omega) (by omega) wx
      have hlt' : (j : Int) < (n : Int) := by omega
      have hbl : (x.add j).block = x.block := by unfold Addr.add; split <;> rfl
      generalize markOf (k + j) = t at hc0 hm0
      clear R hM
      go_wp2
      have hc : ∀ y : Later wr, y.val.cell? (x.add j) = some (.string t) := fun y => (Below.cell y.ok (p := x.add j) (by rw [hbl]; exact hb)).trans hc0
      have hm : ∀ y : Later wr, Calls Try.prog 42 #[.int .i64 (k + j)] y.val fun e w'' => e = .returned (.string t) ∧ ∃ z : Later wr, w'' = z.val := fun y => calm_call (hm0 y.val)
      have hne : Nonempty (Later wr) := ⟨⟨wr, Since.refl _⟩⟩
      clear hm0 hc0
      refine wp_region_calm (wb := wr) (by kernel_rfl) (by kernel_rfl) (Since.refl _) ?_
      repeat (go_big_quiet_step (exact hm _))
      refine wpQuiet_nil ?_
      rintro _ ⟨y, rfl⟩
      go_wp2
      have S2 := S.trans y.ok
      go_roundw
      case rel => exact ⟨j + 1, by omega, by go_num, by go_num, S2⟩
      case measure => simp [intOf]; omega
    · have hjn : j = n := by omega
      subst hjn
      clear R
      go_wp2
      go_ret
      exact ⟨rfl, S⟩
end Go.Proofs.Ytdampggjnmmhfaa
