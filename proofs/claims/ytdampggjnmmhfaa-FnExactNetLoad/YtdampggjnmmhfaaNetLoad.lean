/-
  Contracts of impl's and spec's NetLoad, at every net.
-/
import Derived.Test.YtdampggjnmmhfaaNetOk
namespace Go.Proofs.Ytdampggjnmmhfaa
open Go.ChangeShapes Go.WideShapes Go.ChangeAt Go.RowKit
set_option linter.unusedVariables false

/-- How many bytes the first k texts have. -/
def sumTo (ss : List ByteArray) : Nat → Int
  | 0 => 0
  | k + 1 => sumTo ss k + ((txt ss k).size : Int)

/-- What NetLoad answers. -/
def netLoad (ss : List ByteArray) : Int := if netOk ss = true then sumTo ss ss.length else 0

theorem sumTo_range (ss : List ByteArray) (n : Nat) (h : ∀ i, i < n → (txt ss i).size ≤ 2000) : ∀ k, k ≤ n → 0 ≤ sumTo ss k ∧ sumTo ss k ≤ 2000 * (k : Int)
  | 0, _ => by simp [sumTo]
  | k + 1, hk => by
    have ih := sumTo_range ss n h k (by omega)
    have := h k (by omega)
    simp only [sumTo]
    omega

set_option maxHeartbeats 1000000 in
theorem implNetLoad (g n cap : Nat) (ss : List ByteArray) (B : Nat) (w : World) (T : Texts w B g n cap ss) :
    Calls Try.prog 30 #[.agg #[.slice (some ⟨g, 0, none⟩) n cap]] w fun e w' => e = .returned (.int .i64 (netLoad ss)) ∧ Since w w' := by
  have G : Since w (w.alloc (.cells #[.slice (some ⟨g, 0, none⟩) n cap] 27)) := (Since.refl _).alloc _
  have A := Rec1.new w (.slice (some ⟨g, 0, none⟩) n cap) 27
  have T1 := T.since G
  have ho := implNetOk g n cap ss B _ T1
  have hlen := T.len
  cases hok : netOk ss
  · have e : netLoad ss = 0 := by simp [netLoad, hok]
    rw [e]
    rw [hok] at ho
    clear e hok
    go_enter Try.func30, Try.ntmps30
    go_wp2_with (go_at_call 11; refine ho.mono ?_; rintro _ w1 ⟨rfl, g1⟩)
    go_ret
    exact ⟨rfl, G.trans g1⟩
  · have e : netLoad ss = sumTo ss n := by simp [netLoad, hok, hlen]
    rw [e]
    rw [hok] at ho
    obtain ⟨h200, hsm⟩ := (netOk_iff ss).1 hok
    rw [hlen] at h200 hsm
    have hsum := sumTo_range ss n hsm
    clear e hok
    go_enter Try.func30, Try.ntmps30
    go_wp2_with (go_at_call 11; refine ho.mono ?_; rintro _ w1 ⟨rfl, g1⟩; have T2 := T1.since g1; have A1 := A.since g1; have cA := A1.c0)
    go_loop [3, 12] (fun q i => ∃ (k : Nat), k ≤ n ∧ i = .int .i64 k ∧ q = .int .i64 (sumTo ss k)) (fun _ i => n - (intOf i).toNat)
    case atStart => exact ⟨0, by omega, rfl, rfl⟩
    case round =>
      obtain ⟨k, hk, rfl, rfl⟩ := hrel
      by_cases hlt : k < n
      · have hc := T2.cell k hlt
        have hlt' : (k : Int) < (n : Int) := by omega
        have r0 := hsum k hk
        have r1 := hsm k hlt
        have hw : IntKind.i64.wrap (sumTo ss k + ((txt ss k).size : Int)) = sumTo ss (k + 1) := by rw [IntWalk.i64_left, IntWalk.wrap64_in _ ⟨by omega, by omega⟩]; rfl
        go_wp2
        go_round
        case rel => exact ⟨k + 1, by omega, by go_num, by first | rfl | rw [hw] | (rw [← hw, IntWalk.i64_left]) | go_num⟩
        case measure => simp [intOf]; omega
      · have hkn : k = n := by omega
        subst hkn
        go_wp2
        go_ret
        exact ⟨rfl, G.trans g1⟩

set_option maxHeartbeats 1000000 in
theorem specNetLoad (a : Option Addr) (n cap : Nat) (ss : List ByteArray) (w : World) (R : Reads w a n ss) :
    Calls Try.prog 29 #[.agg #[.slice a n cap]] w fun e w' => e = .returned (.int .i64 (netLoad ss)) ∧ Since w w' := by
  have G : Since w (w.alloc (.cells #[.slice a n cap] 27)) := (Since.refl _).alloc _
  have A := Rec1.new w (.slice a n cap) 27
  have R1 := R.since G
  have ho := specNetOk a n cap ss _ R1
  have hlen := R.len
  cases hok : netOk ss
  · have e : netLoad ss = 0 := by simp [netLoad, hok]
    rw [e]
    rw [hok] at ho
    clear e hok
    go_enter Try.func29, Try.ntmps29
    go_wp2_with (go_at_call 9; refine ho.mono ?_; rintro _ w1 ⟨rfl, g1⟩)
    go_ret
    exact ⟨rfl, G.trans g1⟩
  · have e : netLoad ss = sumTo ss n := by simp [netLoad, hok, hlen]
    rw [e]
    rw [hok] at ho
    obtain ⟨h200, hsm⟩ := (netOk_iff ss).1 hok
    rw [hlen] at h200 hsm
    have hsum := sumTo_range ss n hsm
    clear e hok
    go_enter Try.func29, Try.ntmps29
    go_wp2_with (go_at_call 9; refine ho.mono ?_; rintro _ w1 ⟨rfl, g1⟩; have R2 := R1.since g1; have A1 := A.since g1; have cA := A1.c0)
    go_loop [3, 4] (fun q i => ∃ (k : Nat), k ≤ n ∧ i = .int .i64 k ∧ q = .int .i64 (sumTo ss k)) (fun _ i => n - (intOf i).toNat)
    case atStart => exact ⟨0, by omega, rfl, rfl⟩
    case round =>
      obtain ⟨k, hk, rfl, rfl⟩ := hrel
      by_cases hlt : k < n
      · obtain ⟨x, rfl, hb, hc⟩ := R2.cell k hlt
        have hlt' : (k : Int) < (n : Int) := by omega
        have r0 := hsum k hk
        have r1 := hsm k hlt
        have hw : IntKind.i64.wrap (sumTo ss k + ((txt ss k).size : Int)) = sumTo ss (k + 1) := by rw [IntWalk.i64_left, IntWalk.wrap64_in _ ⟨by omega, by omega⟩]; rfl
        go_wp2
        go_round
        case rel => exact ⟨k + 1, by omega, by go_num, by first | rfl | rw [hw] | (rw [← hw, IntWalk.i64_left]) | go_num⟩
        case measure => simp [intOf]; omega
      · have hkn : k = n := by omega
        subst hkn
        go_wp2
        go_ret
        exact ⟨rfl, G.trans g1⟩
end Go.Proofs.Ytdampggjnmmhfaa
