/-
  A contract of spec's RttWait, at every wait.
-/
import Derived.Test.YtppmanjeeffddaaRttS
namespace Go.Proofs.Ytppmanjeeffddaa
open Go.ChangeShapes Go.WideShapes Go.ChangeAt Go.RowKit
set_option linter.unusedVariables false

theorem twice_bound (p : Int) (h0 : 0 ≤ p) (h1 : p ≤ 1000000) (k : Nat) (hk : k ≤ 8) : 0 ≤ p * 2 ^ k ∧ p * 2 ^ k ≤ 256000000 := by
  have hd : k = 0 ∨ k = 1 ∨ k = 2 ∨ k = 3 ∨ k = 4 ∨ k = 5 ∨ k = 6 ∨ k = 7 ∨ k = 8 := by omega
  rcases hd with rfl | rfl | rfl | rfl | rfl | rfl | rfl | rfl | rfl <;> simp <;> omega

theorem specWait (a : Bool) (s v d : Int) (w : World) :
    Calls Try.prog 22 #[rttVal a s v d] w fun e w' => e = .returned (.int .i64 (waitOf a s v d)) ∧ Since w w' := by
  have ho := fun wx => specRttOk a s v d wx
  unfold waitOf
  by_cases hk : rttOk a s v d = true
  · obtain ⟨b1, b2, b3, b4, b5, b6, -⟩ := ok_bounds hk
    rw [hk] at ho ⊢
    simp only [if_true]
    clear hk
    obtain ⟨p, hp⟩ : ∃ p, p = baseOf a s v := ⟨_, rfl⟩
    rw [← hp]
    have hp0 : 0 ≤ p ∧ p ≤ 1000000 := by rw [hp]; unfold baseOf; split <;> omega
    have tb := twice_bound p hp0.1 hp0.2
    obtain ⟨n, rfl⟩ : ∃ n : Nat, d = n := ⟨d.toNat, by omega⟩
    rw [Int.toNat_natCast]
    unfold rttVal at *
    have G := (Since.refl w).alloc (.cells #[.bool a, .int .i64 s, .int .i64 v, .int .i64 n] 28)
    replace G := G.alloc (.cells #[.bool a, .int .i64 s, .int .i64 v, .int .i64 n] 28)
    have hr : Hid (∀ q : Int, q = p * 2 ^ n → 600 < q → min (p * 2 ^ n) 600 = 600) := by intro q hq; omega
    have hr' : Hid (∀ q : Int, q = p * 2 ^ n → q ≤ 600 → min (p * 2 ^ n) 600 = q) := by intro q hq; omega
    generalize min (p * 2 ^ n) 600 = z at hr hr' ⊢
    replace tb : Hid _ := tb
    clear b5
    cases a
    · have hp' : p = 10 := by rw [hp]; rfl
      subst hp'
      clear hp
      go_enter Try.func22, Try.ntmps22
      go_wp2_with (go_at_call 17; refine (ho _).mono ?_; rintro _ _ ⟨rfl, rfl⟩)
      go_loop [3, 4] (fun x i => ∃ (k : Nat) (q : Int), k ≤ n ∧ i = .int .i64 k ∧ x = .int .i64 q ∧ Hid (q = (10) * 2 ^ k)) (fun _ i => n - (intOf i).toNat)
      case atStart => exact ⟨0, 10, by omega, rfl, rfl, show 10 = 10 * 2 ^ 0 by simp⟩
      case round =>
        obtain ⟨k, q, hk, rfl, rfl, hq⟩ := hrel
        have t1 : 0 ≤ q ∧ q ≤ 256000000 := by
          have := tb.out k (by omega)
          rw [hq.out]
          exact this
        go_wp2
        · go_round
          case rel =>
            refine ⟨k + 1, q * 2, by omega, ?_, rfl, ?_⟩
            · go_num
            · show q * 2 = 10 * 2 ^ (k + 1)
              rw [hq.out, Int.pow_succ, Int.mul_assoc]
          case measure =>
            simp [intOf]
            omega
        · have hkn : k = n := by omega
          subst hkn
          rw [hr.out q hq.out (by assumption)]
          go_ret
          exact ⟨rfl, G⟩
        · have hkn : k = n := by omega
          subst hkn
          rw [hr'.out q hq.out (by omega)]
          go_ret
          exact ⟨rfl, G⟩
    · by_cases hv : 1 < v
      · have hp' : p = s / 8 + v := by rw [hp]; simp [baseOf]; omega
        subst hp'
        clear hp
        go_enter Try.func22, Try.ntmps22
        go_wp2_with (go_at_call 17; refine (ho _).mono ?_; rintro _ _ ⟨rfl, rfl⟩)
        go_loop [3, 4] (fun x i => ∃ (k : Nat) (q : Int), k ≤ n ∧ i = .int .i64 k ∧ x = .int .i64 q ∧ Hid (q = (s / 8 + v) * 2 ^ k)) (fun _ i => n - (intOf i).toNat)
        case atStart => exact ⟨0, (s / 8 + v), by omega, rfl, rfl, show (s / 8 + v) = (s / 8 + v) * 2 ^ 0 by simp⟩
        case round =>
          obtain ⟨k, q, hk, rfl, rfl, hq⟩ := hrel
          have t1 : 0 ≤ q ∧ q ≤ 256000000 := by
            have := tb.out k (by omega)
            rw [hq.out]
            exact this
          go_wp2
          · go_round
            case rel =>
              refine ⟨k + 1, q * 2, by omega, ?_, rfl, ?_⟩
              · go_num
              · show q * 2 = (s / 8 + v) * 2 ^ (k + 1)
                rw [hq.out, Int.pow_succ, Int.mul_assoc]
            case measure =>
              simp [intOf]
              omega
          · have hkn : k = n := by omega
            subst hkn
            rw [hr.out q hq.out (by assumption)]
            go_ret
            exact ⟨rfl, G⟩
          · have hkn : k = n := by omega
            subst hkn
            rw [hr'.out q hq.out (by omega)]
            go_ret
            exact ⟨rfl, G⟩
      · by_cases hs : s / 8 + 1 < 2
        · have hp' : p = 2 := by rw [hp]; simp [baseOf]; omega
          subst hp'
          clear hp
          go_enter Try.func22, Try.ntmps22
          go_wp2_with (go_at_call 17; refine (ho _).mono ?_; rintro _ _ ⟨rfl, rfl⟩)
          go_loop [3, 4] (fun x i => ∃ (k : Nat) (q : Int), k ≤ n ∧ i = .int .i64 k ∧ x = .int .i64 q ∧ Hid (q = (2) * 2 ^ k)) (fun _ i => n - (intOf i).toNat)
          case atStart => exact ⟨0, 2, by omega, rfl, rfl, show 2 = 2 * 2 ^ 0 by simp⟩
          case round =>
            obtain ⟨k, q, hk, rfl, rfl, hq⟩ := hrel
            have t1 : 0 ≤ q ∧ q ≤ 256000000 := by
              have := tb.out k (by omega)
              rw [hq.out]
              exact this
            go_wp2
            · go_round
              case rel =>
                refine ⟨k + 1, q * 2, by omega, ?_, rfl, ?_⟩
                · go_num
                · show q * 2 = 2 * 2 ^ (k + 1)
                  rw [hq.out, Int.pow_succ, Int.mul_assoc]
              case measure =>
                simp [intOf]
                omega
            · have hkn : k = n := by omega
              subst hkn
              rw [hr.out q hq.out (by assumption)]
              go_ret
              exact ⟨rfl, G⟩
            · have hkn : k = n := by omega
              subst hkn
              rw [hr'.out q hq.out (by omega)]
              go_ret
              exact ⟨rfl, G⟩
        · have hp' : p = s / 8 + 1 := by rw [hp]; simp [baseOf]; omega
          subst hp'
          clear hp
          go_enter Try.func22, Try.ntmps22
          go_wp2_with (go_at_call 17; refine (ho _).mono ?_; rintro _ _ ⟨rfl, rfl⟩)
          go_loop [3, 4] (fun x i => ∃ (k : Nat) (q : Int), k ≤ n ∧ i = .int .i64 k ∧ x = .int .i64 q ∧ Hid (q = (s / 8 + 1) * 2 ^ k)) (fun _ i => n - (intOf i).toNat)
          case atStart => exact ⟨0, (s / 8 + 1), by omega, rfl, rfl, show (s / 8 + 1) = (s / 8 + 1) * 2 ^ 0 by simp⟩
          case round =>
            obtain ⟨k, q, hk, rfl, rfl, hq⟩ := hrel
            have t1 : 0 ≤ q ∧ q ≤ 256000000 := by
              have := tb.out k (by omega)
              rw [hq.out]
              exact this
            go_wp2
            · go_round
              case rel =>
                refine ⟨k + 1, q * 2, by omega, ?_, rfl, ?_⟩
                · go_num
                · show q * 2 = (s / 8 + 1) * 2 ^ (k + 1)
                  rw [hq.out, Int.pow_succ, Int.mul_assoc]
              case measure =>
                simp [intOf]
                omega
            · have hkn : k = n := by omega
              subst hkn
              rw [hr.out q hq.out (by assumption)]
              go_ret
              exact ⟨rfl, G⟩
            · have hkn : k = n := by omega
              subst hkn
              rw [hr'.out q hq.out (by omega)]
              go_ret
              exact ⟨rfl, G⟩
  · have hk' : rttOk a s v d = false := by simpa using hk
    rw [hk'] at ho ⊢
    clear hk hk'
    simp only [Bool.false_eq_true, if_false]
    unfold rttVal at *
    go_enter Try.func22, Try.ntmps22
    go_wp2_with (go_at_call 17; refine (ho _).mono ?_; rintro _ _ ⟨rfl, rfl⟩)
    go_ret
    exact ⟨rfl, ((Since.refl _).alloc _).alloc _⟩
end Go.Proofs.Ytppmanjeeffddaa
