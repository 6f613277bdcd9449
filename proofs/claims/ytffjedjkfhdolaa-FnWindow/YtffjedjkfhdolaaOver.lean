/-
  Contracts of impl's and spec's Overlaps, at every argument; no condition but that words are words and ints are ints.
-/
import Derived.Test.YtffjedjkfhdolaaWin
namespace Go.Proofs.Ytffjedjkfhdolaa
open Go.ChangeShapes Go.WideShapes Go.ChangeAt Go.RowKit
set_option linter.unusedVariables false

theorem moved (p n q : Int) (hp : IsWord p) (hq : IsWord q) (h : (p + n - q) % 4294967296 = 0) (w : World) :
    Calls Try.prog 41 #[.int .u32 p, .int .i64 n] w fun e w' => e = .returned (.int .u32 q) ∧ w = w' := by
  obtain ⟨hp, hp'⟩ := hp
  obtain ⟨hq, hq'⟩ := hq
  go_enter Try.func41, Try.ntmps41
  go_wp2
  go_ret
  have e1 : (p + n % 4294967296) % 4294967296 = q := by omega
  exact ⟨by simp [e1], rfl⟩

theorem implOverlaps (s n l z m k : Int) (hs : IsWord s) (hl : IsWord l) (hm : IsAhead l s m) (hk : IsAhead s l k) (w : World) :
    Calls Try.prog 22 #[.int .u32 s, .int .i64 n, .int .u32 l, .int .i64 z] w fun e w' => e = .returned (.bool (decide (1 ≤ n ∧ n ≤ 100000 ∧ 1 ≤ z ∧ z ≤ 2147483647 ∧ (m < z ∨ k < n)))) ∧ w = w' := by
  obtain ⟨m1, m2, m3⟩ := hm
  obtain ⟨k1, k2, k3⟩ := hk
  by_cases h1 : 1 ≤ n
  · by_cases h2 : n ≤ 100000
    · by_cases h3 : 1 ≤ z
      · by_cases h4 : z ≤ 2147483647
        · obtain ⟨q, hq⟩ : ∃ q, IsWord q ∧ (l + (1 - n) - q) % 4294967296 = 0 := ⟨(l + (1 - n)) % 4294967296, by unfold IsWord; omega⟩
          obtain ⟨hq, hq2⟩ := hq
          obtain ⟨j, hj⟩ := isAhead_ex q s
          have e1 : decide (1 ≤ n ∧ n ≤ 100000 ∧ 1 ≤ z ∧ z ≤ 2147483647 ∧ (m < z ∨ k < n)) = decide (j < z + n - 1) := by
            obtain ⟨j1, j2, j3⟩ := hj
            have hq' := hq.1
            have hq'' := hq.2
            simp only [decide_eq_decide]
            omega
          rw [e1]
          clear e1
          go_enter Try.func22, Try.ntmps22
          go_wp2_with (first | (go_at_call 41; refine (moved l (1 - n) q hl hq hq2 _).mono ?_; rintro _ _ ⟨rfl, rfl⟩) | (go_at_call 40; refine (within s q (z + n - 1) j hs hq hj _).mono ?_; rintro _ _ ⟨rfl, rfl⟩))
          go_ret
          exact ⟨rfl, rfl⟩
        · have e1 : decide (1 ≤ n ∧ n ≤ 100000 ∧ 1 ≤ z ∧ z ≤ 2147483647 ∧ (m < z ∨ k < n)) = false := by simp [h4]
          rw [e1]
          clear e1
          go_enter Try.func22, Try.ntmps22
          go_wp2
          go_ret
          exact ⟨rfl, rfl⟩
      · have e1 : decide (1 ≤ n ∧ n ≤ 100000 ∧ 1 ≤ z ∧ z ≤ 2147483647 ∧ (m < z ∨ k < n)) = false := by simp [h3]
        rw [e1]
        clear e1
        go_enter Try.func22, Try.ntmps22
        go_wp2
        go_ret
        exact ⟨rfl, rfl⟩
    · have e1 : decide (1 ≤ n ∧ n ≤ 100000 ∧ 1 ≤ z ∧ z ≤ 2147483647 ∧ (m < z ∨ k < n)) = false := by simp [h2]
      rw [e1]
      clear e1
      go_enter Try.func22, Try.ntmps22
      go_wp2
      go_ret
      exact ⟨rfl, rfl⟩
  · have e1 : decide (1 ≤ n ∧ n ≤ 100000 ∧ 1 ≤ z ∧ z ≤ 2147483647 ∧ (m < z ∨ k < n)) = false := by simp [h1]
    rw [e1]
    clear e1
    go_enter Try.func22, Try.ntmps22
    go_wp2
    go_ret
    exact ⟨rfl, rfl⟩

theorem ahead2 (a b : Int) (ha : IsWord a) (hb : IsWord b) (w : World) :
    Calls Try.prog 43 #[.int .u32 a, .int .u32 b] w fun e w' => e = .returned (.int .i64 ((b - a) % 4294967296)) ∧ w = w' :=
  ahead a b _ ha hb (by unfold IsAhead; omega) w

theorem specOverlaps (s n l z m k : Int) (hs : IsWord s) (hl : IsWord l) (hm : IsAhead l s m) (hk : IsAhead s l k) (w : World) :
    Calls Try.prog 23 #[.int .u32 s, .int .i64 n, .int .u32 l, .int .i64 z] w fun e w' => e = .returned (.bool (decide (1 ≤ n ∧ n ≤ 100000 ∧ 1 ≤ z ∧ z ≤ 2147483647 ∧ (m < z ∨ k < n)))) ∧ w = w' := by
  obtain ⟨m1, m2, m3⟩ := hm
  obtain ⟨k1, k2, k3⟩ := hk
  have em : (s - l) % 4294967296 = m := by omega
  have ek : (l - s) % 4294967296 = k := by omega
  by_cases h1 : 1 ≤ n ∧ n ≤ 100000
  · have e1 : decide (1 ≤ n ∧ n ≤ 100000) = true := by simp [h1]
    by_cases h2 : 0 ≤ z ∧ z ≤ 2147483647
    · have e2 : decide (0 ≤ z ∧ z ≤ 2147483647) = true := by simp [h2]
      by_cases h3 : 0 < z
      · by_cases h4 : m < z
        · have e3 : decide (1 ≤ n ∧ n ≤ 100000 ∧ 1 ≤ z ∧ z ≤ 2147483647 ∧ (m < z ∨ k < n)) = true := by
            simp
            omega
          rw [e3]
          clear e3 h1 h2 m1 m2 m3 k1 k2 k3
          go_enter Try.func23, Try.ntmps23
          go_wp2_with (first | (go_at_call 42; refine (specIn _ _ _ _).mono ?_; rintro _ _ ⟨rfl, rfl⟩) | (go_at_call 43; refine (ahead2 _ _ (by assumption) (by assumption) _).mono ?_; rintro _ _ ⟨rfl, rfl⟩))
          go_ret
          exact ⟨rfl, rfl⟩
        · have e3 : decide (1 ≤ n ∧ n ≤ 100000 ∧ 1 ≤ z ∧ z ≤ 2147483647 ∧ (m < z ∨ k < n)) = decide (k < n) := by
            simp only [decide_eq_decide]
            omega
          have e4 : (decide (m < z) || decide (k < n)) = decide (k < n) := by simp [h4]
          rw [e3]
          clear e3 h1 h2 m1 m2 m3 k1 k2 k3
          go_enter Try.func23, Try.ntmps23
          go_wp2_with (first | (go_at_call 42; refine (specIn _ _ _ _).mono ?_; rintro _ _ ⟨rfl, rfl⟩) | (go_at_call 43; refine (ahead2 _ _ (by assumption) (by assumption) _).mono ?_; rintro _ _ ⟨rfl, rfl⟩))
          go_ret
          exact ⟨rfl, rfl⟩
      · have e3 : decide (1 ≤ n ∧ n ≤ 100000 ∧ 1 ≤ z ∧ z ≤ 2147483647 ∧ (m < z ∨ k < n)) = false := by
          simp
          omega
        rw [e3]
        clear e3 h1 h2 m1 m2 m3 k1 k2 k3
        go_enter Try.func23, Try.ntmps23
        go_wp2_with (go_at_call 42; refine (specIn _ _ _ _).mono ?_; rintro _ _ ⟨rfl, rfl⟩)
        go_ret
        exact ⟨rfl, rfl⟩
    · have e2 : decide (0 ≤ z ∧ z ≤ 2147483647) = false := by
        simp
        omega
      have e3 : decide (1 ≤ n ∧ n ≤ 100000 ∧ 1 ≤ z ∧ z ≤ 2147483647 ∧ (m < z ∨ k < n)) = false := by
        simp
        omega
      rw [e3]
      clear e3 h1 h2 m1 m2 m3 k1 k2 k3
      go_enter Try.func23, Try.ntmps23
      go_wp2_with (go_at_call 42; refine (specIn _ _ _ _).mono ?_; rintro _ _ ⟨rfl, rfl⟩)
      go_ret
      exact ⟨rfl, rfl⟩
  · have e1 : decide (1 ≤ n ∧ n ≤ 100000) = false := by
      simp
      omega
    have e3 : decide (1 ≤ n ∧ n ≤ 100000 ∧ 1 ≤ z ∧ z ≤ 2147483647 ∧ (m < z ∨ k < n)) = false := by
      simp
      omega
    rw [e3]
    clear e3 h1 m1 m2 m3 k1 k2 k3
    go_enter Try.func23, Try.ntmps23
    go_wp2_with (go_at_call 42; refine (specIn _ _ _ _).mono ?_; rintro _ _ ⟨rfl, rfl⟩)
    go_ret
    exact ⟨rfl, rfl⟩
end Go.Proofs.Ytffjedjkfhdolaa
