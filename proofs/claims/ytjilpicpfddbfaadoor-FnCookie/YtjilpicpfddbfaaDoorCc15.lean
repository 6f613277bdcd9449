/-
  Whether a cookie is known: contracts of spec's and impl's CookieCheck.
-/
import Derived.Test.YtjilpicpfddbfaaDoorCs15
import Derived.Test.YtjilpicpfddbfaaDoorCi15
namespace Go.Proofs.YtjilpicpfddbfaaDoor
open Go.ChangeShapes Go.WideShapes Go.ChangeAt Go.RowKit Go.Deep
set_option linter.unusedVariables false
set_option maxRecDepth 10000

/-- Whether c is the cookie of this epoch or the one before. -/
def ckKnown (s h p j q e c : Int) : Bool := ckOk p q e && (decide (ckOf s h p j q e (c / 16777216 % 8) = c) || decide (0 < e ∧ ckOf s h p j q (e - 1) (c / 16777216 % 8) = c))

/-- What it stands for. -/
def ckStep (s h p j q e c : Int) : Int := if ckKnown s h p j q e c then c / 16777216 % 8 else 0

theorem ckOk_in {p q e : Int} (h : ckOk p q e = true) : 0 ≤ e ∧ e ≤ 1000000000 := by
  unfold ckOk at h
  simp only [Bool.and_eq_true, decide_eq_true_eq] at h
  exact h.2

set_option maxHeartbeats 2000000 in
theorem specCheck (s h p j q e c : Int) (hc : IsWord c) (w : World) :
    Calls Tryd.prog 12 #[.int .u32 s, addrVal h p, addrVal j q, .int .i64 e, .int .u32 c] w fun f w' => f = .returned (.tuple #[.int .i64 (ckStep s h p j q e c), .bool (ckKnown s h p j q e c)]) ∧ Since w w' := by
  have hh := fun wx => l15Ok h p j q e wx
  obtain ⟨hc0, hc1⟩ := hc
  have hK0 : 0 ≤ c / 16777216 := by omega
  have hK1 : c / 16777216 < 256 := by omega
  have hx := fun wx => specCookie s h p j q e (c / 16777216 % 8) wx
  have hy := fun wx => specCookie s h p j q (e - 1) (c / 16777216 % 8) wx
  generalize hS : ckStep s h p j q e c = S
  generalize hV : ckKnown s h p j q e c = V
  replace hS : Hid _ := hS
  replace hV : Hid _ := hV
  have A := (Blk.new w #[.int .u32 h, .int .i64 p] 26).since ((Since.refl _).alloc (.cells #[.int .u32 j, .int .i64 q] 26))
  have B := Blk.new (w.alloc (.cells #[.int .u32 h, .int .i64 p] 26)) #[.int .u32 j, .int .i64 q] 26
  have G : Since w ((w.alloc (.cells #[.int .u32 h, .int .i64 p] 26)).alloc (.cells #[.int .u32 j, .int .i64 q] 26)) := ((Since.refl _).alloc _).alloc _
  have a0 := A.cell 0
  have a1 := A.cell 1
  have b0 := B.cell 0
  have b1 := B.cell 1
  simp at a0 a1 b0 b1 B
  cases hk : ckOk p q e
  · rw [hk] at hh
    clear hx hy
    unfold addrVal at *
    go_enter Tryd.func12, Tryd.ntmps12
    go_wp2_with (go_at_call 26; refine (hh _).mono ?_; rintro _ w1 ⟨rfl, g1⟩; replace G := G.trans g1)
    refine bodyPost_ret (v := .tuple #[.int .i64 0, .bool false]) ?_ rfl ⟨by rw [← hS.out, ← hV.out]; simp [ckStep, ckKnown, hk], G⟩
    simp [results, go_sem]
  · rw [hk] at hh
    have he := ckOk_in hk
    generalize hXe : ckOf s h p j q e (c / 16777216 % 8) = X at hx
    generalize hYe : ckOf s h p j q (e - 1) (c / 16777216 % 8) = Y at hy
    replace hXe : Hid _ := hXe
    replace hYe : Hid _ := hYe
    unfold addrVal at *
    by_cases hX : X = c
    · subst hX
      clear hy
      go_enter Tryd.func12, Tryd.ntmps12
      go_wp2_with (first | (go_at_call 26; refine (hh _).mono ?_; rintro _ w1 ⟨rfl, g1⟩; replace G := G.trans g1; replace A := A.since g1; replace B := B.since g1; have a0 := A.cell 0; have a1 := A.cell 1; have b0 := B.cell 0; have b1 := B.cell 1; simp at a0 a1 b0 b1) | (go_at_call 9; (first | (refine (hx _).mono ?_; clear hx) | (refine (hy _).mono ?_; clear hy)); rintro _ w2 ⟨rfl, g2⟩; replace G := G.trans g2; replace A := A.since g2; replace B := B.since g2; have a0 := A.cell 0; have a1 := A.cell 1; have b0 := B.cell 0; have b1 := B.cell 1; simp at a0 a1 b0 b1))
      refine bodyPost_ret (v := .tuple #[.int .i64 (X / 16777216 % 8), .bool true]) ?_ rfl ⟨by rw [← hS.out, ← hV.out]; simp [ckStep, ckKnown, hk, hXe.out], G⟩
      simp [results, go_sem]
    · have hXb : (X == c) = false := by simp [hX]
      by_cases he0 : 0 < e
      · by_cases hY : Y = c
        · subst hY
          go_enter Tryd.func12, Tryd.ntmps12
          go_wp2_with (first | (go_at_call 26; refine (hh _).mono ?_; rintro _ w1 ⟨rfl, g1⟩; replace G := G.trans g1; replace A := A.since g1; replace B := B.since g1; have a0 := A.cell 0; have a1 := A.cell 1; have b0 := B.cell 0; have b1 := B.cell 1; simp at a0 a1 b0 b1) | (go_at_call 9; (first | (refine (hx _).mono ?_; clear hx) | (refine (hy _).mono ?_; clear hy)); rintro _ w2 ⟨rfl, g2⟩; replace G := G.trans g2; replace A := A.since g2; replace B := B.since g2; have a0 := A.cell 0; have a1 := A.cell 1; have b0 := B.cell 0; have b1 := B.cell 1; simp at a0 a1 b0 b1))
          refine bodyPost_ret (v := .tuple #[.int .i64 (Y / 16777216 % 8), .bool true]) ?_ rfl ⟨by rw [← hS.out, ← hV.out]; simp [ckStep, ckKnown, hk, hYe.out, he0], G⟩
          simp [results, go_sem]
        · have hYb : (Y == c) = false := by simp [hY]
          go_enter Tryd.func12, Tryd.ntmps12
          go_wp2_with (first | (go_at_call 26; refine (hh _).mono ?_; rintro _ w1 ⟨rfl, g1⟩; replace G := G.trans g1; replace A := A.since g1; replace B := B.since g1; have a0 := A.cell 0; have a1 := A.cell 1; have b0 := B.cell 0; have b1 := B.cell 1; simp at a0 a1 b0 b1) | (go_at_call 9; (first | (refine (hx _).mono ?_; clear hx) | (refine (hy _).mono ?_; clear hy)); rintro _ w2 ⟨rfl, g2⟩; replace G := G.trans g2; replace A := A.since g2; replace B := B.since g2; have a0 := A.cell 0; have a1 := A.cell 1; have b0 := B.cell 0; have b1 := B.cell 1; simp at a0 a1 b0 b1))
          refine bodyPost_ret (v := .tuple #[.int .i64 0, .bool false]) ?_ rfl ⟨by rw [← hS.out, ← hV.out]; simp [ckStep, ckKnown, hk, hXe.out, hYe.out, hX, hY], G⟩
          simp [results, go_sem]
      · clear hy
        go_enter Tryd.func12, Tryd.ntmps12
        go_wp2_with (first | (go_at_call 26; refine (hh _).mono ?_; rintro _ w1 ⟨rfl, g1⟩; replace G := G.trans g1; replace A := A.since g1; replace B := B.since g1; have a0 := A.cell 0; have a1 := A.cell 1; have b0 := B.cell 0; have b1 := B.cell 1; simp at a0 a1 b0 b1) | (go_at_call 9; (first | (refine (hx _).mono ?_; clear hx) | (refine (hy _).mono ?_; clear hy)); rintro _ w2 ⟨rfl, g2⟩; replace G := G.trans g2; replace A := A.since g2; replace B := B.since g2; have a0 := A.cell 0; have a1 := A.cell 1; have b0 := B.cell 0; have b1 := B.cell 1; simp at a0 a1 b0 b1))
        refine bodyPost_ret (v := .tuple #[.int .i64 0, .bool false]) ?_ rfl ⟨by rw [← hS.out, ← hV.out]; simp [ckStep, ckKnown, hk, hXe.out, hX, show (0 < e) = False by simp; omega], G⟩
        simp [results, go_sem]

set_option maxHeartbeats 4000000 in
theorem implCheck (s h p j q e c : Int) (hc : IsWord c) (w : World) :
    Calls Tryd.prog 10 #[.int .u32 s, addrVal h p, addrVal j q, .int .i64 e, .int .u32 c] w fun f w' => f = .returned (.tuple #[.int .i64 (ckStep s h p j q e c), .bool (ckKnown s h p j q e c)]) ∧ Since w w' := by
  have hh := fun wx => hasCookies h p j q e wx
  obtain ⟨hc0, hc1⟩ := hc
  have hK0 : 0 ≤ c / 16777216 := by omega
  have hK1 : c / 16777216 < 256 := by omega
  have hx := fun wx => implCookie s h p j q e (c / 16777216 % 8) wx
  have hy := fun wx => implCookie s h p j q (e - 1) (c / 16777216 % 8) wx
  generalize hS : ckStep s h p j q e c = S
  generalize hV : ckKnown s h p j q e c = V
  replace hS : Hid _ := hS
  replace hV : Hid _ := hV
  have A := (Blk.new w #[.int .u32 h, .int .i64 p] 26).since ((Since.refl _).alloc (.cells #[.int .u32 j, .int .i64 q] 26))
  have B := Blk.new (w.alloc (.cells #[.int .u32 h, .int .i64 p] 26)) #[.int .u32 j, .int .i64 q] 26
  have G : Since w ((w.alloc (.cells #[.int .u32 h, .int .i64 p] 26)).alloc (.cells #[.int .u32 j, .int .i64 q] 26)) := ((Since.refl _).alloc _).alloc _
  have a0 := A.cell 0; have a1 := A.cell 1; have b0 := B.cell 0; have b1 := B.cell 1; simp at a0 a1 b0 b1 B
  cases hk : ckOk p q e
  · rw [hk] at hh
    clear hx hy
    unfold addrVal at *
    go_enter Tryd.func10, Tryd.ntmps10
    go_wp2_with (go_at_call 22; refine (hh _).mono ?_; rintro _ w1 ⟨rfl, g1⟩; replace G := G.trans g1)
    refine bodyPost_ret (v := .tuple #[.int .i64 0, .bool false]) ?_ rfl ⟨by rw [← hS.out, ← hV.out]; simp [ckStep, ckKnown, hk], G⟩
    simp [results, go_sem]
  · rw [hk] at hh
    have he := ckOk_in hk
    generalize hXe : ckOf s h p j q e (c / 16777216 % 8) = X at hx
    generalize hYe : ckOf s h p j q (e - 1) (c / 16777216 % 8) = Y at hy
    replace hXe : Hid _ := hXe
    replace hYe : Hid _ := hYe
    unfold addrVal at *
    go_enter Tryd.func10, Tryd.ntmps10
    go_wp2_with (go_at_call 22; refine (hh _).mono ?_; rintro _ w1 ⟨rfl, g1⟩; replace G := G.trans g1; replace A := A.since g1; replace B := B.since g1; clear a0 a1 b0 b1 g1)
    go_loopw [13] (fun v wr => ∃ n : Nat, n ≤ 2 ∧ v = .int .i64 (e - n) ∧ (1 ≤ n → X ≠ c) ∧ (n = 2 → 0 < e ∧ Y ≠ c) ∧ Since w1 wr) (fun v _ => (intOf v + 3).toNat)
    case atStart => exact ⟨0, by omega, by simp, fun h => absurd h (by omega), fun h => absurd h (by omega), Since.refl _⟩
    case round =>
      obtain ⟨n, hn, rfl, h1, h2, S0⟩ := hrel
      replace A := A.since S0
      replace B := B.since S0
      replace G := G.trans S0
      have a0 := A.cell 0; have a1 := A.cell 1; have b0 := B.cell 0; have b1 := B.cell 1; simp at a0 a1 b0 b1
      obtain rfl | rfl | rfl : n = 0 ∨ n = 1 ∨ n = 2 := by omega
      · rw [show e - ((0 : Nat) : Int) = e by omega]
        clear h1 h2 hy
        by_cases hX : X = c
        · subst hX
          go_wp2_with (go_at_call 8; refine (hx _).mono ?_; rintro _ w2 ⟨rfl, g2⟩; replace G := G.trans g2; replace S0 := S0.trans g2; clear a0 a1 b0 b1)
          all_goals (refine bodyPost_ret (v := .tuple #[.int .i64 (X / 16777216 % 8), .bool true]) ?_ rfl ⟨by rw [← hS.out, ← hV.out]; simp [ckStep, ckKnown, hk, hXe.out], G⟩; simp [results, go_sem])
        · have hXb : (X == c) = false := by simp [hX]
          go_wp2_with (go_at_call 8; refine (hx _).mono ?_; rintro _ w2 ⟨rfl, g2⟩; replace G := G.trans g2; replace S0 := S0.trans g2; clear a0 a1 b0 b1)
          go_roundw
          case rel => exact ⟨1, by omega, by go_num, fun _ => hX, fun h => absurd h (by omega), S0⟩
          case measure => simp [intOf]; omega
      · rw [show e - ((1 : Nat) : Int) = e - 1 by omega]
        have hX := h1 (by omega)
        clear h1 h2 hx
        by_cases he0 : 0 < e
        · by_cases hY : Y = c
          · subst hY
            go_wp2_with (go_at_call 8; refine (hy _).mono ?_; rintro _ w2 ⟨rfl, g2⟩; replace G := G.trans g2; replace S0 := S0.trans g2; clear a0 a1 b0 b1)
            refine bodyPost_ret (v := .tuple #[.int .i64 (Y / 16777216 % 8), .bool true]) ?_ rfl ⟨by rw [← hS.out, ← hV.out]; simp [ckStep, ckKnown, hk, hYe.out, he0], G⟩
            simp [results, go_sem]
          · have hYb : (Y == c) = false := by simp [hY]
            go_wp2_with (go_at_call 8; refine (hy _).mono ?_; rintro _ w2 ⟨rfl, g2⟩; replace G := G.trans g2; replace S0 := S0.trans g2; clear a0 a1 b0 b1)
            go_roundw
            case rel => exact ⟨2, by omega, by go_num, fun _ => hX, fun _ => ⟨he0, hY⟩, S0⟩
            case measure => simp [intOf]; omega
        · obtain rfl : e = 0 := by omega
          go_wp2_with (fail)
          refine bodyPost_ret (v := .tuple #[.int .i64 0, .bool false]) ?_ rfl ⟨by rw [← hS.out, ← hV.out]; simp [ckStep, ckKnown, hk, hXe.out, hX], G⟩
          simp [results, go_sem]
      · rw [show e - ((2 : Nat) : Int) = e - 2 by omega]
        have hX := h1 (by omega)
        obtain ⟨he0, hY⟩ := h2 rfl
        clear h1 h2 hx hy
        go_wp2_with (fail)
        refine bodyPost_ret (v := .tuple #[.int .i64 0, .bool false]) ?_ rfl ⟨by rw [← hS.out, ← hV.out]; simp [ckStep, ckKnown, hk, hXe.out, hYe.out, hX, hY], G⟩
        simp [results, go_sem]

end Go.Proofs.YtjilpicpfddbfaaDoor
