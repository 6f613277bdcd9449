/-
  The eight steps: contracts of spec's and impl's MssOf and MssStep, where the table holds what the program's text lays.
-/
import Derived.Test.YtjilpicpfddbfaaDoorCk15
namespace Go.Proofs.YtjilpicpfddbfaaDoor
open Go.ChangeShapes Go.WideShapes Go.ChangeAt Go.RowKit Go.Deep
set_option linter.unusedVariables false
set_option maxRecDepth 10000

/-- Step i. -/
def mssAt (i : Nat) : Int := [64, 128, 256, 400, 536, 800, 1200, 1460].getD i 0

/-- What a step stands for. -/
def mssOf (k : Int) : Int := if 0 ≤ k ∧ k ≤ 7 then mssAt k.toNat else 0

/-- The greatest of the first n steps that is at most m. -/
def stepTo (m : Int) : Nat → Int
  | 0 => 0
  | n + 1 => if mssAt n ≤ m then (n : Int) else stepTo m n

/-- The table is laid. -/
structure LaidM (w : World) : Prop where
  at' : ∀ i, i < 8 → w.cell? ⟨0, i, none⟩ = some (.int .i64 (mssAt i))

theorem LaidM.lt {w : World} (h : LaidM w) : 0 < w.heap.size := by
  have := h.at' 0 (by decide)
  rcases Nat.lt_or_ge 0 w.heap.size with h0 | h1
  · exact h0
  · rw [World.cell?] at this
    simp [Array.getElem?_eq_none h1] at this

theorem LaidM.since {w x : World} (h : LaidM w) (g : Since w x) : LaidM x := ⟨fun i hi => (Below.cell g (p := ⟨0, i, none⟩) h.lt).trans (h.at' i hi)⟩

theorem LaidM.touch {w x : World} {b : Nat} (h : LaidM w) (t : Touch b w x) (hb : b ≠ 0) : LaidM x := ⟨fun i hi => (t.cell (p := ⟨0, i, none⟩) (by simpa using hb.symm) h.lt).trans (h.at' i hi)⟩

theorem mss_cases {k : Int} (h0 : 0 ≤ k) (h7 : k ≤ 7) : k = 0 ∨ k = 1 ∨ k = 2 ∨ k = 3 ∨ k = 4 ∨ k = 5 ∨ k = 6 ∨ k = 7 := by omega

theorem implMssOf (k : Int) (w : World) (L : LaidM w) :
    Calls Tryd.prog 14 #[.int .i64 k] w fun e w' => e = .returned (.int .i64 (mssOf k)) ∧ w = w' := by
  have hs := fun wx => isStepC k wx
  by_cases h : 0 ≤ k ∧ k ≤ 7
  · have c0 := L.at' 0 (by decide)
    have c1 := L.at' 1 (by decide)
    have c2 := L.at' 2 (by decide)
    have c3 := L.at' 3 (by decide)
    have c4 := L.at' 4 (by decide)
    have c5 := L.at' 5 (by decide)
    have c6 := L.at' 6 (by decide)
    have c7 := L.at' 7 (by decide)
    have hl := L.lt
    simp only [h] at hs
    rcases mss_cases h.1 h.2 with rfl | rfl | rfl | rfl | rfl | rfl | rfl | rfl <;> (go_enter Tryd.func14, Tryd.ntmps14; go_wp2_with (go_at_call 23; refine (hs _).mono ?_; rintro _ _ ⟨rfl, rfl⟩); go_ret; exact ⟨rfl, rfl⟩)
  · simp only [h, decide_false] at hs
    unfold mssOf
    rw [if_neg h]
    go_enter Tryd.func14, Tryd.ntmps14
    go_wp2_with (go_at_call 23; refine (hs _).mono ?_; rintro _ _ ⟨rfl, rfl⟩)
    go_ret
    exact ⟨rfl, rfl⟩

theorem specMssOf (k : Int) (w : World) :
    Calls Tryd.prog 15 #[.int .i64 k] w fun e w' => e = .returned (.int .i64 (mssOf k)) ∧ Since w w' := by
  have hs := fun wx => specIn k 0 7 wx
  have G := (Since.refl w).alloc (.cells #[.int .i64 64, .int .i64 128, .int .i64 256, .int .i64 400, .int .i64 536, .int .i64 800, .int .i64 1200, .int .i64 1460] 3)
  by_cases h : 0 ≤ k ∧ k ≤ 7
  · simp only [h] at hs
    rcases mss_cases h.1 h.2 with rfl | rfl | rfl | rfl | rfl | rfl | rfl | rfl <;> (go_enter Tryd.func15, Tryd.ntmps15; go_wp2_with (go_at_call 27; refine (hs _).mono ?_; rintro _ _ ⟨rfl, rfl⟩); go_ret; exact ⟨rfl, G⟩)
  · simp only [h, decide_false] at hs
    unfold mssOf
    rw [if_neg h]
    go_enter Tryd.func15, Tryd.ntmps15
    go_wp2_with (go_at_call 27; refine (hs _).mono ?_; rintro _ _ ⟨rfl, rfl⟩)
    go_ret
    exact ⟨rfl, G⟩

theorem specMssStep (m : Int) (w : World) :
    Calls Tryd.prog 16 #[.int .i64 m] w fun e w' => e = .returned (.int .i64 (stepTo m 8)) ∧ Since w w' := by
  go_enter Tryd.func16, Tryd.ntmps16
  go_wp2_with (fail)
  go_loopw [3, 4] (fun b i wr => ∃ (k : Nat), k ≤ 8 ∧ b = .int .i64 (stepTo m k) ∧ i = .int .i64 k ∧ Since w wr) (fun _ i _ => 8 - (intOf i).toNat)
  case atStart => exact ⟨0, by omega, rfl, rfl, Since.refl _⟩
  case round =>
    obtain ⟨k, hk, rfl, rfl, S⟩ := hrel
    by_cases hlt : k < 8
    · have hm := fun wx => specMssOf (k : Int) wx
      have e1 : mssOf (k : Int) = mssAt k := by
        unfold mssOf
        rw [if_pos (by omega)]
        simp
      have e2 : stepTo m (k + 1) = if mssAt k ≤ m then (k : Int) else stepTo m k := rfl
      rw [e1] at hm
      clear e1
      generalize stepTo m k = B at e2 ⊢
      generalize mssAt k = M at hm e2
      have hlt' : (k : Int) < 8 := by omega
      by_cases hM : M ≤ m
      · rw [if_pos hM] at e2
        go_wp2_with (go_at_call 15; refine (hm _).mono ?_; rintro _ w1 ⟨rfl, g1⟩; replace S := S.trans g1)
        go_roundw
        case rel => exact ⟨k + 1, by omega, by rw [e2], by go_num, S⟩
        case measure => simp [intOf]; omega
      · rw [if_neg hM] at e2
        go_wp2_with (go_at_call 15; refine (hm _).mono ?_; rintro _ w1 ⟨rfl, g1⟩; replace S := S.trans g1)
        go_roundw
        case rel => exact ⟨k + 1, by omega, by rw [e2], by go_num, S⟩
        case measure => simp [intOf]; omega
    · obtain rfl : k = 8 := by omega
      go_wp2_with (fail)
      go_ret
      exact ⟨rfl, S⟩

theorem implMssStep (m : Int) (w : World) (L : LaidM w) :
    Calls Tryd.prog 13 #[.int .i64 m] w fun e w' => e = .returned (.int .i64 (stepTo m 8)) ∧ w = w' := by
  have c0 := L.at' 0 (by decide)
  have c1 := L.at' 1 (by decide)
  have c2 := L.at' 2 (by decide)
  have c3 := L.at' 3 (by decide)
  have c4 := L.at' 4 (by decide)
  have c5 := L.at' 5 (by decide)
  have c6 := L.at' 6 (by decide)
  have c7 := L.at' 7 (by decide)
  go_enter Tryd.func13, Tryd.ntmps13
  go_wp2_with (fail)
  go_loopw [3, 7] (fun b i wr => ∃ (k : Nat), k ≤ 8 ∧ b = .int .i64 (stepTo m k) ∧ i = .int .i64 k ∧ w = wr) (fun _ i _ => 8 - (intOf i).toNat)
  case atStart => exact ⟨0, by omega, rfl, rfl, rfl⟩
  case round =>
    obtain ⟨k, hk, rfl, rfl, rfl⟩ := hrel
    by_cases hlt : k < 8
    · have hidx : ∀ wx, (Instr.index 49 (.agg #[.int .i64 (mssAt 0), .int .i64 (mssAt 1), .int .i64 (mssAt 2), .int .i64 (mssAt 3), .int .i64 (mssAt 4), .int .i64 (mssAt 5), .int .i64 (mssAt 6), .int .i64 (mssAt 7)]) (.int .i64 (k : Int))).run Tryd.prog wx = .ok (.int .i64 (mssAt k)) wx := by
        match k, hlt with
        | 0, _ => exact fun wx => by kernel_rfl
        | 1, _ => exact fun wx => by kernel_rfl
        | 2, _ => exact fun wx => by kernel_rfl
        | 3, _ => exact fun wx => by kernel_rfl
        | 4, _ => exact fun wx => by kernel_rfl
        | 5, _ => exact fun wx => by kernel_rfl
        | 6, _ => exact fun wx => by kernel_rfl
        | 7, _ => exact fun wx => by kernel_rfl
      have e2 : stepTo m (k + 1) = if mssAt k ≤ m then (k : Int) else stepTo m k := rfl
      generalize mssAt 0 = m0 at hidx c0 ⊢
      generalize mssAt 1 = m1 at hidx c1 ⊢
      generalize mssAt 2 = m2 at hidx c2 ⊢
      generalize mssAt 3 = m3 at hidx c3 ⊢
      generalize mssAt 4 = m4 at hidx c4 ⊢
      generalize mssAt 5 = m5 at hidx c5 ⊢
      generalize mssAt 6 = m6 at hidx c6 ⊢
      generalize mssAt 7 = m7 at hidx c7 ⊢
      generalize stepTo m k = B at e2 ⊢
      generalize mssAt k = M at hidx e2
      have hlt' : (k : Int) < 8 := by omega
      clear c0 c1 c2 c3 c4 c5 c6 c7
      by_cases hM : M ≤ m
      · rw [if_pos hM] at e2
        go_wp2_with (fail)
        go_roundw
        case rel => exact ⟨k + 1, by omega, by rw [e2], by go_num, trivial⟩
        case measure => simp [intOf]; omega
      · rw [if_neg hM] at e2
        go_wp2_with (fail)
        go_roundw
        case rel => exact ⟨k + 1, by omega, by rw [e2], by go_num, trivial⟩
        case measure => simp [intOf]; omega
    · obtain rfl : k = 8 := by omega
      go_wp2_with (fail)
      go_ret
      exact ⟨rfl, rfl⟩
end Go.Proofs.YtjilpicpfddbfaaDoor
