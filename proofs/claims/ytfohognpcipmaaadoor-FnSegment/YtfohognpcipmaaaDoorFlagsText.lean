/-
  Contract of impl's flagsText, where the table of letters is as the program lays it.
-/
import Derived.Test.YtfohognpcipmaaaDoorSpecText
namespace Go.Proofs.YtfohognpcipmaaaDoor
open Go.ChangeShapes Go.WideShapes Go.ChangeAt Go.RowKit
set_option linter.unusedVariables false

/-- The table of letters. -/
def Letters (w : World) : Prop := w.cell? ⟨0, 0, none⟩ = some (.int .i64 2) ∧ w.cell? ⟨0, 1, none⟩ = some (.string ⟨#[83]⟩) ∧ w.cell? ⟨0, 2, none⟩ = some (.int .i64 16) ∧ w.cell? ⟨0, 3, none⟩ = some (.string ⟨#[65]⟩) ∧ w.cell? ⟨0, 4, none⟩ = some (.int .i64 1) ∧ w.cell? ⟨0, 5, none⟩ = some (.string ⟨#[70]⟩) ∧ w.cell? ⟨0, 6, none⟩ = some (.int .i64 4) ∧ w.cell? ⟨0, 7, none⟩ = some (.string ⟨#[82]⟩) ∧ w.cell? ⟨0, 8, none⟩ = some (.int .i64 8) ∧ w.cell? ⟨0, 9, none⟩ = some (.string ⟨#[80]⟩)

theorem letter_at (k : Nat) (hk : k < 5) (w : World) : (Instr.index 77 (.agg #[.int .i64 2, .string ⟨#[83]⟩, .int .i64 16, .string ⟨#[65]⟩, .int .i64 1, .string ⟨#[70]⟩, .int .i64 4, .string ⟨#[82]⟩, .int .i64 8, .string ⟨#[80]⟩])  (.int .i64 (k : Int))).run Tryd.prog w = .ok (.agg #[.int .i64 (flagBit k), .string ⟨#[flagCh k]⟩]) w := by
  match k, hk with
  | 0, _ => rfl
  | 1, _ => rfl
  | 2, _ => rfl
  | 3, _ => rfl
  | 4, _ => rfl

theorem flag_next (fl : Int) (j : Nat) : flagT fl (j + 1) = if hasF fl (flagBit j) = true then flagT fl j ++ ⟨#[flagCh j]⟩ else flagT fl j := rfl

set_option maxHeartbeats 2000000 in
theorem flagsText (fl : Int) (hf : IsInt fl) (w : World) (h : Letters w) :
    Calls Tryd.prog 33 #[.int .i64 fl] w fun e w' => e = .returned (.string (flagW fl)) ∧ Since w w' := by
  obtain ⟨c0, c1, c2, c3, c4, c5, c6, c7, c8, c9⟩ := h
  go_enter Tryd.func33, Tryd.ntmps33
  go_wp2
  go_loopw [3, 7] (fun o ii wr => ∃ (j : Nat), ii = .int .i64 (j : Int) ∧ j ≤ 5 ∧ o = .string (flagT fl j) ∧ Since w wr) (fun _ ii _ => 5 - (intOf ii).toNat)
  case atStart => exact ⟨0, rfl, by omega, rfl, Since.refl _⟩
  case round =>
    obtain ⟨j, rfl, hj, rfl, hs⟩ := hrel
    have hsz := flagT_size fl j
    have hap := fun wx => addT (flagT fl j) ⟨#[flagCh j]⟩ (by have : (ByteArray.mk #[flagCh j]).size = 1 := rfl; omega) wx
    have hnx := flag_next fl j
    have hss := hs
    obtain rfl | rfl | rfl | rfl | rfl | rfl : j = 0 ∨ j = 1 ∨ j = 2 ∨ j = 3 ∨ j = 4 ∨ j = 5 := by omega
    · have hx := fun wx => letter_at 0 (by omega) wx
      rw [show flagBit 0 = 2 from rfl, show flagCh 0 = 83 from rfl, show (((0 : Nat) : Int)) = 0 from rfl] at hx
      have hh := fun wx => hasFlag fl 2 hf (by simp [IsFlag]) wx
      rw [show flagBit 0 = 2 from rfl, show flagCh 0 = 83 from rfl] at hnx
      rw [show flagCh 0 = 83 from rfl] at hap
      generalize hasF fl 2 = hb at hh hnx
      generalize flagT fl 0 = F at hap hnx hsz
      generalize hF1 : flagT fl (0 + 1) = F1 at hnx
      clear hsz
      cases hb
      · simp only [Bool.false_eq_true, if_false] at hnx
        subst hnx
        go_wp2_with (go_at_call 38; refine (hh _).mono ?_; rintro _ _ ⟨rfl, rfl⟩)
        go_roundw
        case rel => exact ⟨0 + 1, by go_num, by omega, (by rw [hF1]), hss.alloc _⟩
        case measure => simp [intOf]
      · simp only [if_true] at hnx
        subst hnx
        go_wp2_with (go_at_call 38; refine (hh _).mono ?_; rintro _ _ ⟨rfl, rfl⟩)
        go_roundw
        case rel => exact ⟨0 + 1, by go_num, by omega, (by rw [hF1]), hss.alloc _⟩
        case measure => simp [intOf]
    · have hx := fun wx => letter_at 1 (by omega) wx
      rw [show flagBit 1 = 16 from rfl, show flagCh 1 = 65 from rfl, show (((1 : Nat) : Int)) = 1 from rfl] at hx
      have hh := fun wx => hasFlag fl 16 hf (by simp [IsFlag]) wx
      rw [show flagBit 1 = 16 from rfl, show flagCh 1 = 65 from rfl] at hnx
      rw [show flagCh 1 = 65 from rfl] at hap
      generalize hasF fl 16 = hb at hh hnx
      generalize flagT fl 1 = F at hap hnx hsz
      generalize hF1 : flagT fl (1 + 1) = F1 at hnx
      clear hsz
      cases hb
      · simp only [Bool.false_eq_true, if_false] at hnx
        subst hnx
        go_wp2_with (go_at_call 38; refine (hh _).mono ?_; rintro _ _ ⟨rfl, rfl⟩)
        go_roundw
        case rel => exact ⟨1 + 1, by go_num, by omega, (by rw [hF1]), hss.alloc _⟩
        case measure => simp [intOf]
      · simp only [if_true] at hnx
        subst hnx
        go_wp2_with (go_at_call 38; refine (hh _).mono ?_; rintro _ _ ⟨rfl, rfl⟩)
        go_roundw
        case rel => exact ⟨1 + 1, by go_num, by omega, (by rw [hF1]), hss.alloc _⟩
        case measure => simp [intOf]
    · have hx := fun wx => letter_at 2 (by omega) wx
      rw [show flagBit 2 = 1 from rfl, show flagCh 2 = 70 from rfl, show (((2 : Nat) : Int)) = 2 from rfl] at hx
      have hh := fun wx => hasFlag fl 1 hf (by simp [IsFlag]) wx
      rw [show flagBit 2 = 1 from rfl, show flagCh 2 = 70 from rfl] at hnx
      rw [show flagCh 2 = 70 from rfl] at hap
      generalize hasF fl 1 = hb at hh hnx
      generalize flagT fl 2 = F at hap hnx hsz
      generalize hF1 : flagT fl (2 + 1) = F1 at hnx
      clear hsz
      cases hb
      · simp only [Bool.false_eq_true, if_false] at hnx
        subst hnx
        go_wp2_with (go_at_call 38; refine (hh _).mono ?_; rintro _ _ ⟨rfl, rfl⟩)
        go_roundw
        case rel => exact ⟨2 + 1, by go_num, by omega, (by rw [hF1]), hss.alloc _⟩
        case measure => simp [intOf]
      · simp only [if_true] at hnx
        subst hnx
        go_wp2_with (go_at_call 38; refine (hh _).mono ?_; rintro _ _ ⟨rfl, rfl⟩)
        go_roundw
        case rel => exact ⟨2 + 1, by go_num, by omega, (by rw [hF1]), hss.alloc _⟩
        case measure => simp [intOf]
    · have hx := fun wx => letter_at 3 (by omega) wx
      rw [show flagBit 3 = 4 from rfl, show flagCh 3 = 82 from rfl, show (((3 : Nat) : Int)) = 3 from rfl] at hx
      have hh := fun wx => hasFlag fl 4 hf (by simp [IsFlag]) wx
      rw [show flagBit 3 = 4 from rfl, show flagCh 3 = 82 from rfl] at hnx
      rw [show flagCh 3 = 82 from rfl] at hap
      generalize hasF fl 4 = hb at hh hnx
      generalize flagT fl 3 = F at hap hnx hsz
      generalize hF1 : flagT fl (3 + 1) = F1 at hnx
      clear hsz
      cases hb
      · simp only [Bool.false_eq_true, if_false] at hnx
        subst hnx
        go_wp2_with (go_at_call 38; refine (hh _).mono ?_; rintro _ _ ⟨rfl, rfl⟩)
        go_roundw
        case rel => exact ⟨3 + 1, by go_num, by omega, (by rw [hF1]), hss.alloc _⟩
        case measure => simp [intOf]
      · simp only [if_true] at hnx
        subst hnx
        go_wp2_with (go_at_call 38; refine (hh _).mono ?_; rintro _ _ ⟨rfl, rfl⟩)
        go_roundw
        case rel => exact ⟨3 + 1, by go_num, by omega, (by rw [hF1]), hss.alloc _⟩
        case measure => simp [intOf]
    · have hx := fun wx => letter_at 4 (by omega) wx
      rw [show flagBit 4 = 8 from rfl, show flagCh 4 = 80 from rfl, show (((4 : Nat) : Int)) = 4 from rfl] at hx
      have hh := fun wx => hasFlag fl 8 hf (by simp [IsFlag]) wx
      rw [show flagBit 4 = 8 from rfl, show flagCh 4 = 80 from rfl] at hnx
      rw [show flagCh 4 = 80 from rfl] at hap
      generalize hasF fl 8 = hb at hh hnx
      generalize flagT fl 4 = F at hap hnx hsz
      generalize hF1 : flagT fl (4 + 1) = F1 at hnx
      clear hsz
      cases hb
      · simp only [Bool.false_eq_true, if_false] at hnx
        subst hnx
        go_wp2_with (go_at_call 38; refine (hh _).mono ?_; rintro _ _ ⟨rfl, rfl⟩)
        go_roundw
        case rel => exact ⟨4 + 1, by go_num, by omega, (by rw [hF1]), hss.alloc _⟩
        case measure => simp [intOf]
      · simp only [if_true] at hnx
        subst hnx
        go_wp2_with (go_at_call 38; refine (hh _).mono ?_; rintro _ _ ⟨rfl, rfl⟩)
        go_roundw
        case rel => exact ⟨4 + 1, by go_num, by omega, (by rw [hF1]), hss.alloc _⟩
        case measure => simp [intOf]
    · have hFt : (flagT fl 5).size ≠ 0 → ((flagT fl 5).toList == ([] : List UInt8)) = false := text_full' _
      have hFe : (flagT fl 5).size = 0 → flagT fl 5 = ⟨#[]⟩ := text_empty' _
      have hW : flagW fl = if (flagT fl 5).size = 0 then ⟨#[45]⟩ else flagT fl 5 := rfl
      clear hap hnx
      generalize flagT fl 5 = F5 at hFt hFe hW hsz
      by_cases hF : F5.size = 0
      · rw [if_pos hF] at hW
        obtain rfl := hFe hF
        clear hF hFt hFe hsz
        go_wp2
        go_ret
        exact ⟨by rw [hW]; rfl, hs⟩
      · rw [if_neg hF] at hW
        replace hFt := hFt hF
        clear hF hFe hsz
        go_wp2
        go_ret
        exact ⟨by rw [hW]; rfl, hs⟩
end Go.Proofs.YtfohognpcipmaaaDoor
