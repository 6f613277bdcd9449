/-
  Contract of spec's l04Dec, at every number from 0 to 4294967295: its decimal digits.
-/
import Derived.Test.YtfohognpcipmaaaDoorSeg
import Derived.Lib.ItoaNum
import Derived.Laws.Concat
namespace Go.Proofs.YtfohognpcipmaaaDoor
open Go.ChangeShapes Go.WideShapes Go.ChangeAt Go.RowKit
set_option linter.unusedVariables false

/-- A number's decimal text. -/
def decT (n : Int) : ByteArray := ⟨(Lib.itoa n).toArray⟩

theorem digits_len (u : Nat) : (Lib.decDigits u).length ≤ u + 1 := by
  induction u using Nat.strongRecOn with
  | _ u ih =>
    rw [Lib.decDigits]
    split
    · simp
    · have := ih (u / 10) (by omega)
      simp
      omega

/-- One digit. -/
def digT (d : Nat) : ByteArray := ⟨#[UInt8.ofNat (48 + d)]⟩

theorem dig_cut : ∀ d : Nat, d < 10 → (ByteArray.mk #[48, 49, 50, 51, 52, 53, 54, 55, 56, 57]).extract d (d + 1) = digT d
  | 0, _ => by decide
  | 1, _ => by decide
  | 2, _ => by decide
  | 3, _ => by decide
  | 4, _ => by decide
  | 5, _ => by decide
  | 6, _ => by decide
  | 7, _ => by decide
  | 8, _ => by decide
  | 9, _ => by decide
  | d + 10, h => by omega

set_option maxHeartbeats 1000000 in
theorem specDec (n : Int) (h0 : 0 ≤ n) (h1 : n ≤ 4294967295) (w : World) :
    Calls Tryd.prog 36 #[.int .i64 n] w fun e w' => e = .returned (.string (decT n)) ∧ w = w' := by
  obtain ⟨u, rfl⟩ := Int.eq_ofNat_of_zero_le h0
  by_cases hz : u = 0
  · subst hz
    go_enter Tryd.func36, Tryd.ntmps36
    go_wp2
    go_ret
    refine ⟨?_, rfl⟩
    have : decT 0 = ⟨#[48]⟩ := by
      unfold decT Lib.itoa
      rw [if_neg (by decide), show (0 : Int).toNat = 0 from rfl, Lib.decDigits, dif_pos (by decide)]
      rfl
    simp [this]
  · have hz' : ((u : Int) == 0) = false := by simp; omega
    have hneg : ¬ (u : Int) < 0 := by omega
    go_enter Tryd.func36, Tryd.ntmps36
    go_wp2
    go_loop [3, 4] (fun o i => ∃ (m : Nat) (out : ByteArray), i = .int .i64 (m : Int) ∧ o = .string out ∧ m ≤ u ∧ (if m = 0 then [] else Lib.decDigits m) ++ out.data.toList = Lib.decDigits u) (fun o i => (intOf i).toNat)
    case atStart => exact ⟨u, ⟨#[]⟩, rfl, rfl, Nat.le_refl _, by simp [hz]⟩
    case round =>
      obtain ⟨m, out, rfl, rfl, hmu, hdig⟩ := hrel
      by_cases hm : m = 0
      · subst hm
        go_wp2
        go_ret
        refine ⟨?_, rfl⟩
        have e : decT (u : Int) = out := by
          unfold decT Lib.itoa
          rw [if_neg (by omega), Int.toNat_natCast, ← hdig]
          simp
        simp [e]
      · have hm' : ((m : Int) == 0) = false := by simp; omega
        obtain ⟨dd, hdd, hd10⟩ : ∃ dd : Nat, (m : Int).tmod 10 = (dd : Int) ∧ dd = m % 10 := ⟨m % 10, by rw [Int.tmod_eq_emod_of_nonneg (by omega)]; omega, rfl⟩
        have hq : (m : Int).tdiv 10 = ((m / 10 : Nat) : Int) := by rw [Int.tdiv_eq_ediv_of_nonneg (by omega)]; omega
        have hdn : ¬ (dd : Int) < 0 := by omega
        have hdl : (dd : Int) ≤ (dd : Int) + 1 := by omega
        have hdt : (dd : Int) + 1 ≤ 10 := by omega
        have hlen : out.size ≤ u + 1 := by
          have h2 := digits_len u
          rw [← hdig] at h2
          simp at h2
          have h3 : out.data.size = out.size := rfl
          omega
        have hcut := dig_cut dd (by omega)
        have hadd := fun wx => run_string_add_sum (P := Tryd.prog) wx (digT dd) out (by have : (digT dd).size = 1 := rfl; omega)
        go_wp2
        have hc2 := dig_cut (m % 10) (by omega)
        have hap : (digT (m % 10) ++ out).data.toList = UInt8.ofNat (48 + m % 10) :: out.data.toList := by
          rw [ByteArray.data_append]
          simp [digT]
        refine ⟨⟨m / 10, digT (m % 10) ++ out, by simp, by rw [hc2], by omega, ?_⟩, ?_⟩
        · rw [hap, ← hdig, if_neg hm]
          conv => rhs; rw [Lib.decDigits]
          by_cases h10 : m < 10
          · rw [dif_pos h10, if_pos (by omega), show m % 10 = m by omega]
            rfl
          · rw [dif_neg h10, if_neg (by omega)]
            simp
        · simp [intOf]
          omega
end Go.Proofs.YtfohognpcipmaaaDoor
