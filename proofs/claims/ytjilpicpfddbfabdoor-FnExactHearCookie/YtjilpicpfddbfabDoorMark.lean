/-
  Contract of the laws' marks: markText answers a text that hangs on its number alone.
-/
import Derived.Test.YtjilpicpfddbfabDoorRow
import Derived.Test.YtjilpicpfddbfabDoorTurn
import Derived.Laws.Concat
import Derived.LoopTactic
namespace Go.Proofs.YtjilpicpfddbfabDoor
open Go.ChangeShapes Go.WideShapes Go.ChangeAt Go.RowKit
set_option linter.unusedVariables false
set_option maxRecDepth 10000

/-- A digit's text. -/
def digOf (m : Nat) : ByteArray := textOf (fun _ => 48 + ((m % 10 : Nat) : Int)) 1

/-- The digits of m ahead of out. -/
def markGo : Nat → Nat → ByteArray → ByteArray
  | 0, _, out => out
  | f + 1, m, out => if m = 0 then out else markGo f (m / 10) (digOf m ++ out)

/-- The mark of a number. -/
def markOf (k : Int) : ByteArray := ⟨#[109]⟩ ++ markGo k.toNat k.toNat ⟨#[]⟩

theorem markGo_zero (f : Nat) (out : ByteArray) : markGo f 0 out = out := by
  cases f <;> simp [markGo]

theorem digOf_size (m : Nat) : (digOf m).size = 1 := textOf_size _ _

set_option maxHeartbeats 1000000 in
theorem markText (k : Int) (h0 : 1 ≤ k) (h1 : k ≤ 1073741824) (w : World) :
    Calls Tryd.prog 66 #[.int .i64 k] w fun e w' => e = .returned (.string (markOf k)) ∧ Since w w' := by
  obtain ⟨u, rfl⟩ := Int.eq_ofNat_of_zero_le (show 0 ≤ k by omega)
  have hpos : ¬ (u : Int) ≤ 0 := by omega
  have hmk : markOf (u : Int) = ⟨#[109]⟩ ++ markGo u u ⟨#[]⟩ := rfl
  rw [hmk]
  generalize hU : markGo u u ⟨#[]⟩ = U
  clear hmk
  go_enter Tryd.func66, Tryd.ntmps66
  go_wp2
  go_loopw [0, 3] (fun i o wr => ∃ (m f : Nat) (out : ByteArray), i = .int .i64 (m : Int) ∧ o = .string out ∧ m ≤ f ∧ out.size + m ≤ u ∧ Hid (markGo f m out = U) ∧ Since w wr) (fun i _ _ => (intOf i).toNat)
  case atStart => exact ⟨u, u, ⟨#[]⟩, rfl, rfl, Nat.le_refl _, by simp [ByteArray.size], hU, Since.refl _⟩
  case round =>
    obtain ⟨m, f, out, rfl, rfl, hmf, hsz, hgo, S⟩ := hrel
    by_cases hm : m = 0
    · subst hm
      have hgo' := hgo.out
      rw [markGo_zero] at hgo'
      subst hgo'
      have hadd := run_string_add_sum (P := Tryd.prog) wr ⟨#[109]⟩ out (by have : (ByteArray.mk #[109]).size = 1 := rfl; omega)
      go_wp2
      go_ret
      exact ⟨rfl, S⟩
    · have hm' : (0 : Int) < (m : Int) := by omega
      have hrem : (m : Int).tmod 10 = ((m % 10 : Nat) : Int) := by rw [Int.tmod_eq_emod_of_nonneg (by omega)]; omega
      have hq : (m : Int).tdiv 10 = ((m / 10 : Nat) : Int) := by rw [Int.tdiv_eq_ediv_of_nonneg (by omega)]; omega
      have hw1 : IntKind.i64.wrap (48 + ((m % 10 : Nat) : Int)) = 48 + ((m % 10 : Nat) : Int) := by rw [IntWalk.i64_left]; exact IntWalk.wrap64_in _ ⟨by omega, by omega⟩
      have hw2 : IntKind.u8.wrap (48 + ((m % 10 : Nat) : Int)) = 48 + ((m % 10 : Nat) : Int) := by simp [IntKind.wrap, IntKind.bits, IntKind.signed]; omega
      have hback := bytesBack (fun _ => 48 + ((m % 10 : Nat) : Int)) 1 1 wr.heap.size (wr.alloc (.cells #[.int .u8 (48 + ((m % 10 : Nat) : Int))] 5)) (by intro i hi; obtain rfl : i = 0 := (by omega); simp)
      have hadd := fun wx => run_string_add_sum (P := Tryd.prog) wx (digOf m) out (by rw [digOf_size]; omega)
      have hd : textOf (fun _ => 48 + ((m % 10 : Nat) : Int)) 1 = digOf m := rfl
      rw [hd] at hback
      clear hd
      have hx : Hid (markGo f m out = U) := hgo
      clear hgo
      generalize hg10 : m % 10 = d at *
      go_wp2
      go_roundw
      case rel =>
        obtain ⟨f', rfl⟩ : ∃ f', f = f' + 1 := ⟨f - 1, by omega⟩
        refine ⟨m / 10, f', digOf m ++ out, by simp, rfl, by omega, ?_, ?_, S.alloc _⟩
        · rw [ByteArray.size_append, digOf_size]; omega
        · have h2 := hx.out
          simp only [markGo, if_neg hm] at h2
          exact h2
      case measure => simp [intOf]; omega
end Go.Proofs.YtjilpicpfddbfabDoor
