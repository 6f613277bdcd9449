/-
  What becomes of a word that is mixed with a list of words: contracts of spec's and impl's MixWords.
-/
import Derived.Test.YtjilpicpfddbfaaDoorU32
namespace Go.Proofs.YtjilpicpfddbfaaDoor
open Go.ChangeShapes Go.WideShapes Go.ChangeAt Go.RowKit Go.Deep
set_option linter.unusedVariables false
set_option maxRecDepth 10000

/-- One word mixed in. -/
def mixStep (h x : Int) : Int := bits .xor .u32 (IntKind.u32.wrap (bits .xor .u32 h x * 2654435761)) (IntKind.u32.wrap (bits .xor .u32 h x * 2654435761) / 32768)

/-- A list of words mixed in. -/
def mixOf (h : Int) (xs : List Int) : Int := xs.foldl mixStep h

theorem mixOf_next (h : Int) (xs : List Int) (k : Nat) (hk : k < xs.length) : mixOf h (xs.take (k + 1)) = mixStep (mixOf h (xs.take k)) (uAt xs k) := by
  rw [List.take_add_one]
  unfold mixOf uAt
  rw [List.foldl_append, List.getD_eq_getElem?_getD]
  simp [hk]

set_option maxHeartbeats 1000000 in
theorem specMix (key : Int) (a : Option Addr) (n cap : Nat) (ns : List Int) (hn : n ≤ 1048576) (w : World) (R : Rd shU w a n ns) :
    Calls Tryd.prog 28 #[.int .u32 key, .slice a n cap] w fun e w' => e = .returned (.int .u32 (mixOf key ns)) ∧ Since w w' := by
  go_enter Tryd.func28, Tryd.ntmps28
  go_wp2
  go_loopw [5, 6] (fun h i wr => ∃ (k : Nat), k ≤ n ∧ h = .int .u32 (mixOf key (ns.take k)) ∧ i = .int .i64 k ∧ Since w wr) (fun _ i _ => n - (intOf i).toNat)
  case atStart => exact ⟨0, by omega, rfl, rfl, Since.refl _⟩
  case round =>
    obtain ⟨k, hk, rfl, rfl, S⟩ := hrel
    by_cases hlt : k < n
    · obtain ⟨x, rfl, hb, q0⟩ := (R.since S).numU k hlt
      have hlt' : (k : Int) < (n : Int) := by omega
      have hs := mixOf_next key ns k (by rw [R.len]; exact hlt)
      generalize mixOf key (ns.take k) = H at hs
      generalize uAt ns k = O at q0 hs
      clear R
      go_wp2
      go_roundw
      case rel => exact ⟨k + 1, by omega, by rw [hs]; rfl, by go_num, S⟩
      case measure => simp [intOf]; omega
    · have hkn : k = n := by omega
      subst hkn
      have e : ns.take k = ns := List.take_of_length_le (Nat.le_of_eq R.len)
      rw [e]
      generalize hH : mixOf key ns = H
      clear R
      go_wp2
      go_ret
      exact ⟨by rw [hH]; rfl, S⟩

set_option maxHeartbeats 1000000 in
theorem implMixed (key : Int) (a : Option Addr) (n cap : Nat) (ns : List Int) (hn : n ≤ 1048576) (w : World) (R : Rd shU w a n ns) :
    Calls Tryd.prog 25 #[.int .u32 key, .slice a n cap] w fun e w' => e = .returned (.int .u32 (mixOf key ns)) ∧ Since w w' := by
  go_enter Tryd.func25, Tryd.ntmps25
  go_wp2
  go_loopw [0, 9] (fun h i wr => ∃ (k : Nat), k ≤ n ∧ h = .int .u32 (mixOf key (ns.take k)) ∧ i = .int .i64 k ∧ Since w wr) (fun _ i _ => n - (intOf i).toNat)
  case atStart => exact ⟨0, by omega, rfl, rfl, Since.refl _⟩
  case round =>
    obtain ⟨k, hk, rfl, rfl, S⟩ := hrel
    by_cases hlt : k < n
    · obtain ⟨x, rfl, hb, q0⟩ := (R.since S).numU k hlt
      have hlt' : (k : Int) < (n : Int) := by omega
      have hs := mixOf_next key ns k (by rw [R.len]; exact hlt)
      generalize mixOf key (ns.take k) = H at hs
      generalize uAt ns k = O at q0 hs
      clear R
      go_wp2
      go_roundw
      case rel => exact ⟨k + 1, by omega, by rw [hs]; rfl, by go_num, S⟩
      case measure => simp [intOf]; omega
    · have hkn : k = n := by omega
      subst hkn
      have e : ns.take k = ns := List.take_of_length_le (Nat.le_of_eq R.len)
      rw [e]
      generalize hH : mixOf key ns = H
      clear R
      go_wp2
      go_ret
      exact ⟨by rw [hH]; rfl, S⟩
end Go.Proofs.YtjilpicpfddbfaaDoor
