/-
  Contracts of the functions on places: what impl's and spec's SeqDist, SeqLess, SeqLessEq and SeqMax answer, at every two words; no condition but that the arguments are words.
-/
import Derived.Test.YtffjedjkfhdolaaRows
import Derived.WalkKit
import Derived.ProofKit
import Derived.OpenShut
import Derived.WalkSpells
namespace Go.Proofs.Ytffjedjkfhdolaa
open Go.ChangeShapes Go.WideShapes Go.ChangeAt Go.RowKit
set_option linter.unusedVariables false

theorem tmod_small (x m : Int) (h1 : -m < x) (h2 : x < m) : x.tmod m = x := by
  by_cases h : 0 ≤ x
  · rw [Int.tmod_eq_emod_of_nonneg h, Int.emod_eq_of_lt h h2]
  · have e : x = -(-x) := by omega
    rw [e, Int.neg_tmod, Int.tmod_eq_emod_of_nonneg (by omega), Int.emod_eq_of_lt (by omega) (by omega)]

/-- x is a word. -/
def IsWord (x : Int) : Prop := 0 ≤ x ∧ x < 4294967296

theorem isWord_wf {x : Int} (h : (Lit.int .u32 x).wf = true) : IsWord x := by
  have := bounds_u32 h
  unfold IsWord
  omega

/-- d is how far b is ahead of a, round the words. -/
def IsDist (a b d : Int) : Prop := -2147483648 ≤ d ∧ d < 2147483648 ∧ (b - a - d) % 4294967296 = 0

theorem isDist_ex (a b : Int) : ∃ d, IsDist a b d := by
  by_cases h : (b - a) % 4294967296 < 2147483648
  · exact ⟨(b - a) % 4294967296, by unfold IsDist; omega⟩
  · exact ⟨(b - a) % 4294967296 - 4294967296, by unfold IsDist; omega⟩

theorem distTo (a b d : Int) (ha : IsWord a) (hb : IsWord b) (hd : IsDist a b d) (w : World) :
    Calls Try.prog 29 #[.int .u32 a, .int .u32 b] w fun e w' => e = .returned (.int .i64 d) ∧ w = w' := by
  obtain ⟨ha, ha'⟩ := ha
  obtain ⟨hb, hb'⟩ := hb
  go_enter Try.func29, Try.ntmps29
  go_wp2
  go_ret
  refine ⟨?_, rfl⟩
  have e : wrap64 (wrap32 ((b - a) % 4294967296)) = d := by
    obtain ⟨h1, h2, h3⟩ := hd
    unfold wrap64 wrap32
    omega
  simp [e]

theorem specDist (a b d : Int) (ha : IsWord a) (hb : IsWord b) (hd : IsDist a b d) (w : World) :
    Calls Try.prog 27 #[.int .u32 a, .int .u32 b] w fun e w' => e = .returned (.int .i64 d) ∧ w = w' := by
  obtain ⟨ha, ha'⟩ := ha
  obtain ⟨hb, hb'⟩ := hb
  have ht := tmod_small (b - a) 4294967296 (by omega) (by omega)
  go_enter Try.func27, Try.ntmps27
  go_wp2
  all_goals go_ret
  all_goals refine ⟨?_, rfl⟩
  all_goals obtain ⟨h1, h2, h3⟩ := hd
  all_goals simp
  all_goals omega
end Go.Proofs.Ytffjedjkfhdolaa
