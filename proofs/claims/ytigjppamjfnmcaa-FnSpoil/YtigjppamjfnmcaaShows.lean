/-
  Contracts of impl's and spec's TurnShows, at every text of at most 1048576 bytes, every place and every number.
-/
import Derived.Test.YtigjppamjfnmcaaTurn
namespace Go.Proofs.Ytigjppamjfnmcaa
open Go.ChangeShapes Go.WideShapes Go.ChangeAt Go.RowKit
set_option linter.unusedVariables false

/-- What TurnShows answers. -/
def shows (s : ByteArray) (k x : Int) : Bool := (ones s).tmod 65535 != (ones (turnOf s k x)).tmod 65535

theorem turnOf_size (s : ByteArray) (k x : Int) : (turnOf s k x).size = s.size := by
  unfold turnOf
  split
  · exact textOf_size _ _
  · rfl

theorem texts_differ {t s : ByteArray} (h : t ≠ s) : (t.toList == s.toList) = false := by
  rw [beq_eq_false_iff_ne]
  intro e
  rw [ByteArray.toList_eq, ByteArray.toList_eq] at e
  exact h (bytes_inj e)

theorem implShows (s : ByteArray) (k x : Int) (hm : s.size ≤ 1048576) (w : World) :
    Calls Try.prog 69 #[.string s, .int .i64 k, .int .i64 x] w fun e w' => e = .returned (.bool (shows s k x)) ∧ Below w.heap.size w w' := by
  have h1 := fun wx => implOnes s wx
  have h2 := fun wx => implTurned s k x hm wx
  have h3 := fun wx => implOnes (turnOf s k x) wx
  have r1 := ones_range s
  have r3 := ones_range (turnOf s k x)
  unfold shows
  generalize ones s = o1 at h1 r1 ⊢
  generalize ones (turnOf s k x) = o3 at h3 r3 ⊢
  generalize turnOf s k x = t at h2 h3 ⊢
  go_enter Try.func69, Try.ntmps69
  go_wp2_with (first | (go_at_call 70; refine (h2 _).mono ?_; rintro _ w2 ⟨rfl, g2⟩) | (go_at_call 64; refine (h1 _).mono ?_; clear h1; rintro _ w1 ⟨rfl, g1⟩) | (go_at_call 64; refine (h3 _).mono ?_; clear h3; rintro _ w3 ⟨rfl, g3⟩))
  go_ret
  have g12 := g1.trans (g2.mono g1.size)
  exact ⟨rfl, g12.trans (g3.mono g12.size)⟩
end Go.Proofs.Ytigjppamjfnmcaa
