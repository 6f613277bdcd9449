/-
  Contracts of impl's and spec's TurnShows, at every text of at most 1048576 bytes, every place and every number.
-/
import Derived.Test.YthjdcgckonckoaaTurn
namespace Go.Proofs.Ythjdcgckonckoaa
open Go.ChangeShapes Go.WideShapes Go.ChangeAt Go.RowKit
set_option linter.unusedVariables false

/-- What TurnShows answers. -/
def shows (s : ByteArray) (k x : Int) : Bool := (ones s).tmod 65535 != (ones (turnOf s k x)).tmod 65535

theorem turnOf_size (s : ByteArray) (k x : Int) : (turnOf s k x).size = s.size := by
  unfold turnOf
  split
  · exact textOf_size _ _
  · rfl

theorem texts_differ {t s : ByteArray} (h : t ≠ s) : (t.toList == s.toList) = false := by
  rw [beq_eq_false_iff_ne]
  intro e
  rw [ByteArray.toList_eq, ByteArray.toList_eq] at e
  exact h (bytes_inj e)

theorem implShows (s : ByteArray) (k x : Int) (hm : s.size ≤ 1048576) (w : World) :
    Calls Try.prog 38 #[.string s, .int .i64 k, .int .i64 x] w fun e w' => e = .returned (.bool (shows s k x)) ∧ Below w.heap.size w w' := by
  have h1 := fun wx => implOnes s wx
  have h2 := fun wx => implTurned s k x hm wx
  have h3 := fun wx => implOnes (turnOf s k x) wx
  have r1 := ones_range s
  have r3 := ones_range (turnOf s k x)
  unfold shows
  generalize ones s = o1 at h1 r1 ⊢
  generalize ones (turnOf s k x) = o3 at h3 r3 ⊢
  generalize turnOf s k x = t at h2 h3 ⊢
  go_enter Try.func38, Try.ntmps38
  go_wp2_with (first | (go_at_call 39; refine (h2 _).mono ?_; rintro _ w2 ⟨rfl, g2⟩) | (go_at_call 42; refine (h1 _).mono ?_; clear h1; rintro _ w1 ⟨rfl, g1⟩) | (go_at_call 42; refine (h3 _).mono ?_; clear h3; rintro _ w3 ⟨rfl, g3⟩))
  go_ret
  have g12 := g1.trans (g2.mono g1.size)
  exact ⟨rfl, g12.trans (g3.mono g12.size)⟩

theorem specShows (s : ByteArray) (k x : Int) (hm : s.size ≤ 1048576) (w : World) :
    Calls Try.prog 32 #[.string s, .int .i64 k, .int .i64 x] w fun e w' => e = .returned (.bool (shows s k x)) ∧ Below w.heap.size w w' := by
  have h1 := fun wx => specOnes s hm wx
  have h2 := fun wx => specTurned s k x hm wx
  have h3 := fun wx => specOnes (turnOf s k x) (by rw [turnOf_size]; exact hm) wx
  have r1 := ones_range s
  have r3 := ones_range (turnOf s k x)
  by_cases ht : turnOf s k x = s
  · have e : shows s k x = false := by simp [shows, ht]
    rw [e]
    clear e h3 r3
    rw [ht] at h2
    clear ht
    go_enter Try.func32, Try.ntmps32
    go_wp2_with (go_at_call 33; refine (h2 _).mono ?_; rintro _ w2 ⟨rfl, g2⟩)
    go_ret
    exact ⟨rfl, g2⟩
  · have ht' : ((turnOf s k x).toList == s.toList) = false := texts_differ ht
    by_cases hs : 2000 < s.size
    · have hs' : (2000 : Int) < (s.size : Int) := by omega
      have e : shows s k x = false := by
        have e1 : ones s = -1 := by rw [ones, if_pos hs]
        have e2 : ones (turnOf s k x) = -1 := by rw [ones, if_pos (by rw [turnOf_size]; exact hs)]
        simp [shows, e1, e2]
      rw [e]
      clear e h3 r3
      generalize turnOf s k x = t at h2 ht ht'
      go_enter Try.func32, Try.ntmps32
      go_wp2_with (go_at_call 33; refine (h2 _).mono ?_; rintro _ w2 ⟨rfl, g2⟩)
      go_ret
      exact ⟨rfl, g2⟩
    · have hs' : ¬ (2000 : Int) < (s.size : Int) := by omega
      unfold shows
      generalize ones s = o1 at h1 r1 ⊢
      generalize ones (turnOf s k x) = o3 at h3 r3 ⊢
      generalize turnOf s k x = t at h2 h3 ht ht' ⊢
      go_enter Try.func32, Try.ntmps32
      go_wp2_with (first | (go_at_call 33; refine (h2 _).mono ?_; rintro _ w2 ⟨rfl, g2⟩) | (go_at_call 40; refine (h1 _).mono ?_; clear h1; rintro _ _ ⟨rfl, rfl⟩) | (go_at_call 40; refine (h3 _).mono ?_; clear h3; rintro _ _ ⟨rfl, rfl⟩))
      go_ret
      exact ⟨rfl, g2⟩
end Go.Proofs.Ythjdcgckonckoaa
