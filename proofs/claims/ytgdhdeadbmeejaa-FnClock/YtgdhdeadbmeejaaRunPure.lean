/-
  ClockRun as a fold over the ops.
-/
import Derived.Test.YtgdhdeadbmeejaaCop
import Derived.Test.YtgdhdeadbmeejaaTimPure
namespace Go.Proofs.Ytgdhdeadbmeejaa
set_option linter.unusedVariables false

/-- A clock and what has gone off. -/
def stepR (s : Int × List (Int × Int) × List Int) (o : Int × Int × Int) : Int × List (Int × Int) × List Int :=
  if o.1 = 0 then (s.1, (setC s.1 s.2.1 o.2.1 o.2.2).1, s.2.2)
  else if o.1 = 1 then (s.1, (stopC s.1 s.2.1 o.2.1).1, s.2.2)
  else if o.1 = 2 then ((goC s.1 s.2.1 o.2.2).1, (goC s.1 s.2.1 o.2.2).2.1, s.2.2 ++ (goC s.1 s.2.1 o.2.2).2.2)
  else s

/-- Behind k ops. -/
def runTo (os : List (Int × Int × Int)) (k : Nat) : Int × List (Int × Int) × List Int := (os.take k).foldl stepR (0, [], [])

/-- ClockRun. -/
def runC (os : List (Int × Int × Int)) : Int × List (Int × Int) × List Int := if os.length ≤ 1000 then runTo os os.length else (0, [], [])

theorem runTo_next (os : List (Int × Int × Int)) (k : Nat) (h : k < os.length) : runTo os (k + 1) = stepR (runTo os k) (oAt os k) := by
  unfold runTo
  rw [shO.take_next os k h, List.foldl_append]
  rfl

theorem go_off (now : Int) (ts : List (Int × Int)) (k : Int) : (goC now ts k).2.2.length ≤ ts.length := by
  unfold goC
  split
  · simp only [gone]
    rw [List.length_map]
    exact List.length_filter_le _ _
  · simp

/-- What holds behind every k ops. -/
structure Runs (s : Int × List (Int × Int) × List Int) (k : Nat) : Prop where
  ok : okC s.1 s.2.1
  off : s.2.2.length ≤ 100 * k

theorem Runs.start : Runs (0, [], []) 0 := ⟨⟨by simp, by simp, by simp, by simp, by simp⟩, by simp⟩

theorem Runs.next {s : Int × List (Int × Int) × List Int} {k : Nat} (h : Runs s k) (o : Int × Int × Int) : Runs (stepR s o) (k + 1) := by
  have hl := h.ok.2.1
  have ho := h.off
  unfold stepR
  split
  · exact ⟨okC_set h.ok, by simp only; omega⟩
  · split
    · exact ⟨okC_stop h.ok, by simp only; omega⟩
    · split
      · refine ⟨okC_go h.ok, ?_⟩
        have := go_off s.1 s.2.1 o.2.2
        simp only [List.length_append]
        omega
      · exact ⟨h.ok, by omega⟩

theorem runTo_runs (os : List (Int × Int × Int)) : ∀ k, k ≤ os.length → Runs (runTo os k) k
  | 0, _ => Runs.start
  | k + 1, h => by
    rw [runTo_next os k h]
    exact (runTo_runs os k (by omega)).next _
end Go.Proofs.Ytgdhdeadbmeejaa
