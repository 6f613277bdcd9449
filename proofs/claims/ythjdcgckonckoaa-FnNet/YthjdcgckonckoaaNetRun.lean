/-
  Contracts of impl's and spec's NetRun, at every net of at most 1048576 texts of at most 1048576 bytes and every list of ops.
-/
import Derived.Test.YthjdcgckonckoaaNetDoLaw
import Derived.Test.YthjdcgckonckoaaOps
import Derived.Test.YthjdcgckonckoaaDrawnStore
namespace Go.Proofs.Ythjdcgckonckoaa
open Go.ChangeShapes Go.WideShapes Go.ChangeAt Go.RowKit
set_option linter.unusedVariables false

/-- What an op of a list makes of a net. -/
def doAt (ss : List ByteArray) (os : List Op4) (j : Nat) : List ByteArray × ByteArray × Bool := netDo ss (opAt os j).k (opAt os j).a (opAt os j).h (opAt os j).t

/-- The net behind the first j ops, and what arrived. -/
def runTo (ss : List ByteArray) (os : List Op4) : Nat → List ByteArray × List ByteArray
  | 0 => (ss, [])
  | j + 1 => ((doAt (runTo ss os j).1 os j).1, if (doAt (runTo ss os j).1 os j).2.2 = true then (runTo ss os j).2 ++ [(doAt (runTo ss os j).1 os j).2.1] else (runTo ss os j).2)

/-- What NetRun answers. -/
def netRun (ss : List ByteArray) (os : List Op4) : List ByteArray × List ByteArray := if 1000 < os.length then (ss, []) else runTo ss os os.length

theorem txt_append (a b : List ByteArray) (i : Nat) : txt (a ++ b) i = if i < a.length then txt a i else txt b (i - a.length) := by
  simp only [txt, List.getD, List.getElem?_append]
  split <;> rfl

theorem netOk_all (ss : List ByteArray) : netOk ss = true ↔ ss.length ≤ 200 ∧ ∀ s ∈ ss, s.size ≤ 2000 := by
  simp [netOk, fits]

theorem mem_without {ss : List ByteArray} {i : Nat} {s : ByteArray} (h : s ∈ without ss i) : s ∈ ss := by
  rcases List.mem_append.1 h with h | h
  · exact List.mem_of_mem_take h
  · exact List.mem_of_mem_drop h

theorem txt_mem {ss : List ByteArray} {i : Nat} (h : i < ss.length) : txt ss i ∈ ss := by
  simp [txt, List.getD, List.getElem?_eq_getElem h]

theorem netDo_ok (ss : List ByteArray) (k a h t : Int) (hok : netOk ss = true) : netOk (netDo ss k a h t).1 = true := by
  obtain ⟨h1, h2⟩ := (netOk_all ss).1 hok
  unfold netDo
  split
  · rename_i hc
    have hp := placeOf_lt a ss.length hc.2
    generalize placeOf a ss.length = i at hp ⊢
    have hm := h2 _ (txt_mem hp)
    have hw : (without ss i).length = ss.length - 1 := without_len ss i _ rfl hp
    have hwm : ∀ s ∈ without ss i, s.size ≤ 2000 := fun s hs => h2 s (mem_without hs)
    unfold befallen
    split
    · exact (netOk_all _).2 ⟨by simp only; omega, hwm⟩
    split
    · simp only
      split
      · refine (netOk_all _).2 ⟨by simp; omega, fun s hs => ?_⟩
        rcases List.mem_append.1 hs with h | h
        · exact h2 s h
        · rw [List.mem_singleton.1 h]
          exact hm
      · exact hok
    split
    · simp only
      split
      · refine (netOk_all _).2 ⟨by simpa using h1, fun s hs => ?_⟩
        rcases List.mem_or_eq_of_mem_set hs with h | h
        · exact h2 s h
        · rw [h, turnOf_size]
          exact hm
      · exact hok
    split
    · refine (netOk_all _).2 ⟨by simp only [List.length_append, hw, List.length_singleton]; omega, fun s hs => ?_⟩
      rcases List.mem_append.1 hs with h | h
      · exact hwm s h
      · rw [List.mem_singleton.1 h]
        exact hm
    split
    · exact (netOk_all _).2 ⟨by simp only; omega, hwm⟩
    · exact hok
  · exact hok

theorem run_ok (ss : List ByteArray) (os : List Op4) (hok : netOk ss = true) : ∀ j, netOk (runTo ss os j).1 = true
  | 0 => hok
  | j + 1 => netDo_ok _ _ _ _ _ (run_ok ss os hok j)

theorem run_not (ss : List ByteArray) (os : List Op4) (hok : netOk ss = false) : ∀ j, runTo ss os j = (ss, [])
  | 0 => rfl
  | j + 1 => by
    have ih := run_not ss os hok j
    have e : doAt ss os j = (ss, ByteArray.empty, false) := netDo_not ss _ _ _ _ hok
    simp [runTo, ih, e]

theorem run_len (ss : List ByteArray) (os : List Op4) (hn : ss.length ≤ 1048576) (j : Nat) : (runTo ss os j).1.length ≤ 1048576 := by
  cases hok : netOk ss
  · rw [run_not ss os hok]
    exact hn
  · have := ((netOk_all _).1 (run_ok ss os hok j)).1
    omega

theorem came_len (ss : List ByteArray) (os : List Op4) : ∀ j, (runTo ss os j).2.length ≤ j
  | 0 => by simp [runTo]
  | j + 1 => by
    have := came_len ss os j
    simp only [runTo]
    split <;> simp <;> omega
end Go.Proofs.Ythjdcgckonckoaa
