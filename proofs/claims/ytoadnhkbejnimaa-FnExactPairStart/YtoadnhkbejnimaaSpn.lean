/-
  Lists of spans; contracts of impl's spansOf, bytesIn and InHeld.
-/
import Derived.Test.YtoadnhkbejnimaaInOkI
import Derived.Test.YtoadnhkbejnimaaTabApp
namespace Go.Proofs.Ytoadnhkbejnimaa
open Go.ChangeShapes Go.WideShapes Go.ChangeAt Go.RowKit Go.Deep
set_option linter.unusedVariables false
set_option maxRecDepth 10000
set_option maxRecDepth 10000

/-- Span i. -/
def sAt (ss : List (Int × Int)) (i : Nat) : Int × Int := ss.getD i (0, 0)

/-- How many bytes spans have. -/
def sumS : List (Int × Int) → Int
  | [] => 0
  | s :: r => s.2 - s.1 + sumS r

theorem sumS_append : ∀ (l m : List (Int × Int)), sumS (l ++ m) = sumS l + sumS m
  | [], m => by simp [sumS]
  | s :: r, m => by
    simp only [List.cons_append, sumS, sumS_append r m]
    omega

theorem sAt_lt {ss : List (Int × Int)} {k : Nat} (h : k < ss.length) : sAt ss k = ss[k] := by simp [sAt, List.getD, List.getElem?_eq_getElem h]

theorem sumS_next (ss : List (Int × Int)) (k : Nat) (h : k < ss.length) : sumS (ss.take (k + 1)) = sumS (ss.take k) + ((sAt ss k).2 - (sAt ss k).1) := by
  rw [List.take_succ_eq_append_getElem h, sumS_append, sAt_lt h]
  simp [sumS]

theorem spans_at (q : Int) (ps : List (Int × ByteArray)) (k : Nat) (h : k < ps.length) : sAt (spans q ps) k = spn q (pAt ps k) := by
  rw [sAt_lt (by rw [spans_len]; exact h)]
  simp [spans, pAt, List.getD, List.getElem?_eq_getElem h]

/-- What InHeld answers. -/
def inHeld (q : Int) (d : ByteArray) (r : Int) (ps : List (Int × ByteArray)) : Int := if inOk q d r ps = true then sumS (spans q ps) else 0

theorem good_spans {q : Int} {d : ByteArray} {r : Int} {n : Nat} {ps : List (Int × ByteArray)} (g : Good q d r n ps) (hl : ps.length = n) : ∀ i, i < n → -4294967296 ≤ (sAt (spans q ps) i).1 ∧ (sAt (spans q ps) i).1 ≤ (sAt (spans q ps) i).2 ∧ (sAt (spans q ps) i).2 ≤ (sAt (spans q ps) i).1 + 1048576 ∧ (sAt (spans q ps) i).2 ≤ 4294967296 := fun i hi => by
  rw [spans_at q ps i (by omega)]
  obtain ⟨h1, h2⟩ := g.hp i hi
  obtain ⟨k1, k2, _⟩ := distI_is q (pAt ps i).1
  unfold spn
  simp only
  omega

/-- What InRoom answers. -/
def inRoomN (q : Int) (d : ByteArray) (r : Int) (ps : List (Int × ByteArray)) : Int := if inOk q d r ps = true then r - d.size else 0

theorem inOk_room {q : Int} {d : ByteArray} {r : Int} {ps : List (Int × ByteArray)} (h : inOk q d r ps = true) : (1 ≤ r ∧ r ≤ 4096) ∧ (d.size : Int) ≤ r ∧ okB 0 (r - d.size) (spans q ps) = true := by
  simpa [inOk] using h
end Go.Proofs.Ytoadnhkbejnimaa
