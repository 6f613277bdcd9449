/-
  Spans of bytes behind Next: in order with gaps between; which bytes they cover.
-/
import Derived.Test.YtpkenhcglnognaaPrt
import Derived.Test.YtpkenhcglnognaaM1
namespace Go.Proofs.Ytpkenhcglnognaa
open Go.ChangeShapes Go.WideShapes Go.ChangeAt Go.RowKit Go.Deep
set_option linter.unusedVariables false
set_option maxRecDepth 10000

/-- How far b is ahead of a, round the words. -/
def distI (a b : Int) : Int := (b - a + 2147483648) % 4294967296 - 2147483648

theorem distI_is (a b : Int) : IsDist a b (distI a b) := by
  unfold IsDist distI
  omega

/-- In order, with a gap ahead of each (behind e), each with a byte, none beyond W. -/
def okB : Int → Int → List (Int × Int) → Bool
  | _, _, [] => true
  | e, W, s :: r => decide (e < s.1 ∧ s.1 < s.2 ∧ s.2 ≤ W) && okB s.2 W r

/-- A part's span. -/
def spn (q : Int) (p : Int × ByteArray) : Int × Int := (distI q p.1, distI q p.1 + p.2.size)

/-- The parts' spans. -/
def spans (q : Int) (ps : List (Int × ByteArray)) : List (Int × Int) := ps.map (spn q)

/-- What InOk answers. -/
def inOk (q : Int) (d : ByteArray) (r : Int) (ps : List (Int × ByteArray)) : Bool := decide (1 ≤ r ∧ r ≤ 4096) && (decide ((d.size : Int) ≤ r) && okB 0 (r - d.size) (spans q ps))

/-- What is known of a buffer of bytes that came. -/
structure Good (q : Int) (d : ByteArray) (r : Int) (n : Nat) (ps : List (Int × ByteArray)) : Prop where
  hq : IsWord q
  hd : d.size ≤ 1048576
  hr : IsInt r
  hn : n ≤ 1048576
  hp : ∀ i, i < n → IsWord (pAt ps i).1 ∧ (pAt ps i).2.size ≤ 1048576

theorem okB_many : ∀ (l : List (Int × Int)) (e W : Int), okB e W l = true → e ≤ W → (l.length : Int) ≤ W - e
  | [], e, W, _, h => by simpa using h
  | s :: r, e, W, h, hw => by
    simp only [okB, Bool.and_eq_true, decide_eq_true_eq] at h
    have := okB_many r s.2 W h.2 (by omega)
    simp
    omega

theorem okB_great {l : List (Int × Int)} {W : Int} (hW : W ≤ 4096) (hW0 : 0 ≤ W) (h : 4096 < l.length) : okB 0 W l = false := by
  cases hk : okB 0 W l
  · rfl
  · have := okB_many l 0 W hk hW0
    omega

theorem spans_len (q : Int) (ps : List (Int × ByteArray)) : (spans q ps).length = ps.length := by simp [spans]

theorem spans_drop (q : Int) (ps : List (Int × ByteArray)) (k : Nat) (h : k < ps.length) : (spans q ps).drop k = spn q (pAt ps k) :: (spans q ps).drop (k + 1) := by
  have hl : k < (spans q ps).length := by rw [spans_len]; exact h
  rw [List.drop_eq_getElem_cons hl]
  congr 1
  simp [spans, pAt, List.getD, List.getElem?_eq_getElem h]

theorem okB_step {q W e : Int} {ps : List (Int × ByteArray)} {k : Nat} (h : k < ps.length) : okB e W ((spans q ps).drop k) = (decide (e < (spn q (pAt ps k)).1 ∧ (spn q (pAt ps k)).1 < (spn q (pAt ps k)).2 ∧ (spn q (pAt ps k)).2 ≤ W) && okB (spn q (pAt ps k)).2 W ((spans q ps).drop (k + 1))) := by
  rw [spans_drop q ps k h, okB]

theorem okB_end {q W e : Int} {ps : List (Int × ByteArray)} {k : Nat} (h : ps.length ≤ k) : okB e W ((spans q ps).drop k) = true := by
  rw [List.drop_eq_nil_of_le (by rw [spans_len]; exact h), okB]
end Go.Proofs.Ytpkenhcglnognaa
