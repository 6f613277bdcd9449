/-
  Contracts of impl's halves (a function that tells the halves of a text to a yield) and of its OnesSum, at every text.
-/
import Derived.Test.YtjilpicpfddbfaaDoorFold
import Derived.RangeFuncNested
import Derived.RangeFuncBound
import Derived.RangeFuncCalls
import Derived.RangeFuncLeaves
import Derived.Shelf.Abstract
import Derived.Shelf.RegionOpen
import Derived.OwnWalkIn
import Derived.TacticsInMore
import Derived.LoopNIn
import Derived.LoopIn
namespace Go.Proofs.YtjilpicpfddbfaaDoor
open Go.ChangeShapes Go.WideShapes Go.ChangeAt Go.RowKit Go.Shelf
attribute [local go_sem] Oper.semAt_some
set_option linter.unusedVariables false
set_option maxRecDepth 10000

/-- The sum of the first bytes, those at even places high. -/
def part (f : Nat → Int) : Nat → Int
  | 0 => 0
  | i + 1 => part f i + (if i % 2 = 0 then 256 * f i else f i)

/-- Byte i of a text; 0 behind its end. -/
def byteAt (s : ByteArray) (i : Nat) : Int := if h : i < s.size then (s[i].toNat : Int) else 0

theorem byteAt_in (s : ByteArray) (i : Nat) (h : i < s.size) : byteAt s i = (s[i].toNat : Int) := by
  simp [byteAt, h]

theorem byteAt_range (s : ByteArray) (i : Nat) : 0 ≤ byteAt s i ∧ byteAt s i < 256 := by
  unfold byteAt
  split
  · have := UInt8.toNat_lt s[i]
    omega
  · omega

theorem part_range (f : Nat → Int) (hf : ∀ i, 0 ≤ f i ∧ f i < 256) (n : Nat) : 0 ≤ part f n ∧ part f n ≤ 65280 * n := by
  induction n with
  | zero => simp [part]
  | succ n ih =>
    have := hf n
    simp only [part]
    split <;> omega

theorem part_two (f : Nat → Int) (k : Nat) (hk : k % 2 = 0) : part f k + (f k * 256 + f (k + 1)) = part f (k + 2) := by
  have h1 : ¬ (k + 1) % 2 = 0 := by omega
  simp only [part, hk, h1, if_true, if_false]
  omega

theorem part_one (f : Nat → Int) (k : Nat) (hk : k % 2 = 0) : part f k + f k * 256 = part f (k + 1) := by
  simp only [part, hk, if_true]
  omega

/-- A half of a text. -/
abbrev Half := { x : Int // 0 ≤ x ∧ x < 65536 }

def total : List Half → Int
  | [] => 0
  | x :: xs => x.1 + total xs

theorem total_snoc (xs : List Half) (x : Half) : total (xs ++ [x]) = total xs + x.1 := by
  induction xs with
  | nil => simp [total]
  | cons y ys ih =>
    simp only [List.cons_append, total, ih]
    omega

theorem total_range (xs : List Half) : 0 ≤ total xs ∧ total xs ≤ 65535 * xs.length := by
  induction xs with
  | nil => simp [total]
  | cons y ys ih =>
    have := y.2
    simp only [total, List.length_cons]
    omega

/-- What a round of the caller's keeps: the text's own cell. -/
def Keeps (b : Nat) (W W' : World) : Prop := W.heap.size ≤ W'.heap.size ∧ W'.cell? ⟨b, 0, none⟩ = W.cell? ⟨b, 0, none⟩

theorem or_half (a b : Int) (ha : 0 ≤ a ∧ a < 256) (hb : 0 ≤ b ∧ b < 256) : bits .or .i64 (a * 256) b = a * 256 + b :=
  bits_join .i64 32 (by decide) (fun n h2 h3 => by rw [IntWalk.i64_left]; exact IntWalk.wrap64_in _ ⟨by omega, by omega⟩) 8 (a * 256) b (by omega) (by omega) (by omega) (by omega) (by omega) (by omega)
end Go.Proofs.YtjilpicpfddbfaaDoor
