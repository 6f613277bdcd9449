/-
  Contracts of impl's and spec's Turned, at every text of at most 1048576 bytes, every place and every number.
-/
import Derived.Test.YtjilpicpfddbfaaDoorSpecOnes
import Derived.Laws.IdiomStrings
import Derived.Laws.BytesArg
import Derived.Lib.LazyBuf
import Derived.WalkLawsBesides
namespace Go.Proofs.YtjilpicpfddbfaaDoor
open Go.ChangeShapes Go.WideShapes Go.ChangeAt Go.RowKit
set_option linter.unusedVariables false
set_option maxRecDepth 10000

/-- The text of the first n of the numbers f 0, f 1 .. -/
def textOf (f : Nat → Int) (n : Nat) : ByteArray := strOfNums ((List.range n).map f)

theorem textOf_size (f : Nat → Int) (n : Nat) : (textOf f n).size = n := by
  simp [textOf, strOfNums_size]

theorem byteAt_textOf (f : Nat → Int) (n i : Nat) (hi : i < n) (h : 0 ≤ f i ∧ f i < 256) : byteAt (textOf f n) i = f i := by
  rw [byteAt_in _ _ (by rw [textOf_size]; exact hi)]
  have e : (textOf f n)[i]'(by rw [textOf_size]; exact hi) = UInt8.ofNat (f i).toNat := by
    show (textOf f n).data[i]'_ = _
    simp [textOf, strOfNums]
  rw [e, UInt8.toNat_ofNat']
  omega

theorem text_ext (s t : ByteArray) (h : s.size = t.size) (hb : ∀ i, i < s.size → byteAt s i = byteAt t i) : s = t := by
  have hd : s.data = t.data := by
    apply Array.ext
    · exact h
    · intro i h1 h2
      have := hb i h1
      rw [byteAt_in s i h1, byteAt_in t i h2] at this
      exact UInt8.toNat_inj.1 (by exact_mod_cast this)
  cases s
  cases t
  exact congrArg ByteArray.mk hd

theorem textOf_bytes (s : ByteArray) : textOf (byteAt s) s.size = s :=
  text_ext _ _ (textOf_size _ _) fun i hi => by
    rw [textOf_size] at hi
    exact byteAt_textOf _ _ _ hi (byteAt_range s i)

/-- The bytes of a text in a new block. -/
theorem bytesOfText (s : ByteArray) (w : World) : ∃ cap w1, (convert 9 22 (.string s)).run Tryd.prog w = .ok (.slice (some ⟨w.heap.size, 0, none⟩) s.size cap) w1 ∧
    Below w.heap.size w w1 ∧ (∀ i, i < s.size → w1.cell? ⟨w.heap.size, i, none⟩ = some (.int .u8 (byteAt s i))) ∧ (∀ i, i < s.size → w1.frozen? ⟨w.heap.size, i, none⟩ = false) := by
  refine ⟨_, _, run_bytes_of_string w 9 22 5 s Tryd.underlying9 Tryd.underlying22 Tryd.underlying5, ?_, ?_, ?_⟩
  · exact (Below.refl _ w).drew.alloc (Nat.le_refl _) _
  · intro i hi
    refine (World.cell?_alloc_mark w.drew _ _ _ i).trans ?_
    rw [bytesRow_at s _ i hi, byteAt_in s i hi]
    rfl
  · intro i hi
    refine (World.frozen?_alloc_mark w.drew _ _ _ _ i).trans ?_
    have : i < (bytesRow s (grownCap w s.size 0 5)).size := by
      simp only [bytesRow, Array.size_append, Array.size_map]
      exact Nat.lt_of_lt_of_le hi (Nat.le_add_right _ _)
    simp
    omega

theorem bytesBack (f : Nat → Int) (n cap b : Nat) (w : World) (hc : ∀ i, i < n → w.cell? ⟨b, i, none⟩ = some (.int .u8 (f i))) :
    (convert 22 9 (.slice (some ⟨b, 0, none⟩) n cap)).run Tryd.prog w = .ok (.string (textOf f n)) w := by
  refine run_convert_bytes_arg _ 22 5 Tryd.underlying22 Tryd.underlying5 b 0 n cap _ (by simp) ?_ 9 Tryd.underlying9
  intro i hi
  rw [Nat.zero_add, hc i hi]
  simp [List.getD, hi]

/-- The bytes with half k turned by x. -/
def turnF (f : Nat → Int) (k : Nat) (x : Int) (i : Nat) : Int :=
  if i = 2 * k + 1 then bits .xor .u8 (f i) (x % 256) else if i = 2 * k then bits .xor .u8 (f i) (x / 256) else f i

theorem turned_cells (s : ByteArray) (k : Nat) (x : Int) (b : Nat) (w1 : World) (hk : 2 * k + 1 < s.size) (hcell : ∀ i, i < s.size → w1.cell? ⟨b, i, none⟩ = some (.int .u8 (byteAt s i))) :
    ∀ i, i < s.size → ((w1.setCell ⟨b, k * 2, none⟩ (.int .u8 (bits .xor .u8 (byteAt s (k * 2)) (x / 256)))).setCell ⟨b, k * 2 + 1, none⟩ (.int .u8 (bits .xor .u8 (byteAt s (k * 2 + 1)) (x % 256)))).cell? ⟨b, i, none⟩ = some (.int .u8 (turnF (byteAt s) k x i)) := by
  intro i hi
  unfold turnF
  by_cases h1 : i = k * 2 + 1
  · subst h1
    rw [if_pos (by omega)]
    exact World.cell?_setCell_same' _ _ _ (by rw [World.cell?_setCell_other _ _ _ _ (by simp), hcell _ hi]; rfl)
  · rw [if_neg (by omega), World.cell?_setCell_other _ _ _ _ (by simp)]
    by_cases h2 : i = k * 2
    · subst h2
      rw [if_pos (by omega)]
      exact World.cell?_setCell_same' _ _ _ (by rw [hcell _ hi]; rfl)
    · rw [if_neg (by omega), World.cell?_setCell_other _ _ _ _ (by simp), hcell _ hi]

/-- What Turned answers. -/
def turnOf (s : ByteArray) (k x : Int) : ByteArray :=
  if (0 ≤ k ∧ k ≤ (s.size : Int) / 2 - 1) ∧ 1 ≤ x ∧ x ≤ 65535 then textOf (turnF (byteAt s) k.toNat x) s.size else s
end Go.Proofs.YtjilpicpfddbfaaDoor
