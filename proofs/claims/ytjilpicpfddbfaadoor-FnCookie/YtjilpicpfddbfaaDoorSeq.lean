/-
  Contracts of the functions on places: what impl's and spec's SeqDist, SeqLess, SeqLessEq and SeqMax answer, at every two words; no condition but that the arguments are words.
-/
import Derived.Test.YtjilpicpfddbfaaDoorRows
import Derived.WalkKit
import Derived.ProofKit
import Derived.OpenShut
import Derived.WalkSpells
import Derived.Below
namespace Go.Proofs.YtjilpicpfddbfaaDoor
open Go.ChangeShapes Go.WideShapes Go.ChangeAt Go.RowKit
set_option linter.unusedVariables false
set_option maxRecDepth 10000

/-- What was there is as it was; there may be new blocks. -/
def Newer (w w' : World) : Prop := Grown w w' ∧ Below w.heap.size w w'

theorem Newer.refl (w : World) : Newer w w := ⟨Grown.refl _, Below.refl _ _⟩

theorem Newer.trans {a b c : World} (h : Newer a b) (k : Newer b c) : Newer a c :=
  ⟨⟨World.keptBut_trans h.1.1 k.1.1, fun x => (k.1.2.1 x).trans (h.1.2.1 x), Nat.le_trans h.1.2.2 k.1.2.2⟩, h.2.trans (k.2.mono h.1.2.2)⟩

theorem Newer.size {a b : World} (h : Newer a b) : a.heap.size ≤ b.heap.size := h.1.2.2

theorem Newer.alloc {a b : World} (h : Newer a b) (c : Array Value) (t : TypeId) : Newer a (b.alloc (.cells c t)) :=
  ⟨Grown.alloc h.1 c t, h.2.alloc h.1.2.2 _⟩

theorem Newer.drew {a b : World} (h : Newer a b) : Newer a b.drew := ⟨Grown.drew h.1, h.2.drew⟩

theorem Newer.setCell {a b : World} (h : Newer a b) {p : Addr} (hp : a.heap.size ≤ p.block) (v : Value) : Newer a (b.setCell p v) :=
  ⟨Grown.setCell h.1 hp v, h.2.setCell hp v⟩

theorem tmod_small (x m : Int) (h1 : -m < x) (h2 : x < m) : x.tmod m = x := by
  by_cases h : 0 ≤ x
  · rw [Int.tmod_eq_emod_of_nonneg h, Int.emod_eq_of_lt h h2]
  · have e : x = -(-x) := by omega
    rw [e, Int.neg_tmod, Int.tmod_eq_emod_of_nonneg (by omega), Int.emod_eq_of_lt (by omega) (by omega)]

/-- x is a word. -/
def IsWord (x : Int) : Prop := 0 ≤ x ∧ x < 4294967296

theorem isWord_wf {x : Int} (h : (Lit.int .u32 x).wf = true) : IsWord x := by
  have := bounds_u32 h
  unfold IsWord
  omega

/-- d is how far b is ahead of a, round the words. -/
def IsDist (a b d : Int) : Prop := -2147483648 ≤ d ∧ d < 2147483648 ∧ (b - a - d) % 4294967296 = 0

theorem isDist_ex (a b : Int) : ∃ d, IsDist a b d := by
  by_cases h : (b - a) % 4294967296 < 2147483648
  · exact ⟨(b - a) % 4294967296, by unfold IsDist; omega⟩
  · exact ⟨(b - a) % 4294967296 - 4294967296, by unfold IsDist; omega⟩
end Go.Proofs.YtjilpicpfddbfaaDoor
