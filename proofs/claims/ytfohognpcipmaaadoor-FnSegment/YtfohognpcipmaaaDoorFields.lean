/-
  Contracts of the functions that read a header's fields, of must, and of the making of the struct that holds them.
-/
import Derived.Test.YtfohognpcipmaaaDoorTwo
import Derived.Test.YtfohognpcipmaaaDoorGet
import Derived.Deep.QuietTactic
import Derived.BigQuiet
import Derived.Laws.EntriesVeiled
import Derived.Laws.NewDeep
namespace Go.Proofs.YtfohognpcipmaaaDoor
open Go.ChangeShapes Go.WideShapes Go.ChangeAt Go.RowKit
set_option linter.unusedVariables false

/-- The half of a text at i. -/
def halfAt (s : ByteArray) (i : Nat) : Int := byteAt s i * 256 + byteAt s (i + 1)

/-- The word of a text at i. -/
def wordAt (s : ByteArray) (i : Nat) : Int := byteAt s i * 16777216 + byteAt s (i + 1) * 65536 + byteAt s (i + 2) * 256 + byteAt s (i + 3)

theorem half_spell (a b : Int) (ha : 0 ≤ a ∧ a < 256) (hb : 0 ≤ b ∧ b < 256) : bits .or .i64 (wrap64 (wrap64 a * 256)) (wrap64 b) = a * 256 + b := by
  have ea : wrap64 a = a := IntWalk.wrap64_in _ ⟨by omega, by omega⟩
  have eb : wrap64 b = b := IntWalk.wrap64_in _ ⟨by omega, by omega⟩
  rw [ea, eb]
  have ec : wrap64 (a * 256) = a * 256 := IntWalk.wrap64_in _ ⟨by omega, by omega⟩
  rw [ec]
  exact or_half a b ha hb

theorem Since.drewN {a b : World} (h : Since a b) (n : Nat) : Since a (b.drewN n) := ⟨h.os, h.tape, h.output, h.size, h.block⟩

theorem halfIn (s : ByteArray) (i : Nat) (hs : s.size ≤ 1048576) (hi : i + 1 < s.size) (w : World) :
    Calls Tryd.prog 50 #[.string s, .int .i64 (i : Int)] w fun e w' => e = .returned (.int .i64 (halfAt s i)) ∧ Since w w' := by
  have a0 : (i : Int) < (s.size : Int) := by omega
  have a1 : (i : Int) + 1 < (s.size : Int) := by omega
  have p1 : 0 ≤ (i : Int) + 1 := by omega
  have b1 : IntKind.i64.wrap ((i : Int) + 1) = (i : Int) + 1 := by rw [IntWalk.i64_left]; exact IntWalk.wrap64_in _ ⟨by omega, by omega⟩
  go_enter Tryd.func50, Tryd.ntmps50
  go_wp2
  go_quiet (fail)
  go_wp2
  go_ret
  refine ⟨?_, (Since.refl _).drewN _⟩
  have e := half_spell (byteAt s i) (byteAt s (i + 1)) (byteAt_range s i) (byteAt_range s (i + 1))
  rw [byteAt_in s i (by omega), byteAt_in s (i + 1) (by omega)] at e
  rw [halfAt, byteAt_in s i (by omega), byteAt_in s (i + 1) (by omega), ← e]
  rfl

/-- A function that holds a number in a variable of its own. -/
def fnVal (f : FuncId) (b : Nat) : Value := .func (.func f) #[] #[.pointer (some ⟨b, 0, none⟩)]

/-- A variable in block b holds the number i. -/
def Holds1 (w : World) (b : Nat) (i : Nat) : Prop := b < w.heap.size ∧ w.cell? ⟨b, 0, none⟩ = some (.int .i64 (i : Int))

theorem Holds1.since {w w' : World} {b i : Nat} (h : Holds1 w b i) (k : Since w w') : Holds1 w' b i := ⟨Nat.lt_of_lt_of_le h.1 k.le, (Below.cell k (p := ⟨b, 0, none⟩) h.1).trans h.2⟩

theorem Holds1.alloc {w : World} {b i : Nat} (h : Holds1 w b i) (o : Obj) : Holds1 (w.alloc o) b i := h.since ((Since.refl _).alloc _)

theorem holds1_new {w : World} {b i : Nat} {n : Int} {t : TypeId} (hb : w.heap.size = b) (hn : n = (i : Int)) : Holds1 (w.alloc (.cells #[.int .i64 n] t)) b i := by
  subst hb hn
  exact ⟨by simp, by simp⟩
end Go.Proofs.YtfohognpcipmaaaDoor
