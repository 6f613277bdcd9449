/-
  Contracts of the functions that read a header's fields, of must, and of the making of the struct that holds them.
-/
import Derived.Test.YtfohognpcipmaaaTwo
import Derived.Test.YtfohognpcipmaaaGet
import Derived.Deep.QuietTactic
import Derived.BigQuiet
import Derived.Laws.EntriesVeiled
import Derived.Laws.NewDeep
namespace Go.Proofs.Ytfohognpcipmaaa
open Go.ChangeShapes Go.WideShapes Go.ChangeAt Go.RowKit
set_option linter.unusedVariables false

/-- The half of a text at i. -/
def halfAt (s : ByteArray) (i : Nat) : Int := byteAt s i * 256 + byteAt s (i + 1)

/-- The word of a text at i. -/
def wordAt (s : ByteArray) (i : Nat) : Int := byteAt s i * 16777216 + byteAt s (i + 1) * 65536 + byteAt s (i + 2) * 256 + byteAt s (i + 3)

theorem must_true (w : World) : Calls Try.prog 43 #[.bool true] w fun e w' => e = .returned (.tuple #[]) ∧ w = w' := by
  go_enter Try.func43, Try.ntmps43
  go_wp2
  go_end0
  exact ⟨rfl, rfl⟩

theorem must_false (w : World) : Calls Try.prog 43 #[.bool false] w fun e w' => (∃ v, e = .panicked [{ v := .iface 9 v, recovered := false }]) ∧ w = w' := by
  go_enter Try.func43, Try.ntmps43
  go_wp2
  exact ⟨rfl, ⟨_, rfl⟩, rfl⟩

theorem half_spell (a b : Int) (ha : 0 ≤ a ∧ a < 256) (hb : 0 ≤ b ∧ b < 256) : bits .or .i64 (wrap64 (wrap64 a * 256)) (wrap64 b) = a * 256 + b := by
  have ea : wrap64 a = a := IntWalk.wrap64_in _ ⟨by omega, by omega⟩
  have eb : wrap64 b = b := IntWalk.wrap64_in _ ⟨by omega, by omega⟩
  rw [ea, eb]
  have ec : wrap64 (a * 256) = a * 256 := IntWalk.wrap64_in _ ⟨by omega, by omega⟩
  rw [ec]
  exact or_half a b ha hb

theorem Since.drewN {a b : World} (h : Since a b) (n : Nat) : Since a (b.drewN n) := ⟨h.os, h.tape, h.output, h.size, h.block⟩

theorem halfIn (s : ByteArray) (i : Nat) (hs : s.size ≤ 1048576) (hi : i + 1 < s.size) (w : World) :
    Calls Try.prog 67 #[.string s, .int .i64 (i : Int)] w fun e w' => e = .returned (.int .i64 (halfAt s i)) ∧ Since w w' := by
  have a0 : (i : Int) < (s.size : Int) := by omega
  have a1 : (i : Int) + 1 < (s.size : Int) := by omega
  have p1 : 0 ≤ (i : Int) + 1 := by omega
  have b1 : IntKind.i64.wrap ((i : Int) + 1) = (i : Int) + 1 := by rw [IntWalk.i64_left]; exact IntWalk.wrap64_in _ ⟨by omega, by omega⟩
  go_enter Try.func67, Try.ntmps67
  go_wp2
  go_quiet (fail)
  go_wp2
  go_ret
  refine ⟨?_, (Since.refl _).drewN _⟩
  have e := half_spell (byteAt s i) (byteAt s (i + 1)) (byteAt_range s i) (byteAt_range s (i + 1))
  rw [byteAt_in s i (by omega), byteAt_in s (i + 1) (by omega)] at e
  rw [halfAt, byteAt_in s i (by omega), byteAt_in s (i + 1) (by omega), ← e]
  rfl

theorem halfFrom1 (s : ByteArray) (b i : Nat) (hs : s.size ≤ 1048576) (hi : i + 1 < s.size) (w : World) (hc : w.cell? ⟨b, 0, none⟩ = some (.int .i64 (i : Int))) :
    Calls Try.prog 70 #[.string s, .pointer (some ⟨b, 0, none⟩)] w fun e w' => e = .returned (.int .i64 (halfAt s i)) ∧ Since w w' := by
  have hh := fun wx => halfIn s i hs hi wx
  go_enter Try.func70, Try.ntmps70
  go_wp2_with (go_at_call 67; refine (hh _).mono ?_; rintro _ w1 ⟨rfl, g1⟩)
  go_ret
  exact ⟨rfl, g1⟩

theorem byteFrom1 (s : ByteArray) (b i : Nat) (hs : s.size ≤ 1048576) (hi : i < s.size) (w : World) (hc : w.cell? ⟨b, 0, none⟩ = some (.int .i64 (i : Int))) :
    Calls Try.prog 71 #[.string s, .pointer (some ⟨b, 0, none⟩)] w fun e w' => e = .returned (.int .i64 (byteAt s i)) ∧ Since w w' := by
  have a0 : (i : Int) < (s.size : Int) := by omega
  go_enter Try.func71, Try.ntmps71
  go_wp2
  go_ret
  refine ⟨?_, Since.refl _⟩
  have e := byteAt_range s i
  rw [byteAt_in s i hi] at e
  have ec : wrap64 (s[i].toNat : Int) = (s[i].toNat : Int) := IntWalk.wrap64_in _ ⟨by omega, by omega⟩
  rw [byteAt_in s i hi]
  exact congrArg (fun z => Ending.returned (.int .i64 z)) ec

theorem wordFrom1 (s : ByteArray) (b i : Nat) (hs : s.size ≤ 1048576) (hi : i + 4 ≤ s.size) (w : World) (hc : w.cell? ⟨b, 0, none⟩ = some (.int .i64 (i : Int))) :
    Calls Try.prog 72 #[.string s, .pointer (some ⟨b, 0, none⟩)] w fun e w' => e = .returned (.int .u32 (wordAt s i)) ∧ Since w w' := by
  have hg := fun wx => implGetIn s i hi hs wx
  rw [← byteAt_in s i (by omega), ← byteAt_in s (i + 1) (by omega), ← byteAt_in s (i + 2) (by omega), ← byteAt_in s (i + 3) (by omega)] at hg
  go_enter Try.func72, Try.ntmps72
  go_wp2_with (go_at_call 68; refine (hg _).mono ?_; rintro _ w1 ⟨rfl, g1⟩)
  go_ret
  exact ⟨rfl, Since.of g1⟩

/-- A function that holds a number in a variable of its own. -/
def fnVal (f : FuncId) (b : Nat) : Value := .func (.func f) #[] #[.pointer (some ⟨b, 0, none⟩)]

theorem halfFrom (i : Int) (w : World) : Calls Try.prog 59 #[.int .i64 i] w fun e w' => e = .returned (fnVal 70 w.heap.size) ∧ w' = w.alloc (.cells #[.int .i64 i] 3) := by
  have hmf : ∀ (fn : Fn) (first cap : Array Value) (w : World), (Instr.makeFunc fn first cap).run Try.prog w = .ok (.func fn first cap) w := fun _ _ _ _ => rfl
  go_enter Try.func59, Try.ntmps59
  go_wp2
  go_ret
  exact ⟨rfl, rfl⟩

theorem byteFrom (i : Int) (w : World) : Calls Try.prog 60 #[.int .i64 i] w fun e w' => e = .returned (fnVal 71 w.heap.size) ∧ w' = w.alloc (.cells #[.int .i64 i] 3) := by
  have hmf : ∀ (fn : Fn) (first cap : Array Value) (w : World), (Instr.makeFunc fn first cap).run Try.prog w = .ok (.func fn first cap) w := fun _ _ _ _ => rfl
  go_enter Try.func60, Try.ntmps60
  go_wp2
  go_ret
  exact ⟨rfl, rfl⟩

theorem wordFrom (i : Int) (w : World) : Calls Try.prog 61 #[.int .i64 i] w fun e w' => e = .returned (fnVal 72 w.heap.size) ∧ w' = w.alloc (.cells #[.int .i64 i] 3) := by
  have hmf : ∀ (fn : Fn) (first cap : Array Value) (w : World), (Instr.makeFunc fn first cap).run Try.prog w = .ok (.func fn first cap) w := fun _ _ _ _ => rfl
  go_enter Try.func61, Try.ntmps61
  go_wp2
  go_ret
  exact ⟨rfl, rfl⟩

/-- A variable in block b holds the number i. -/
def Holds1 (w : World) (b : Nat) (i : Nat) : Prop := b < w.heap.size ∧ w.cell? ⟨b, 0, none⟩ = some (.int .i64 (i : Int))

theorem Holds1.since {w w' : World} {b i : Nat} (h : Holds1 w b i) (k : Since w w') : Holds1 w' b i := ⟨Nat.lt_of_lt_of_le h.1 k.le, (Below.cell k (p := ⟨b, 0, none⟩) h.1).trans h.2⟩

theorem Holds1.alloc {w : World} {b i : Nat} (h : Holds1 w b i) (o : Obj) : Holds1 (w.alloc o) b i := h.since ((Since.refl _).alloc _)

theorem holds1_new {w : World} {b i : Nat} {n : Int} {t : TypeId} (hb : w.heap.size = b) (hn : n = (i : Int)) : Holds1 (w.alloc (.cells #[.int .i64 n] t)) b i := by
  subst hb hn
  exact ⟨by simp, by simp⟩

set_option maxHeartbeats 1000000 in
theorem fieldsOfPacket (w : World) : Calls Try.prog 44 #[] w fun e w' => ∃ b0 b1 b2 b3 b4 b5 b6 b7 b8,
    e = .returned (.agg #[fnVal 70 b0, fnVal 70 b1, fnVal 70 b2, fnVal 70 b3, fnVal 71 b4, fnVal 71 b5, fnVal 70 b6, fnVal 72 b7, fnVal 72 b8]) ∧ Since w w' ∧ Holds1 w' b0 0 ∧ Holds1 w' b1 2 ∧ Holds1 w' b2 4 ∧ Holds1 w' b3 6 ∧ Holds1 w' b4 8 ∧ Holds1 w' b5 9 ∧ Holds1 w' b6 10 ∧ Holds1 w' b7 12 ∧ Holds1 w' b8 16 := by
  have h1 := halfFrom
  have h2 := byteFrom
  have h3 := wordFrom
  unfold fnVal at h1 h2 h3
  go_enter Try.func44, Try.ntmps44
  go_wp2_with (first | (go_at_call 59; refine (h1 _ _).mono ?_; rintro _ _ ⟨rfl, rfl⟩) | (go_at_call 60; refine (h2 _ _).mono ?_; rintro _ _ ⟨rfl, rfl⟩) | (go_at_call 61; refine (h3 _ _).mono ?_; rintro _ _ ⟨rfl, rfl⟩))
  clear h1 h2 h3
  refine bodyPost_ret (v := .agg #[fnVal 70 (w.heap.size + 1), fnVal 70 (w.heap.size + 1 + 1), fnVal 70 (w.heap.size + 1 + 1 + 1), fnVal 70 (w.heap.size + 1 + 1 + 1 + 1), fnVal 71 (w.heap.size + 1 + 1 + 1 + 1 + 1), fnVal 71 (w.heap.size + 1 + 1 + 1 + 1 + 1 + 1), fnVal 70 (w.heap.size + 1 + 1 + 1 + 1 + 1 + 1 + 1), fnVal 72 (w.heap.size + 1 + 1 + 1 + 1 + 1 + 1 + 1 + 1), fnVal 72 (w.heap.size + 1 + 1 + 1 + 1 + 1 + 1 + 1 + 1 + 1)]) ?_ rfl ⟨_, _, _, _, _, _, _, _, _, rfl, ?_, ?_, ?_, ?_, ?_, ?_, ?_, ?_, ?_, ?_⟩
  · simp [results, go_sem, fnVal]
  · repeat (first | exact Since.refl _ | apply Since.alloc)
  all_goals repeat (first | exact holds1_new (by simp) rfl | apply Holds1.alloc)
end Go.Proofs.Ytfohognpcipmaaa
