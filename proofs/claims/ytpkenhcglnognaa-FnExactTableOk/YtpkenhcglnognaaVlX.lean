/-
  A pointer in few letters; ways through a region that meet again.
-/
import Derived.Test.YtpkenhcglnognaaVl
namespace Go.Proofs.Ytpkenhcglnognaa

/-- A pointer. -/
abbrev pX (b k : Nat) : Value := .pointer (some ⟨b, k, none⟩)

/-- Values in few letters (short.py writes them). -/
abbrev bF : Value := .bool false

abbrev bT : Value := .bool true

abbrev iJ (x : Int) : Value := .int .i64 x

abbrev uJ (x : Int) : Value := .int .u32 x

/-- The end of a region; what stands in the slots of which nobody asks any more (the slots 'Z k') is forgotten. -/
theorem vZ {ops : Array Oper} {Q : Exit → Act → World → Prop} {a : Act} {w : World} (t : (Nat → Value) → Array Value) (h : ∀ Z, wpList Try.prog ops Q [] { tmps := t Z, defers := [] } w) (e : a = { tmps := t (fun k => (a.tmps.toList[k]?).getD undef), defers := [] } := by kernel_rfl) : VL ops Q [] a w := by
  have h' := h (fun k => (a.tmps.toList[k]?).getD undef)
  rw [e]
  exact ⟨h'⟩

/-- Ways through a region that leave other values behind, one proof for what follows. -/
theorem vAny {T : Type} {ops : Array Oper} {Q : Exit → Act → World → Prop} {l : List Oper} {a : Act} {w : World} (F : T → Array Value) (h : ∀ t, VL ops Q [] { tmps := F t, defers := [] } w) (k : ∃ t, VL ops Q [] { tmps := F t, defers := [] } w → VL ops Q l a w) : VL ops Q l a w := by
  obtain ⟨t, ht⟩ := k
  exact ht (h t)

/-- The same with calls on the way. -/
theorem vKey {T : Type} {ops : Array Oper} {Q : Exit → Act → World → Prop} {l : List Oper} {a : Act} {w : World} (F : T → Array Value) (h : ∀ t x, Since w x → VL ops Q [] { tmps := F t, defers := [] } x) (k : (∀ t x, Since w x → VL ops Q [] { tmps := F t, defers := [] } x) → VL ops Q l a w) : VL ops Q l a w := k h
end Go.Proofs.Ytpkenhcglnognaa
