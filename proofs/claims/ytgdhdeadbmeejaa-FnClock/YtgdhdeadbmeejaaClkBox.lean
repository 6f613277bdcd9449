/-
  Variables for clocks that come in a region whose order is open.
-/
import Derived.Test.YtgdhdeadbmeejaaTimSpec
import Derived.Test.YtgdhdeadbmeejaaDrawnStore
namespace Go.Proofs.Ytgdhdeadbmeejaa
open Go.ChangeShapes Go.WideShapes Go.ChangeAt Go.RowKit Go.Deep
set_option linter.unusedVariables false

/-- A clock's variable. -/
def AtBox (x : World) (b : Nat) (u0 u1 : Value) : Prop := x.heap[b]? = some (.cells #[u0, u1] 26 (0, 0))

theorem AtBox.since {x x' : World} {b : Nat} {u0 u1 : Value} (h : AtBox x b u0 u1) (k : Since x x') : AtBox x' b u0 u1 := (Below.block k b (Array.getElem?_eq_some_iff.1 h).1).trans h

theorem AtBox.blk {x : World} {b : Nat} {u0 u1 : Value} (h : AtBox x b u0 u1) : Blk b x #[u0, u1] :=
  ⟨(Array.getElem?_eq_some_iff.1 h).1, fun i => frozen_of_row x b i _ _ h, fun i => cell_of_row x b i _ _ _ h⟩

theorem AtBox.put {x : World} {b : Nat} {u0 u1 : Value} (h : AtBox x b u0 u1) (v0 v1 : Value) : AtBox ((x.setCell ⟨b, 0, none⟩ v0).setCell ⟨b, 1, none⟩ v1) b v0 v1 := by
  have h1 := heap_setCell_same x b 0 #[u0, u1] _ v0 h
  have h2 := heap_setCell_same _ b 1 _ _ v1 h1
  exact h2

theorem Own.atBox {α : Type} {S : Shape α} {x : World} {B b n : Nat} {v u0 u1 : Value} {xs : List α} (T : Own S x B v n xs) (h : AtBox x b u0 u1) (hty : S.ty ≠ 26) : v.ownBlock ≠ some b := by
  intro e
  obtain ⟨cur, h1⟩ := T.tag e
  rw [show x.heap[b]? = _ from h] at h1
  injection h1 with h1
  injection h1 with _ h1
  exact hty h1.symm

theorem Own.putBox {α : Type} {S : Shape α} {x : World} {B b n : Nat} {v u0 u1 : Value} {xs : List α} (T : Own S x B v n xs) (h : AtBox x b u0 u1) (hty : S.ty ≠ 26) (v0 v1 : Value) : Own S ((x.setCell ⟨b, 0, none⟩ v0).setCell ⟨b, 1, none⟩ v1) B v n xs := T.touch (((Touch.refl b x).put 0 v0).put 1 v1) (T.atBox h hty)

/-- A new variable for a clock, whatever it holds. -/
def IsBoxC (B : Nat) (x : World) (v : Value) : Prop := ∃ b u0 u1, v = .pointer (some ⟨b, 0, none⟩) ∧ B ≤ b ∧ AtBox x b u0 u1

theorem IsBoxC.since {B : Nat} {x x' : World} {v : Value} (h : IsBoxC B x v) (k : Since x x') : IsBoxC B x' v := by
  obtain ⟨b, u0, u1, e, hB, hb⟩ := h
  exact ⟨b, u0, u1, e, hB, hb.since k⟩

theorem IsBoxC.new {B : Nat} {x : World} (h : B ≤ x.heap.size) : IsBoxC B (x.alloc (.cells #[.int .i64 0, .slice none 0 0] 26)) (.pointer (some ⟨x.heap.size, 0, none⟩)) := ⟨_, _, _, rfl, h, heap_alloc_new x _⟩

theorem IsBoxC.put {B b : Nat} {x : World} {v u0 u1 : Value} (h : IsBoxC B x v) (hb : AtBox x b u0 u1) (v0 v1 : Value) : IsBoxC B ((x.setCell ⟨b, 0, none⟩ v0).setCell ⟨b, 1, none⟩ v1) v := by
  obtain ⟨b', t0, t1, e, hB, hb'⟩ := h
  by_cases hbb : b' = b
  · subst hbb
    exact ⟨b', _, _, e, hB, hb.put v0 v1⟩
  · exact ⟨b', t0, t1, e, hB, ((Below.heap_setCell _ ⟨b, 1, none⟩ v1 b' hbb).trans (Below.heap_setCell x ⟨b, 0, none⟩ v0 b' hbb)).trans hb'⟩

/-- A list of numbers of our own of some length. -/
def IsInts (B : Nat) (ns : List Int) (x : World) (v : Value) : Prop := ∃ g q c, v = .slice (some ⟨g, 0, none⟩) q c ∧ Held shI x B g q c ns

/-- What comes beside a clock: b, or a list. -/
def Beside (B : Nat) (e : Bool ⊕ List Int) (x : World) (v : Value) : Prop := match e with
  | .inl b => v = .bool b
  | .inr ns => IsInts B ns x v

theorem Beside.since {B : Nat} {e : Bool ⊕ List Int} {x x' : World} {v : Value} (h : Beside B e x v) (k : Since x x') : Beside B e x' v := by
  cases e with
  | inl b => exact h
  | inr ns =>
    obtain ⟨g, q, c, h1, T⟩ := h
    exact ⟨g, q, c, h1, T.since k⟩

theorem Beside.put {B b : Nat} {e : Bool ⊕ List Int} {x : World} {v u0 u1 : Value} (h : Beside B e x v) (hb : AtBox x b u0 u1) (v0 v1 : Value) : Beside B e ((x.setCell ⟨b, 0, none⟩ v0).setCell ⟨b, 1, none⟩ v1) v := by
  cases e with
  | inl b => exact h
  | inr ns =>
    obtain ⟨g, q, c, h1, T⟩ := h
    exact ⟨g, q, c, h1, Own.putBox T hb (by decide) v0 v1⟩

/-- A clock of our own. -/
def IsClock (B : Nat) (now : Int) (ts : List (Int × Int)) (x : World) (v : Value) : Prop := ∃ a m c, v = .agg #[.int .i64 now, .slice a m c] ∧ Own shT x B (.slice a m c) m ts ∧ (a = none → c = 0)

theorem IsClock.since {B : Nat} {now : Int} {ts : List (Int × Int)} {x x' : World} {v : Value} (h : IsClock B now ts x v) (k : Since x x') : IsClock B now ts x' v := by
  obtain ⟨a, m, c, h1, T, hn⟩ := h
  exact ⟨a, m, c, h1, T.since k, hn⟩

theorem IsClock.put {B b : Nat} {now : Int} {ts : List (Int × Int)} {x : World} {v u0 u1 : Value} (h : IsClock B now ts x v) (hb : AtBox x b u0 u1) (v0 v1 : Value) : IsClock B now ts ((x.setCell ⟨b, 0, none⟩ v0).setCell ⟨b, 1, none⟩ v1) v := by
  obtain ⟨a, m, c, h1, T, hn⟩ := h
  exact ⟨a, m, c, h1, T.putBox hb (by decide) v0 v1, hn⟩

/-- Both. -/
def IsAns (B : Nat) (now : Int) (ts : List (Int × Int)) (e : Bool ⊕ List Int) (x : World) (v : Value) : Prop := ∃ c u, v = .tuple #[c, u] ∧ IsClock B now ts x c ∧ Beside B e x u

theorem IsAns.since {B : Nat} {now : Int} {ts : List (Int × Int)} {e : Bool ⊕ List Int} {x x' : World} {v : Value} (h : IsAns B now ts e x v) (k : Since x x') : IsAns B now ts e x' v := by
  obtain ⟨c, u, h1, h2, h3⟩ := h
  exact ⟨c, u, h1, h2.since k, h3.since k⟩

theorem IsAns.put {B b : Nat} {now : Int} {ts : List (Int × Int)} {e : Bool ⊕ List Int} {x : World} {v u0 u1 : Value} (h : IsAns B now ts e x v) (hb : AtBox x b u0 u1) (v0 v1 : Value) : IsAns B now ts e ((x.setCell ⟨b, 0, none⟩ v0).setCell ⟨b, 1, none⟩ v1) v := by
  obtain ⟨c, u, h1, h2, h3⟩ := h
  exact ⟨c, u, h1, h2.put hb v0 v1, h3.put hb v0 v1⟩

/-- The clock that one operation left has been stored into the variable that another one made. -/
def StoredC (B p q : Nat) (vals : Nat → Value) (x : World) : Prop := ∃ b u0 u1, vals p = .pointer (some ⟨b, 0, none⟩) ∧ vals q = .agg #[u0, u1] ∧ B ≤ b ∧ AtBox x b u0 u1

theorem StoredC.since {B p q : Nat} {vals : Nat → Value} {x x' : World} (h : StoredC B p q vals x) (k : Since x x') : StoredC B p q vals x' := by
  obtain ⟨b, u0, u1, h1, h2, h3, h4⟩ := h
  exact ⟨b, u0, u1, h1, h2, h3, h4.since k⟩

theorem StoredC.congr {B p q : Nat} {vals vals' : Nat → Value} {x : World} (h : StoredC B p q vals x) (hp : vals p = vals' p) (hq : vals q = vals' q) : StoredC B p q vals' x := by
  obtain ⟨b, u0, u1, h1, h2, h3, h4⟩ := h
  exact ⟨b, u0, u1, hp ▸ h1, hq ▸ h2, h3, h4⟩
end Go.Proofs.Ytgdhdeadbmeejaa
