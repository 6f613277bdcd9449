/-
  A variable for a net that came in a region, and what was stored into it.
-/
import Derived.Test.YthjdcgckonckoaaNetDoI
namespace Go.Proofs.Ythjdcgckonckoaa
open Go.ChangeShapes Go.WideShapes Go.ChangeAt Go.RowKit
set_option linter.unusedVariables false

theorem Texts.ne_box {w : World} {B g n cap b : Nat} {ss : List ByteArray} {cs : Array Value} {fr : Nat × Nat} (T : Texts w B g n cap ss) (h : w.heap[b]? = some (.cells cs 26 fr)) : g ≠ b := by
  rintro rfl
  obtain ⟨cur, _, h3, _⟩ := T.parts
  rw [h3] at h
  injection h with h
  injection h with _ h
  cases h

/-- A new variable for a net, whatever it holds. -/
def IsBox (B : Nat) (x : World) (v : Value) : Prop := ∃ b u, v = .pointer (some ⟨b, 0, none⟩) ∧ B ≤ b ∧ x.heap[b]? = some (.cells #[u] 26 (0, 0))

theorem IsBox.since {B : Nat} {x x' : World} {v : Value} (h : IsBox B x v) (k : Since x x') : IsBox B x' v := by
  obtain ⟨b, u, e, hB, hb⟩ := h
  exact ⟨b, u, e, hB, (Below.block k b (Array.getElem?_eq_some_iff.1 hb).1).trans hb⟩

theorem IsBox.new {B : Nat} {x : World} (h : B ≤ x.heap.size) : IsBox B (x.alloc (.cells #[.slice none 0 0] 26)) (.pointer (some ⟨x.heap.size, 0, none⟩)) := ⟨_, _, rfl, h, heap_alloc_new x _⟩

theorem box_put {x : World} {b : Nat} {u u' : Value} (h : x.heap[b]? = some (.cells #[u] 26 (0, 0))) : (x.setCell ⟨b, 0, none⟩ u').heap[b]? = some (.cells #[u'] 26 (0, 0)) := by
  rw [heap_setCell_same x b 0 #[u] _ u' h]
  rfl

theorem IsBox.put {B b : Nat} {x : World} {v u u' : Value} (h : IsBox B x v) (hb : x.heap[b]? = some (.cells #[u] 26 (0, 0))) : IsBox B (x.setCell ⟨b, 0, none⟩ u') v := by
  obtain ⟨b', w', e, hB, hb'⟩ := h
  by_cases hbb : b' = b
  · subst hbb
    exact ⟨b', u', e, hB, box_put hb⟩
  · exact ⟨b', w', e, hB, (Below.heap_setCell x ⟨b, 0, none⟩ u' b' hbb).trans hb'⟩

theorem Rec1.of_heap {b : Nat} {x : World} {v : Value} {t : TypeId} (h : x.heap[b]? = some (.cells #[v] t (0, 0))) : Rec1 b x v :=
  ⟨(Array.getElem?_eq_some_iff.1 h).1, fun i => frozen_of_row x b i _ _ h, by rw [cell_of_row x b 0 _ _ _ h]; rfl⟩

/-- What an op makes of a net, as three answers. -/
def IsDone (B : Nat) (r : List ByteArray × ByteArray × Bool) (x : World) (v : Value) : Prop := ∃ g m c, v = .tuple #[.agg #[.slice (some ⟨g, 0, none⟩) m c], .string r.2.1, .bool r.2.2] ∧ Texts x B g m c r.1

theorem IsDone.since {B : Nat} {r : List ByteArray × ByteArray × Bool} {x x' : World} {v : Value} (h : IsDone B r x v) (k : Since x x') : IsDone B r x' v := by
  obtain ⟨g, m, c, e, T⟩ := h
  exact ⟨g, m, c, e, T.since k⟩

/-- A net of our own of some length. -/
def SomeNet (B : Nat) (ss : List ByteArray) (x : World) (v : Value) : Prop := ∃ g m c, v = .agg #[.slice (some ⟨g, 0, none⟩) m c] ∧ Texts x B g m c ss

theorem SomeNet.since {B : Nat} {ss : List ByteArray} {x x' : World} {v : Value} (h : SomeNet B ss x v) (k : Since x x') : SomeNet B ss x' v := by
  obtain ⟨g, m, c, e, T⟩ := h
  exact ⟨g, m, c, e, T.since k⟩

theorem IsDone.put {B b : Nat} {r : List ByteArray × ByteArray × Bool} {x : World} {v u u' : Value} (h : IsDone B r x v) (hb : x.heap[b]? = some (.cells #[u] 26 (0, 0))) : IsDone B r (x.setCell ⟨b, 0, none⟩ u') v := by
  obtain ⟨g, m, c, e, T⟩ := h
  exact ⟨g, m, c, e, T.other (T.ne_box hb) 0 _⟩

theorem SomeNet.put {B b : Nat} {ss : List ByteArray} {x : World} {v u u' : Value} (h : SomeNet B ss x v) (hb : x.heap[b]? = some (.cells #[u] 26 (0, 0))) : SomeNet B ss (x.setCell ⟨b, 0, none⟩ u') v := by
  obtain ⟨g, m, c, e, T⟩ := h
  exact ⟨g, m, c, e, T.other (T.ne_box hb) 0 _⟩

/-- The net that one operation left has been stored into the variable that another one made. -/
def Stored (B p q : Nat) (vals : Nat → Value) (x : World) : Prop := ∃ b u, vals p = .pointer (some ⟨b, 0, none⟩) ∧ vals q = .agg #[u] ∧ B ≤ b ∧ x.heap[b]? = some (.cells #[u] 26 (0, 0))

theorem Stored.since {B p q : Nat} {vals : Nat → Value} {x x' : World} (h : Stored B p q vals x) (k : Since x x') : Stored B p q vals x' := by
  obtain ⟨b, u, h1, h2, h3, h4⟩ := h
  exact ⟨b, u, h1, h2, h3, (Below.block k b (Array.getElem?_eq_some_iff.1 h4).1).trans h4⟩

theorem Stored.congr {B p q : Nat} {vals vals' : Nat → Value} {x : World} (h : Stored B p q vals x) (hp : vals p = vals' p) (hq : vals q = vals' q) : Stored B p q vals' x := by
  obtain ⟨b, u, h1, h2, h3, h4⟩ := h
  exact ⟨b, u, hp ▸ h1, hq ▸ h2, h3, h4⟩
end Go.Proofs.Ythjdcgckonckoaa
