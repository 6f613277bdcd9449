/-
  Lists of ops in memory (four numbers each): one that came in and is read; one of our own.
-/
import Derived.Test.YthjdcgckonckoaaOpenNet
import Derived.Deep.SlicePairs
import Derived.LoopTactic
namespace Go.Proofs.Ythjdcgckonckoaa
open Go.ChangeShapes Go.WideShapes Go.ChangeAt Go.RowKit Go.Deep
set_option linter.unusedVariables false

/-- An op: its kind, its place, its half, its turn. -/
structure Op4 where
  k : Int
  a : Int
  h : Int
  t : Int

/-- Its cells. -/
def Op4.cells (o : Op4) : List Value := [.int .i64 o.k, .int .i64 o.a, .int .i64 o.h, .int .i64 o.t]

/-- As a value. -/
def Op4.val (o : Op4) : Value := .agg #[.int .i64 o.k, .int .i64 o.a, .int .i64 o.h, .int .i64 o.t]

/-- Op i of a list. -/
def opAt (os : List Op4) (i : Nat) : Op4 := os.getD i ⟨0, 0, 0, 0⟩

/-- A slice of ops that can be read. -/
structure OpsRead (w : World) (a : Option Addr) (n : Nat) (os : List Op4) : Prop where
  len : os.length = n
  most : n ≤ maxLen
  cell : ∀ i, i < n → ∃ x, a = some x ∧ x.block < w.heap.size ∧ w.cell? (x.add (i * 4)) = some (.int .i64 (opAt os i).k) ∧ w.cell? (x.add (i * 4 + 1)) = some (.int .i64 (opAt os i).a) ∧ w.cell? (x.add (i * 4 + 2)) = some (.int .i64 (opAt os i).h) ∧ w.cell? (x.add (i * 4 + 3)) = some (.int .i64 (opAt os i).t)

theorem OpsRead.since {w w' : World} {a : Option Addr} {n : Nat} {os : List Op4} (h : OpsRead w a n os) (k : Since w w') : OpsRead w' a n os := by
  refine ⟨h.len, h.most, fun i hi => ?_⟩
  obtain ⟨x, rfl, hb, h0, h1, h2, h3⟩ := h.cell i hi
  have hbl : ∀ j, (x.add j).block = x.block := fun j => by unfold Addr.add; split <;> rfl
  have e : ∀ j, w'.cell? (x.add j) = w.cell? (x.add j) := fun j => Below.cell k (p := x.add j) (by rw [hbl]; exact hb)
  exact ⟨x, rfl, Nat.lt_of_lt_of_le hb (Below.size k), (e _).trans h0, (e _).trans h1, (e _).trans h2, (e _).trans h3⟩

/-- The cells of a list of ops. -/
def flat : List Op4 → List Value
  | [] => []
  | o :: r => .int .i64 o.k :: .int .i64 o.a :: .int .i64 o.h :: .int .i64 o.t :: flat r

theorem flat_len : ∀ os : List Op4, (flat os).length = os.length * 4
  | [] => rfl
  | o :: r => by
    have := flat_len r
    simp only [flat, List.length_cons, this]
    omega

theorem flat_at : ∀ (os : List Op4) (i : Nat), i < os.length → (flat os)[i * 4]? = some (.int .i64 (opAt os i).k) ∧ (flat os)[i * 4 + 1]? = some (.int .i64 (opAt os i).a) ∧ (flat os)[i * 4 + 2]? = some (.int .i64 (opAt os i).h) ∧ (flat os)[i * 4 + 3]? = some (.int .i64 (opAt os i).t)
  | [], i, h => by simp at h
  | o :: r, 0, _ => by simp [flat, opAt]
  | o :: r, i + 1, h => by
    have := flat_at r i (by simpa using h)
    have e : opAt (o :: r) (i + 1) = opAt r i := by simp [opAt, List.getD]
    rw [e, show (i + 1) * 4 = i * 4 + 4 by omega]
    simpa [flat] using this

theorem flat_set : ∀ (os : List Op4) (i : Nat) (o : Op4), ((((flat os).set (i * 4) (.int .i64 o.k)).set (i * 4 + 1) (.int .i64 o.a)).set (i * 4 + 2) (.int .i64 o.h)).set (i * 4 + 3) (.int .i64 o.t) = flat (os.set i o)
  | [], i, o => by simp [flat]
  | p :: r, 0, o => by simp [flat]
  | p :: r, i + 1, o => by
    have := flat_set r i o
    rw [show (i + 1) * 4 = i * 4 + 4 by omega]
    simpa [flat] using this

/-- A list of ops of our own: block g, n ops, no spare room. -/
structure OpsOwn (w : World) (B g n : Nat) (os : List Op4) : Prop where
  len : os.length = n
  low : B ≤ g
  heap : w.heap[g]? = some (.cells (flat os).toArray 34 (0, 0))

theorem OpsOwn.lt {w : World} {B g n : Nat} {os : List Op4} (h : OpsOwn w B g n os) : g < w.heap.size := (Array.getElem?_eq_some_iff.1 h.heap).1

theorem OpsOwn.since {w w' : World} {B g n : Nat} {os : List Op4} (h : OpsOwn w B g n os) (k : Since w w') : OpsOwn w' B g n os := ⟨h.len, h.low, (Below.block k g h.lt).trans h.heap⟩

theorem OpsOwn.touch {w w' : World} {B g n g' : Nat} {os : List Op4} (h : OpsOwn w B g n os) (k : Touch g' w w') (hne : g ≠ g') : OpsOwn w' B g n os := ⟨h.len, h.low, (k.block g h.lt hne).trans h.heap⟩

theorem OpsOwn.cell {w : World} {B g n : Nat} {os : List Op4} (h : OpsOwn w B g n os) (i : Nat) (hi : i < n) : w.cell? ⟨g, i * 4, none⟩ = some (.int .i64 (opAt os i).k) ∧ w.cell? ⟨g, i * 4 + 1, none⟩ = some (.int .i64 (opAt os i).a) ∧ w.cell? ⟨g, i * 4 + 2, none⟩ = some (.int .i64 (opAt os i).h) ∧ w.cell? ⟨g, i * 4 + 3, none⟩ = some (.int .i64 (opAt os i).t) := by
  have := flat_at os i (by rw [h.len]; exact hi)
  simp only [cell_of_row w g _ _ _ _ h.heap, List.getElem?_toArray]
  exact this

theorem OpsOwn.free {w : World} {B g n : Nat} {os : List Op4} (h : OpsOwn w B g n os) (i : Nat) : w.frozen? ⟨g, i, none⟩ = false := frozen_of_row w g i _ _ h.heap

theorem OpsOwn.set {w : World} {B g n : Nat} {os : List Op4} (h : OpsOwn w B g n os) (i : Nat) (o : Op4) : OpsOwn ((((w.setCell ⟨g, i * 4, none⟩ (.int .i64 o.k)).setCell ⟨g, i * 4 + 1, none⟩ (.int .i64 o.a)).setCell ⟨g, i * 4 + 2, none⟩ (.int .i64 o.h)).setCell ⟨g, i * 4 + 3, none⟩ (.int .i64 o.t)) B g n (os.set i o) := by
  refine ⟨by rw [List.length_set]; exact h.len, h.low, ?_⟩
  rw [heap_setCell_same _ g _ _ _ _ (heap_setCell_same _ g _ _ _ _ (heap_setCell_same _ g _ _ _ _ (heap_setCell_same _ g _ _ _ _ h.heap)))]
  rw [← flat_set os i o]
  simp

theorem OpsOwn.reads {w : World} {B g n : Nat} {os : List Op4} (h : OpsOwn w B g n os) (hn : n ≤ maxLen) : OpsRead w (some ⟨g, 0, none⟩) n os := by
  refine ⟨h.len, hn, fun i hi => ⟨_, rfl, h.lt, ?_⟩⟩
  have e : ∀ j, (⟨g, 0, none⟩ : Addr).add j = ⟨g, j, none⟩ := fun j => by simp [Addr.add]; omega
  rw [e, e, e, e]
  exact h.cell i hi

theorem OpsOwn.ne_texts {w : World} {B B' g g' n m cap : Nat} {os : List Op4} {ss : List ByteArray} (h : OpsOwn w B g n os) (T : Texts w B' g' m cap ss) : g ≠ g' := by
  rintro rfl
  obtain ⟨cur, _, h3, _⟩ := T.parts
  have := h.heap
  rw [h3] at this
  injection this with this
  injection this with _ this
  cases this
end Go.Proofs.Ythjdcgckonckoaa
