/-
  Lists of texts in memory: one that came in and is read; one of our own, read, written into, carried along. A variable of one cell.
-/
import Derived.Test.YtjilpicpfddbfaaDoorPkt
import Derived.Test.YtjilpicpfddbfaaDoorTouch
import Derived.OwnWalk
import Derived.SliceStrings
namespace Go.Proofs.YtjilpicpfddbfaaDoor
open Go.ChangeShapes Go.WideShapes Go.ChangeAt Go.RowKit
set_option linter.unusedVariables false
set_option maxRecDepth 10000

theorem info_str : (Tryd.prog.info? 9).map (fun i => (i.zero, i.size, i.bytes)) = some (some (.string ByteArray.empty), 1, 16) := by kernel_rfl

theorem Touch.of_since {w w' : World} (h : Since w w') (g : Nat) : Touch g w w' := Touch.of_below h fun _ hk _ => hk

theorem Touch.le {g : Nat} {w w' : World} (h : Touch g w w') : w.heap.size ≤ w'.heap.size := h.size

theorem Since.touch {g : Nat} {a b c : World} (h : Since a b) (k : Touch g b c) (hg : a.heap.size ≤ g) : Since a c := Touch.below k h hg (Below.size h)

/-- Text i of a list. -/
def txt (ss : List ByteArray) (i : Nat) : ByteArray := ss.getD i ByteArray.empty

/-- A slice of texts that can be read: nil, or its cells hold the texts. -/
structure Reads (w : World) (a : Option Addr) (n : Nat) (ss : List ByteArray) : Prop where
  len : ss.length = n
  most : n ≤ maxLen
  cell : ∀ i, i < n → ∃ x, a = some x ∧ x.block < w.heap.size ∧ w.cell? (x.add i) = some (.string (txt ss i))

theorem Reads.touch {w w' : World} {a : Option Addr} {n g : Nat} {ss : List ByteArray} (h : Reads w a n ss) (k : Touch g w w') (hg : ∀ x, a = some x → x.block ≠ g) : Reads w' a n ss := by
  refine ⟨h.len, h.most, fun i hi => ?_⟩
  obtain ⟨x, rfl, hb, hc⟩ := h.cell i hi
  have hbl : (x.add i).block = x.block := by unfold Addr.add; split <;> rfl
  exact ⟨x, rfl, Nat.lt_of_lt_of_le hb k.size, (k.cell (p := x.add i) (by rw [hbl]; exact hg x rfl) (by rw [hbl]; exact hb)).trans hc⟩

theorem Reads.since {w w' : World} {a : Option Addr} {n : Nat} {ss : List ByteArray} (h : Reads w a n ss) (k : Since w w') : Reads w' a n ss := by
  refine ⟨h.len, h.most, fun i hi => ?_⟩
  obtain ⟨x, rfl, hb, hc⟩ := h.cell i hi
  have hbl : (x.add i).block = x.block := by unfold Addr.add; split <;> rfl
  exact ⟨x, rfl, Nat.lt_of_lt_of_le hb (Below.size k), (Below.cell k (p := x.add i) (by rw [hbl]; exact hb)).trans hc⟩

/-- A list of texts of our own: block g, n texts, room for cap. -/
def Texts (w : World) (B g n cap : Nat) (ss : List ByteArray) : Prop :=
  ss.length = n ∧ w.ownsRow B 9 1 (.slice (some ⟨g, 0, none⟩) n cap) n (ss.map Value.string)

theorem Texts.len {w : World} {B g n cap : Nat} {ss : List ByteArray} (h : Texts w B g n cap ss) : ss.length = n := h.1

theorem Texts.low {w : World} {B g n cap : Nat} {ss : List ByteArray} (h : Texts w B g n cap ss) : B ≤ g := (h.2.lt g rfl).1

theorem Texts.lt {w : World} {B g n cap : Nat} {ss : List ByteArray} (h : Texts w B g n cap ss) : g < w.heap.size := (h.2.lt g rfl).2

theorem Texts.parts {w : World} {B g n cap : Nat} {ss : List ByteArray} (h : Texts w B g n cap ss) : ∃ cur, B ≤ g ∧ w.heap[g]? = some (.cells cur 9 (0, 0)) ∧ n ≤ cap ∧ cap ≤ maxLen ∧ cur.size = cap ∧ cur.toList.take n = ss.map Value.string := by
  rcases h.2.2 with ⟨h1, _⟩ | ⟨g', cap', cur, h1, h2, h3, h4, h5, h6, h7⟩
  · cases h1
  · simp only [Value.slice.injEq, Option.some.injEq, Addr.mk.injEq] at h1
    obtain ⟨⟨rfl, _, _⟩, _, rfl⟩ := h1
    exact ⟨cur, h2, h3, h4, h5, by simpa using h6, by simpa using h7⟩

theorem Texts.mk' {w : World} {B g n cap : Nat} {ss : List ByteArray} {cur : Array Value} (hl : ss.length = n) (h2 : B ≤ g) (h3 : w.heap[g]? = some (.cells cur 9 (0, 0))) (h4 : n ≤ cap) (h5 : cap ≤ maxLen) (h6 : cur.size = cap) (h7 : cur.toList.take n = ss.map Value.string) : Texts w B g n cap ss :=
  ⟨hl, by simpa using hl, .inr ⟨g, cap, cur, rfl, h2, h3, h4, h5, by simpa using h6, by simpa using h7⟩⟩

theorem Texts.room {w : World} {B g n cap : Nat} {ss : List ByteArray} (h : Texts w B g n cap ss) : n ≤ cap ∧ cap ≤ maxLen := by
  obtain ⟨cur, _, _, h4, h5, _⟩ := h.parts
  exact ⟨h4, h5⟩

theorem Texts.mono {w : World} {B B' g n cap : Nat} {ss : List ByteArray} (h : Texts w B g n cap ss) (hB : B' ≤ B) : Texts w B' g n cap ss := by
  obtain ⟨cur, h2, h3, h4, h5, h6, h7⟩ := h.parts
  exact Texts.mk' h.1 (Nat.le_trans hB h2) h3 h4 h5 h6 h7

theorem Texts.raise {w : World} {B B' g n cap : Nat} {ss : List ByteArray} (h : Texts w B g n cap ss) (hB : B' ≤ g) : Texts w B' g n cap ss := by
  obtain ⟨cur, h2, h3, h4, h5, h6, h7⟩ := h.parts
  exact Texts.mk' h.1 hB h3 h4 h5 h6 h7

theorem Texts.block {w w' : World} {B g n cap : Nat} {ss : List ByteArray} (h : Texts w B g n cap ss) (hb : w'.heap[g]? = w.heap[g]?) : Texts w' B g n cap ss := by
  obtain ⟨cur, h2, h3, h4, h5, h6, h7⟩ := h.parts
  exact Texts.mk' h.1 h2 (hb.trans h3) h4 h5 h6 h7

theorem Texts.since {w w' : World} {B g n cap : Nat} {ss : List ByteArray} (h : Texts w B g n cap ss) (k : Since w w') : Texts w' B g n cap ss := h.block (Below.block k g h.lt)

theorem Texts.touch {w w' : World} {B g n cap g' : Nat} {ss : List ByteArray} (h : Texts w B g n cap ss) (k : Touch g' w w') (hne : g ≠ g') : Texts w' B g n cap ss := h.block (k.block g h.lt hne)

theorem Texts.cell {w : World} {B g n cap : Nat} {ss : List ByteArray} (h : Texts w B g n cap ss) (i : Nat) (hi : i < n) : w.cell? ⟨g, i, none⟩ = some (.string (txt ss i)) := by
  have hl : i < ss.length := by rw [h.1]; exact hi
  have hc := h.2.cells (g := g) rfl i (.string (txt ss i)) (by simp [txt, List.getD, List.getElem?_eq_getElem hl])
  rwa [show (⟨g, 0, none⟩ : Addr).add i = ⟨g, i, none⟩ by simp [Addr.add]; omega] at hc

theorem Texts.free {w : World} {B g n cap : Nat} {ss : List ByteArray} (h : Texts w B g n cap ss) (i : Nat) : w.frozen? ⟨g, i, none⟩ = false := by
  obtain ⟨cur, h2, h3, h4, h5, h6, h7⟩ := h.parts
  exact frozen_of_row w g i cur _ h3

theorem Texts.set {w : World} {B g n cap : Nat} {ss : List ByteArray} (h : Texts w B g n cap ss) (i : Nat) (hi : i < n) (s : ByteArray) : Texts (w.setCell ⟨g, i, none⟩ (.string s)) B g n cap (ss.set i s) := by
  obtain ⟨cur, h2, h3, h4, h5, h6, h7⟩ := h.parts
  have hs := heap_setCell_same w g i cur _ (.string s) h3
  refine Texts.mk' (by rw [List.length_set]; exact h.1) h2 hs h4 h5 (by simpa using h6) ?_
  rw [List.map_set, ← h7, Array.toList_setIfInBounds, List.take_set]

theorem Texts.other {w : World} {B g n cap : Nat} {ss : List ByteArray} (h : Texts w B g n cap ss) {b : Nat} (hne : g ≠ b) (i : Nat) (v : Value) : Texts (w.setCell ⟨b, i, none⟩ v) B g n cap ss := h.block (Below.heap_setCell w ⟨b, i, none⟩ v g hne)

theorem Reads.other {w : World} {a : Option Addr} {n : Nat} {ss : List ByteArray} (h : Reads w a n ss) {b : Nat} (hne : ∀ x, a = some x → x.block ≠ b) (i : Nat) (v : Value) : Reads (w.setCell ⟨b, i, none⟩ v) a n ss := h.touch ((Touch.refl b w).put i v) hne

theorem Texts.reads {w : World} {B g n cap : Nat} {ss : List ByteArray} (h : Texts w B g n cap ss) : Reads w (some ⟨g, 0, none⟩) n ss := by
  refine ⟨h.1, Nat.le_trans h.room.1 h.room.2, fun i hi => ⟨_, rfl, h.lt, ?_⟩⟩
  rw [show (⟨g, 0, none⟩ : Addr).add i = ⟨g, i, none⟩ by simp [Addr.add]; omega]
  exact h.cell i hi

/-- Block b holds this one cell, and may be written. -/
structure Rec1 (b : Nat) (x : World) (c0 : Value) : Prop where
  lt : b < x.heap.size
  fz : ∀ i, x.frozen? ⟨b, i, none⟩ = false
  c0 : x.cell? ⟨b, 0, none⟩ = some c0

theorem Rec1.since {b : Nat} {x x' : World} {c0 : Value} (k : Rec1 b x c0) (h : Since x x') : Rec1 b x' c0 :=
  ⟨Nat.lt_of_lt_of_le k.lt h.le, fun i => (Below.frozen h (p := ⟨b, i, none⟩) k.lt).trans (k.fz i), (Below.cell h (p := ⟨b, 0, none⟩) k.lt).trans k.c0⟩

theorem Rec1.touch {b g : Nat} {x x' : World} {c0 : Value} (k : Rec1 b x c0) (h : Touch g x x') (hne : b ≠ g) : Rec1 b x' c0 :=
  ⟨Nat.lt_of_lt_of_le k.lt h.size, fun i => (h.frozen (p := ⟨b, i, none⟩) hne k.lt).trans (k.fz i), (h.cell (p := ⟨b, 0, none⟩) hne k.lt).trans k.c0⟩

theorem Rec1.new (x : World) (c0 : Value) (t : TypeId) : Rec1 x.heap.size (x.alloc (.cells #[c0] t)) c0 := ⟨by simp, fun i => by simp, by simp⟩

theorem Rec1.put {b : Nat} {x : World} {c0 : Value} (k : Rec1 b x c0) (v : Value) : Rec1 b (x.setCell ⟨b, 0, none⟩ v) v :=
  ⟨by have := k.lt; simpa [World.setCell] using this, fun j => (World.frozen?_setCell _ _ _ _).trans (k.fz j), World.cell?_setCell_same' _ _ _ (by rw [k.c0]; rfl)⟩

theorem Rec1.other {a b : Nat} {x : World} {c0 : Value} (k : Rec1 b x c0) (hne : b ≠ a) (i : Nat) (v : Value) : Rec1 b (x.setCell ⟨a, i, none⟩ v) c0 :=
  ⟨by have := k.lt; simpa [World.setCell] using this, fun j => (World.frozen?_setCell _ _ _ _).trans (k.fz j), (World.cell?_setCell_other x _ _ v (fun h => hne (congrArg Addr.block h).symm)).trans k.c0⟩

/-- Block b holds these cells, and may be written. -/
structure Blk (b : Nat) (x : World) (cs : Array Value) : Prop where
  lt : b < x.heap.size
  fz : ∀ i, x.frozen? ⟨b, i, none⟩ = false
  cell : ∀ i : Nat, x.cell? ⟨b, i, none⟩ = cs[i]?

theorem Blk.since {b : Nat} {x x' : World} {cs : Array Value} (k : Blk b x cs) (h : Since x x') : Blk b x' cs :=
  ⟨Nat.lt_of_lt_of_le k.lt h.le, fun i => (Below.frozen h (p := ⟨b, i, none⟩) k.lt).trans (k.fz i), fun i => (Below.cell h (p := ⟨b, i, none⟩) k.lt).trans (k.cell i)⟩

theorem Blk.touch {b g : Nat} {x x' : World} {cs : Array Value} (k : Blk b x cs) (h : Touch g x x') (hne : b ≠ g) : Blk b x' cs :=
  ⟨Nat.lt_of_lt_of_le k.lt h.size, fun i => (h.frozen (p := ⟨b, i, none⟩) hne k.lt).trans (k.fz i), fun i => (h.cell (p := ⟨b, i, none⟩) hne k.lt).trans (k.cell i)⟩

theorem Blk.new (x : World) (cs : Array Value) (t : TypeId) : Blk x.heap.size (x.alloc (.cells cs t)) cs := ⟨by simp, fun i => by simp, fun i => World.cell?_alloc_mark x _ _ _ i⟩

theorem Blk.other {a b : Nat} {x : World} {cs : Array Value} (k : Blk b x cs) (hne : b ≠ a) (i : Nat) (v : Value) : Blk b (x.setCell ⟨a, i, none⟩ v) cs :=
  k.touch ((Touch.refl a x).put i v) hne

theorem since_put1 {w x : World} {b : Nat} (h : Since w x) (hb : w.heap.size ≤ b) (i : Nat) (v : Value) : Since w (x.setCell ⟨b, i, none⟩ v) := Below.setCell h (p := ⟨b, i, none⟩) hb v

theorem since_drews {w x : World} (h : Since w x) (n : Nat) : Since w (x.drewN n) := ⟨h.os, h.tape, h.output, h.size, h.block⟩
end Go.Proofs.YtjilpicpfddbfaaDoor
