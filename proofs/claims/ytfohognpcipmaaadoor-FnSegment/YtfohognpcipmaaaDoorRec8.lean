/-
  A segment in a variable of its own: its eight cells, read and written; the segment that a text's fields tell.
-/
import Derived.Test.YtfohognpcipmaaaDoorSegOk
import Derived.Test.YtfohognpcipmaaaDoorFields
import Derived.Test.YtfohognpcipmaaaDoorClone
import Derived.Test.YtfohognpcipmaaaDoorDrawnTail
namespace Go.Proofs.YtfohognpcipmaaaDoor
open Go.ChangeShapes Go.WideShapes Go.ChangeAt Go.RowKit
set_option linter.unusedVariables false

/-- Block b holds these eight cells, and may be written. -/
structure Rec8 (b : Nat) (x : World) (c0 c1 c2 c3 c4 c5 c6 c7 : Value) : Prop where
  lt : b < x.heap.size
  fz : ∀ i, x.frozen? ⟨b, i, none⟩ = false
  c0 : x.cell? ⟨b, 0, none⟩ = some c0
  c1 : x.cell? ⟨b, 1, none⟩ = some c1
  c2 : x.cell? ⟨b, 2, none⟩ = some c2
  c3 : x.cell? ⟨b, 3, none⟩ = some c3
  c4 : x.cell? ⟨b, 4, none⟩ = some c4
  c5 : x.cell? ⟨b, 5, none⟩ = some c5
  c6 : x.cell? ⟨b, 6, none⟩ = some c6
  c7 : x.cell? ⟨b, 7, none⟩ = some c7

theorem Rec8.since {b : Nat} {x x' : World} {c0 c1 c2 c3 c4 c5 c6 c7 : Value} (k : Rec8 b x c0 c1 c2 c3 c4 c5 c6 c7) (h : Since x x') : Rec8 b x' c0 c1 c2 c3 c4 c5 c6 c7 := by
  have hc : ∀ i, x'.cell? ⟨b, i, none⟩ = x.cell? ⟨b, i, none⟩ := fun i => Below.cell h (p := ⟨b, i, none⟩) k.lt
  exact ⟨Nat.lt_of_lt_of_le k.lt h.le, fun i => (Below.frozen h (p := ⟨b, i, none⟩) k.lt).trans (k.fz i), (hc 0).trans k.c0, (hc 1).trans k.c1, (hc 2).trans k.c2, (hc 3).trans k.c3, (hc 4).trans k.c4, (hc 5).trans k.c5, (hc 6).trans k.c6, (hc 7).trans k.c7⟩

theorem Rec8.new (x : World) (c0 c1 c2 c3 c4 c5 c6 c7 : Value) (t : TypeId) : Rec8 x.heap.size (x.alloc (.cells #[c0, c1, c2, c3, c4, c5, c6, c7] t)) c0 c1 c2 c3 c4 c5 c6 c7 :=
  ⟨by simp, fun i => by simp, by simp, by simp, by simp, by simp, by simp, by simp, by simp, by simp⟩

theorem Rec8.other {a b : Nat} {x : World} {c0 c1 c2 c3 c4 c5 c6 c7 : Value} (k : Rec8 b x c0 c1 c2 c3 c4 c5 c6 c7) (hne : b ≠ a) (i : Nat) (v : Value) : Rec8 b (x.setCell ⟨a, i, none⟩ v) c0 c1 c2 c3 c4 c5 c6 c7 := by
  have hc : ∀ j, (x.setCell ⟨a, i, none⟩ v).cell? ⟨b, j, none⟩ = x.cell? ⟨b, j, none⟩ := fun j => World.cell?_setCell_other x _ _ v (fun h => hne (congrArg Addr.block h).symm)
  exact ⟨by have := k.lt; simpa [World.setCell] using this, fun j => (World.frozen?_setCell _ _ _ _).trans (k.fz j), (hc 0).trans k.c0, (hc 1).trans k.c1, (hc 2).trans k.c2, (hc 3).trans k.c3, (hc 4).trans k.c4, (hc 5).trans k.c5, (hc 6).trans k.c6, (hc 7).trans k.c7⟩

theorem Rec8.put {b : Nat} {x : World} {c0 c1 c2 c3 c4 c5 c6 c7 : Value} (k : Rec8 b x c0 c1 c2 c3 c4 c5 c6 c7) (v : Value) :
    Rec8 b (x.setCell ⟨b, 6, none⟩ v) c0 c1 c2 c3 c4 c5 v c7 ∧ Rec8 b (x.setCell ⟨b, 7, none⟩ v) c0 c1 c2 c3 c4 c5 c6 v := by
  refine ⟨⟨by have := k.lt; simpa [World.setCell] using this, fun j => (World.frozen?_setCell _ _ _ _).trans (k.fz j), ?_, ?_, ?_, ?_, ?_, ?_, ?_, ?_⟩, ⟨by have := k.lt; simpa [World.setCell] using this, fun j => (World.frozen?_setCell _ _ _ _).trans (k.fz j), ?_, ?_, ?_, ?_, ?_, ?_, ?_, ?_⟩⟩
  all_goals simp [World.cell?_setCell_same', World.cell?_setCell_other, k.c0, k.c1, k.c2, k.c3, k.c4, k.c5, k.c6, k.c7]

/-- A world in which a segment has been stored into block b. -/
def stored8 (b : Nat) (x : World) (c0 c1 c2 c3 c4 c5 c6 c7 : Value) : World := ((((((((x.setCell ⟨b, 0, none⟩ c0).setCell ⟨b, 1, none⟩ c1).setCell ⟨b, 2, none⟩ c2).setCell ⟨b, 3, none⟩ c3).setCell ⟨b, 4, none⟩ c4).setCell ⟨b, 5, none⟩ c5).setCell ⟨b, 6, none⟩ c6).setCell ⟨b, 7, none⟩ c7)

theorem Rec8.stored {b : Nat} {x : World} {d0 d1 d2 d3 d4 d5 d6 d7 : Value} (k : Rec8 b x d0 d1 d2 d3 d4 d5 d6 d7) (c0 c1 c2 c3 c4 c5 c6 c7 : Value) : Rec8 b (stored8 b x c0 c1 c2 c3 c4 c5 c6 c7) c0 c1 c2 c3 c4 c5 c6 c7 := by
  unfold stored8
  refine ⟨by have := k.lt; simpa [World.setCell] using this, fun j => by simp [World.frozen?_setCell, k.fz j], ?_, ?_, ?_, ?_, ?_, ?_, ?_, ?_⟩
  all_goals simp [World.cell?_setCell_same', World.cell?_setCell_other, k.c0, k.c1, k.c2, k.c3, k.c4, k.c5, k.c6, k.c7]

theorem Rec8.other8 {a b : Nat} {x : World} {d0 d1 d2 d3 d4 d5 d6 d7 : Value} (k : Rec8 b x d0 d1 d2 d3 d4 d5 d6 d7) (hne : b ≠ a) (c0 c1 c2 c3 c4 c5 c6 c7 : Value) : Rec8 b (stored8 a x c0 c1 c2 c3 c4 c5 c6 c7) d0 d1 d2 d3 d4 d5 d6 d7 :=
  ((((((((k.other hne 0 _).other hne 1 _).other hne 2 _).other hne 3 _).other hne 4 _).other hne 5 _).other hne 6 _).other hne 7 _)

theorem since_put {w x : World} {b : Nat} (h : Since w x) (hb : w.heap.size ≤ b) (i : Nat) (v : Value) : Since w (x.setCell ⟨b, i, none⟩ v) := Below.setCell h (p := ⟨b, i, none⟩) hb v

theorem since_stored {w x : World} {b : Nat} (h : Since w x) (hb : w.heap.size ≤ b) (c0 c1 c2 c3 c4 c5 c6 c7 : Value) : Since w (stored8 b x c0 c1 c2 c3 c4 c5 c6 c7) :=
  since_put (since_put (since_put (since_put (since_put (since_put (since_put (since_put (h) hb 0 _) hb 1 _) hb 2 _) hb 3 _) hb 4 _) hb 5 _) hb 6 _) hb 7 _

/-- A pointer to a zero segment in a block from B on. -/
def newSeg (B : Nat) (x : World) (v : Value) : Prop := ∃ b, v = .pointer (some ⟨b, 0, none⟩) ∧ B ≤ b ∧ Rec8 b x (.int .i64 0) (.int .i64 0) (.int .u32 0) (.int .u32 0) (.int .i64 0) (.int .i64 0) (.int .i64 0) (.string ⟨#[]⟩)

theorem newSeg_since {B : Nat} {x x' : World} {v : Value} (h : Since x x') (k : newSeg B x v) : newSeg B x' v := by
  obtain ⟨b, e, hB, hr⟩ := k
  exact ⟨b, e, hB, hr.since h⟩

theorem newSeg_new {B : Nat} (x : World) (hB : B ≤ x.heap.size) (t : TypeId) : newSeg B (x.alloc (.cells #[.int .i64 0, .int .i64 0, .int .u32 0, .int .u32 0, .int .i64 0, .int .i64 0, .int .i64 0, .string ⟨#[]⟩] t)) (.pointer (some ⟨x.heap.size, 0, none⟩)) :=
  ⟨x.heap.size, rfl, hB, Rec8.new x _ _ _ _ _ _ _ _ t⟩

/-- The Mss that a text's fields tell. -/
def segMs (s : ByteArray) : Int := if byteAt s 12 = 96 then halfAt s 22 else 0

/-- Where its Data begins. -/
def segAt (s : ByteArray) : Nat := if byteAt s 12 = 96 then 24 else 20

/-- The segment that they tell. -/
def segRead (s : ByteArray) : Value := segVal (halfAt s 0) (halfAt s 2) (wordAt s 4) (wordAt s 8) (byteAt s 13) (halfAt s 14) (segMs s) (s.extract (segAt s) s.size)

/-- The zero segment. -/
def segZero : Value := segVal 0 0 0 0 0 0 0 ⟨#[]⟩

theorem readSegShort (s : ByteArray) (hs : s.size < 20) (w : World) :
    Calls Tryd.prog 35 #[.string s] w fun e w' => e = .returned (.tuple #[segZero, .bool false]) ∧ Since w w' := by
  have h1 : (s.size : Int) < 20 := by omega
  go_enter Tryd.func35, Tryd.ntmps35
  go_wp2
  refine bodyPost_ret (v := .tuple #[segZero, .bool false]) ?_ rfl ⟨rfl, by repeat (first | exact Since.refl _ | apply Since.drew | apply Since.alloc)⟩
  simp [results, go_sem, segZero, segVal]

end Go.Proofs.YtfohognpcipmaaaDoor
