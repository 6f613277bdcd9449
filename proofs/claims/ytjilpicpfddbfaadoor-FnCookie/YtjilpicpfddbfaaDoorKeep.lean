/-
  A region whose answer is a struct in a block of its own, stored whole at some time: nothing turns but that block and new ones, and once it is stored it stays.
-/
import Derived.Test.YtjilpicpfddbfaaDoorTab
import Derived.Test.YtjilpicpfddbfaaDoorDrawnR
namespace Go.Proofs.YtjilpicpfddbfaaDoor
open Go.ChangeShapes Go.WideShapes Go.ChangeAt Go.RowKit Go.Deep
set_option linter.unusedVariables false
set_option maxRecDepth 10000

/-- Block g has n cells, whatever they hold, and may be written. -/
def Raw (g n : Nat) (x : World) : Prop := ∃ cs : Array Value, cs.size = n ∧ Blk g x cs

/-- From x to y nothing turns but block g and new ones; if block g holds fin it still does. -/
structure KeepB (g : Nat) (fin : Array Value) (x y : World) : Prop where
  touch : Touch g x y
  done : Blk g x fin → Blk g y fin
  raw : Raw g fin.size x → Raw g fin.size y

theorem KeepB.refl (g : Nat) (fin : Array Value) (x : World) : KeepB g fin x x := ⟨Touch.refl _ _, id, id⟩

theorem KeepB.trans {g : Nat} {fin : Array Value} (x y z : World) (h : KeepB g fin x y) (k : KeepB g fin y z) : KeepB g fin x z := ⟨h.touch.trans k.touch, fun b => k.done (h.done b), fun b => k.raw (h.raw b)⟩

theorem KeepB.of_since {g : Nat} {fin : Array Value} {x y : World} (h : Since x y) : KeepB g fin x y := ⟨Touch.of_since h g, fun b => b.since h, fun ⟨cs, e, b⟩ => ⟨cs, e, b.since h⟩⟩

theorem KeepB.drew {g : Nat} {fin : Array Value} (x : World) : KeepB g fin x x.drew := KeepB.of_since ((Since.refl _).drew)

theorem KeepB.since {g : Nat} {fin : Array Value} {w x y : World} (h : Since w x) (k : KeepB g fin x y) (hg : w.heap.size ≤ g) : Since w y := Since.touch h k.touch hg

theorem Raw.cell {g n : Nat} {x : World} (h : Raw g n x) (i : Nat) (hi : i < n) : ∃ u, x.cell? ⟨g, i, none⟩ = some u := by
  obtain ⟨cs, e, b⟩ := h
  exact ⟨cs[i], by rw [b.cell i]; simp⟩

theorem Raw.fz {g n : Nat} {x : World} (h : Raw g n x) (i : Nat) : x.frozen? ⟨g, i, none⟩ = false := by
  obtain ⟨cs, e, b⟩ := h
  exact b.fz i

theorem Raw.put {g n : Nat} {x : World} (h : Raw g n x) (i : Nat) (hi : i < n) (v : Value) : Raw g n (x.setCell ⟨g, i, none⟩ v) := by
  obtain ⟨cs, e, b⟩ := h
  exact ⟨_, by simpa using e, b.put i v (by omega)⟩

theorem Raw.store3 {g : Nat} {x : World} (h : Raw g 3 x) (v0 v1 v2 : Value) : KeepB g #[v0, v1, v2] x (((x.setCell ⟨g, 0, none⟩ v0).setCell ⟨g, 1, none⟩ v1).setCell ⟨g, 2, none⟩ v2) ∧ Blk g (((x.setCell ⟨g, 0, none⟩ v0).setCell ⟨g, 1, none⟩ v1).setCell ⟨g, 2, none⟩ v2) #[v0, v1, v2] := by
  have hb : Blk g (((x.setCell ⟨g, 0, none⟩ v0).setCell ⟨g, 1, none⟩ v1).setCell ⟨g, 2, none⟩ v2) #[v0, v1, v2] := by
    obtain ⟨⟨l⟩, e, b⟩ := h
    match l, e with
    | [c0, c1, c2], _ => exact ((b.put 0 v0 (by simp)).put 1 v1 (by simp)).put 2 v2 (by simp)
  exact ⟨⟨(((Touch.refl g x).put 0 v0).put 1 v1).put 2 v2, fun _ => hb, fun _ => ⟨_, rfl, hb⟩⟩, hb⟩

theorem Raw.store4 {g : Nat} {x : World} (h : Raw g 4 x) (v0 v1 v2 v3 : Value) : KeepB g #[v0, v1, v2, v3] x ((((x.setCell ⟨g, 0, none⟩ v0).setCell ⟨g, 1, none⟩ v1).setCell ⟨g, 2, none⟩ v2).setCell ⟨g, 3, none⟩ v3) ∧ Blk g ((((x.setCell ⟨g, 0, none⟩ v0).setCell ⟨g, 1, none⟩ v1).setCell ⟨g, 2, none⟩ v2).setCell ⟨g, 3, none⟩ v3) #[v0, v1, v2, v3] := by
  have hb : Blk g ((((x.setCell ⟨g, 0, none⟩ v0).setCell ⟨g, 1, none⟩ v1).setCell ⟨g, 2, none⟩ v2).setCell ⟨g, 3, none⟩ v3) #[v0, v1, v2, v3] := by
    obtain ⟨⟨l⟩, e, b⟩ := h
    match l, e with
    | [c0, c1, c2, c3], _ => exact (((b.put 0 v0 (by simp)).put 1 v1 (by simp)).put 2 v2 (by simp)).put 3 v3 (by simp)
  exact ⟨⟨((((Touch.refl g x).put 0 v0).put 1 v1).put 2 v2).put 3 v3, fun _ => hb, fun _ => ⟨_, rfl, hb⟩⟩, hb⟩

theorem wp_region_keep {P : Program} {id : Nat} {Q : Exit → Act → World → Prop} {a : Act} {w wb : World} {l : List Oper} (g : Nat) (fin : Array Value) (V : Nat → World → Value → Prop) (F : (Nat → Value) → Act) (hm : P.follows .mixedOrders = true) (hs : settledTo l.toArray a.tmps.size l.length = true) (htl : tailed l.toArray l.length = true) (h0 : KeepB g fin wb w)
    (hst : ∀ j w w' v, KeepB g fin w w' → V j w v → V j w' v) (hF : ∀ vals, F vals = filledTo l.toArray l.length a vals) (hop : eachDoesR P (KeepB g fin) V F wb 0 l)
    (hfin : ∀ vals w, KeepB g fin wb w → (∀ i, i < l.length → V i w (vals i)) → Q .normal (F vals) w) : (Code.region id l.toArray true).wp P Q a w := by
  refine wp_region_tailR (KeepB g fin) l.length V F hm hs htl KeepB.trans (KeepB.trans _ _ _ h0 (KeepB.drew _)) hst hF (by rw [List.take_length]; exact hop) fun vals w hw hv => ?_
  rw [List.drop_length]
  exact hfin vals w hw hv

/-- From x to y nothing turns but block g and new ones; if I holds it still does. -/
structure KeepI (g n : Nat) (I : World → Prop) (x y : World) : Prop where
  touch : Touch g x y
  keep : I x → I y
  raw : Raw g n x → Raw g n y

theorem KeepI.refl (g n : Nat) (I : World → Prop) (x : World) : KeepI g n I x x := ⟨Touch.refl _ _, id, id⟩

theorem KeepI.trans {g n : Nat} {I : World → Prop} (x y z : World) (h : KeepI g n I x y) (k : KeepI g n I y z) : KeepI g n I x z := ⟨h.touch.trans k.touch, fun b => k.keep (h.keep b), fun b => k.raw (h.raw b)⟩

theorem KeepI.of_since {g n : Nat} {I : World → Prop} (hI : ∀ x y, Since x y → I x → I y) {x y : World} (h : Since x y) : KeepI g n I x y := ⟨Touch.of_since h g, hI x y h, fun ⟨cs, e, b⟩ => ⟨cs, e, b.since h⟩⟩

theorem KeepI.since {g n : Nat} {I : World → Prop} {w x y : World} (h : Since w x) (k : KeepI g n I x y) (hg : w.heap.size ≤ g) : Since w y := Since.touch h k.touch hg

theorem wp_region_keepI {P : Program} {id : Nat} {Q : Exit → Act → World → Prop} {a : Act} {w wb : World} {l : List Oper} (g n : Nat) (I : World → Prop) (hI : ∀ x y, Since x y → I x → I y) (V : Nat → World → Value → Prop) (F : (Nat → Value) → Act) (hm : P.follows .mixedOrders = true) (hs : settledTo l.toArray a.tmps.size l.length = true) (htl : tailed l.toArray l.length = true) (h0 : KeepI g n I wb w)
    (hst : ∀ j w w' v, KeepI g n I w w' → V j w v → V j w' v) (hF : ∀ vals, F vals = filledTo l.toArray l.length a vals) (hop : eachDoesR P (KeepI g n I) V F wb 0 l)
    (hfin : ∀ vals w, KeepI g n I wb w → (∀ i, i < l.length → V i w (vals i)) → Q .normal (F vals) w) : (Code.region id l.toArray true).wp P Q a w := by
  refine wp_region_tailR (KeepI g n I) l.length V F hm hs htl KeepI.trans (KeepI.trans _ _ _ h0 (KeepI.of_since hI ((Since.refl _).drew))) hst hF (by rw [List.take_length]; exact hop) fun vals w hw hv => ?_
  rw [List.drop_length]
  exact hfin vals w hw hv

theorem Raw.put4 {g : Nat} {x : World} (h : Raw g 4 x) (v0 v1 v2 v3 : Value) : Touch g x ((((x.setCell ⟨g, 0, none⟩ v0).setCell ⟨g, 1, none⟩ v1).setCell ⟨g, 2, none⟩ v2).setCell ⟨g, 3, none⟩ v3) ∧ Blk g ((((x.setCell ⟨g, 0, none⟩ v0).setCell ⟨g, 1, none⟩ v1).setCell ⟨g, 2, none⟩ v2).setCell ⟨g, 3, none⟩ v3) #[v0, v1, v2, v3] := ⟨(h.store4 v0 v1 v2 v3).1.touch, (h.store4 v0 v1 v2 v3).2⟩
end Go.Proofs.YtjilpicpfddbfaaDoor
