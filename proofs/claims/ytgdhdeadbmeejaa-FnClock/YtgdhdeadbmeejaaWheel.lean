/-
  The wheels in memory: a block with the time, sixty-four lists of timers of our own, and the map of who is due when.
-/
import Derived.Test.YtgdhdeadbmeejaaTimSpec
import Derived.Test.YtgdhdeadbmeejaaDue
namespace Go.Proofs.Ytgdhdeadbmeejaa
open Go.ChangeShapes Go.WideShapes Go.ChangeAt Go.RowKit Go.Deep Go.Sort Go.Maps
set_option linter.unusedVariables false

/-- f but for one place. -/
def upd {α : Type} (f : Nat → α) (i : Nat) (x : α) : Nat → α := fun j => if j = i then x else f j

theorem upd_same {α : Type} (f : Nat → α) (i : Nat) (x : α) : upd f i x i = x := by simp [upd]

theorem upd_other {α : Type} (f : Nat → α) {i j : Nat} (x : α) (h : j ≠ i) : upd f i x j = f j := by simp [upd, h]

/-- How many entries the first n lists have together. -/
def totalTo (rows : Nat → List (Int × Int)) : Nat → Nat
  | 0 => 0
  | n + 1 => totalTo rows n + (rows n).length

theorem totalTo_upd (rows : Nat → List (Int × Int)) (i : Nat) (x : List (Int × Int)) : ∀ n, totalTo (upd rows i x) n + (if i < n then (rows i).length else 0) = totalTo rows n + (if i < n then x.length else 0)
  | 0 => by simp [totalTo]
  | n + 1 => by
    have ih := totalTo_upd rows i x n
    simp only [totalTo]
    by_cases h : n = i
    · subst h
      rw [upd_same]
      simp only [Nat.lt_irrefl, if_false, Nat.lt_succ_self, if_true] at ih ⊢
      omega
    · rw [upd_other rows x h]
      by_cases h2 : i < n
      · rw [if_pos h2] at ih
        rw [if_pos h2] at ih
        rw [if_pos (by omega), if_pos (by omega)]
        omega
      · rw [if_neg h2] at ih
        rw [if_neg h2] at ih
        rw [if_neg (by omega), if_neg (by omega)]
        omega

theorem le_totalTo (rows : Nat → List (Int × Int)) : ∀ n i, i < n → (rows i).length ≤ totalTo rows n
  | 0, i, h => by omega
  | n + 1, i, h => by
    simp only [totalTo]
    by_cases e : i = n
    · subst e; omega
    · have := le_totalTo rows n i (by omega)
      omega

/-- How many entries the wheels have together. -/
def total (rows : Nat → List (Int × Int)) : Nat := totalTo rows 64

/-- The wheels in block b: the time, the lists, the map's block. -/
structure Wheels (w : World) (B b bm : Nat) (now : Int) (vs : Nat → Value) (rows : Nat → List (Int × Int)) : Prop where
  low : B ≤ b
  mlow : B ≤ bm
  blk : ∃ cs : Array Value, w.heap[b]? = some (.cells cs 69 (0, 0)) ∧ cs.size = 66 ∧ cs[0]? = some (.int .i64 now) ∧ (∀ i, i < 64 → cs[i + 1]? = some (vs i)) ∧ cs[65]? = some (.map (some bm))
  own : ∀ i, i < 64 → Own shT w B (vs i) (rows i).length (rows i)
  apart : ∀ i j, i < 64 → j < 64 → i ≠ j → (vs i).ownBlock = none ∨ (vs i).ownBlock ≠ (vs j).ownBlock

section
variable {w w' : World} {B b bm : Nat} {now : Int} {vs : Nat → Value} {rows : Nat → List (Int × Int)}

theorem Wheels.lt (h : Wheels w B b bm now vs rows) : b < w.heap.size := by
  obtain ⟨cs, h1, _⟩ := h.blk
  exact (Array.getElem?_eq_some_iff.1 h1).1

theorem Wheels.cell0 (h : Wheels w B b bm now vs rows) : w.cell? ⟨b, 0, none⟩ = some (.int .i64 now) := by
  obtain ⟨cs, h1, _, h2, _⟩ := h.blk
  rw [cell_of_row w b 0 cs _ _ h1]
  exact h2

theorem Wheels.cellRow (h : Wheels w B b bm now vs rows) (i : Nat) (hi : i < 64) : w.cell? ⟨b, i + 1, none⟩ = some (vs i) := by
  obtain ⟨cs, h1, _, _, h2, _⟩ := h.blk
  rw [cell_of_row w b (i + 1) cs _ _ h1]
  exact h2 i hi

theorem Wheels.cellMap (h : Wheels w B b bm now vs rows) : w.cell? ⟨b, 65, none⟩ = some (.map (some bm)) := by
  obtain ⟨cs, h1, _, _, _, h2⟩ := h.blk
  rw [cell_of_row w b 65 cs _ _ h1]
  exact h2

theorem Wheels.free (h : Wheels w B b bm now vs rows) (i : Nat) : w.frozen? ⟨b, i, none⟩ = false := by
  obtain ⟨cs, h1, _⟩ := h.blk
  exact frozen_of_row w b i cs _ h1

/-- No list lies in the wheels' own block. -/
theorem Wheels.rowNe (h : Wheels w B b bm now vs rows) (i : Nat) (hi : i < 64) : (vs i).ownBlock ≠ some b := by
  intro e
  obtain ⟨cur, h1⟩ := (h.own i hi).tag e
  obtain ⟨cs, h2, _⟩ := h.blk
  rw [h1] at h2
  injection h2 with h2
  injection h2 with _ h2
  exact absurd h2 (by decide)

/-- What other blocks do. -/
theorem Wheels.kept (h : Wheels w B b bm now vs rows) (hb : w'.heap[b]? = w.heap[b]?) (hr : ∀ i, i < 64 → ∀ g, (vs i).ownBlock = some g → w'.heap[g]? = w.heap[g]?) : Wheels w' B b bm now vs rows := by
  refine ⟨h.low, h.mlow, ?_, fun i hi => ?_, h.apart⟩
  · obtain ⟨cs, h1, h2⟩ := h.blk
    exact ⟨cs, hb.trans h1, h2⟩
  · have ho := h.own i hi
    refine ⟨ho.1, ho.2.1, ?_⟩
    rcases ho.2.2 with h1 | ⟨g, cap, cur, h1, h2, h3, h4⟩
    · exact .inl h1
    · exact .inr ⟨g, cap, cur, h1, h2, (hr i hi g (by rw [h1]; rfl)).trans h3, h4⟩

theorem Wheels.since (h : Wheels w B b bm now vs rows) (k : Since w w') : Wheels w' B b bm now vs rows :=
  h.kept (Below.block k b h.lt) (fun i hi g e => Below.block k g ((h.own i hi).lt e).2)

theorem Wheels.touch {g : Nat} (h : Wheels w B b bm now vs rows) (k : Touch g w w') (hb : b ≠ g) (hr : ∀ i, i < 64 → (vs i).ownBlock ≠ some g) : Wheels w' B b bm now vs rows :=
  h.kept (k.block b h.lt hb) (fun i hi g' e => k.block g' ((h.own i hi).lt e).2 (fun e' => hr i hi (by rw [e, e'])))

/-- A store into the time. -/
theorem Wheels.setNow (h : Wheels w B b bm now vs rows) (n' : Int) : Wheels (w.setCell ⟨b, 0, none⟩ (.int .i64 n')) B b bm n' vs rows := by
  have hk : ∀ k, k ≠ b → (w.setCell ⟨b, 0, none⟩ (.int .i64 n')).heap[k]? = w.heap[k]? := fun k hk => Below.heap_setCell w ⟨b, 0, none⟩ _ k hk
  obtain ⟨cs, h1, h2, h3, h4, h5⟩ := h.blk
  refine ⟨h.low, h.mlow, ⟨_, heap_setCell_same w b 0 cs _ (.int .i64 n') h1, by simpa using h2, by simp [h2], fun i hi => by simpa using h4 i hi, by simpa using h5⟩, fun i hi => ?_, h.apart⟩
  exact (h.own i hi).touch ((Touch.refl b w).put 0 _) (h.rowNe i hi)

/-- A list put in another's place: w1 is the world behind what was done to list i's own block, and v the new value. -/
theorem Wheels.setRowFar (h : Wheels w B b bm now vs rows) {i : Nat} (hi : i < 64) {w1 : World} {v : Value} {xs : List (Int × Int)} (hg : w.grownBy w1 (vs i).ownBlock) (hown : Own shT w1 B v xs.length xs) (hfar : ∀ j, j < 64 → j ≠ i → ∀ g, (vs j).ownBlock = some g → v.ownBlock ≠ some g) :
    Wheels (w1.setCell ⟨b, i + 1, none⟩ v) B b bm now (upd vs i v) (upd rows i xs) := by
  have hk : ∀ k, k ≠ b → (w1.setCell ⟨b, i + 1, none⟩ v).heap[k]? = w1.heap[k]? := fun k hk => Below.heap_setCell w1 ⟨b, i + 1, none⟩ _ k hk
  obtain ⟨cs, h1, h2, h3, h4, h5⟩ := h.blk
  have hb1 : w1.heap[b]? = some (.cells cs 69 (0, 0)) := (hg.block b h.lt (fun e => h.rowNe i hi e.symm)).trans h1
  have hvb : v.ownBlock ≠ some b := by
    intro e
    obtain ⟨cur, h6⟩ := hown.tag e
    rw [hb1] at h6
    injection h6 with h6
    injection h6 with _ h6
    exact absurd h6 (by decide)
  refine ⟨h.low, h.mlow, ⟨_, heap_setCell_same w1 b (i + 1) cs _ v hb1, by simpa using h2, by simpa using h3, fun j hj => ?_, ?_⟩, fun j hj => ?_, fun j k hj hk' hjk => ?_⟩
  · by_cases e : j = i
    · subst e
      rw [upd_same, Array.getElem?_setIfInBounds, if_pos rfl, if_pos (by omega)]
    · rw [upd_other _ _ e]
      rw [Array.getElem?_setIfInBounds, if_neg (by omega)]
      exact h4 j hj
  · rw [Array.getElem?_setIfInBounds, if_neg (by omega)]
    exact h5
  · by_cases e : j = i
    · subst e
      rw [upd_same, upd_same]
      exact hown.touch ((Touch.refl b w1).put (j + 1) _) hvb
    · rw [upd_other _ _ e, upd_other _ _ e]
      refine ((h.own j hj).kept hg ?_).touch ((Touch.refl b w1).put (i + 1) _) (h.rowNe j hj)
      exact h.apart j i hj hi e
  · by_cases e1 : j = i
    · subst e1
      rw [upd_same, upd_other _ _ (Ne.symm hjk)]
      cases hv : v.ownBlock with
      | none => exact .inl rfl
      | some g =>
        right
        intro e
        exact hfar k hk' (Ne.symm hjk) g e.symm hv
    · rw [upd_other _ _ e1]
      by_cases e2 : k = i
      · subst e2
        rw [upd_same]
        cases hv : (vs j).ownBlock with
        | none => exact .inl rfl
        | some g =>
          right
          intro e
          exact hfar j hj e1 g hv e.symm
      · rw [upd_other _ _ e2]
        exact h.apart j k hj hk' hjk

theorem Wheels.setRow (h : Wheels w B b bm now vs rows) {i : Nat} (hi : i < 64) {w1 : World} {v : Value} {xs : List (Int × Int)} (hg : w.grownBy w1 (vs i).ownBlock) (hown : Own shT w1 B v xs.length xs) (hat : v.ownBlock = none ∨ v.ownBlock = (vs i).ownBlock ∨ ∃ g, v.ownBlock = some g ∧ w.heap.size ≤ g) :
    Wheels (w1.setCell ⟨b, i + 1, none⟩ v) B b bm now (upd vs i v) (upd rows i xs) := by
  refine h.setRowFar hi hg hown ?_
  intro j hj hji g e e'
  rcases hat with h0 | h0 | ⟨g', h0, h6⟩
  · rw [h0] at e'; cases e'
  · rcases h.apart j i hj hi hji with h7 | h7
    · rw [h7] at e; cases e
    · exact h7 (by rw [e, ← h0, e'])
  · have := ((h.own j hj).lt e).2
    rw [h0] at e'
    cases e'
    omega
end
end Go.Proofs.Ytgdhdeadbmeejaa
