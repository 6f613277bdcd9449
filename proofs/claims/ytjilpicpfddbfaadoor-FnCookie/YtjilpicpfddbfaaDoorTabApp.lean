/-
  append to a list of our own, of any shape: at a plain region and at a step of one that draws its order.
-/
import Derived.Test.YtjilpicpfddbfaaDoorTab
import Derived.Test.YtjilpicpfddbfaaDoorCalm
import Derived.Laws.ByValue
import Derived.Maps.RangeWalk
import Derived.Deep.RegionLaw
namespace Go.Proofs.YtjilpicpfddbfaaDoor
open Go.ChangeShapes Go.WideShapes Go.ChangeAt Go.RowKit Go.Deep
set_option linter.unusedVariables false
set_option maxRecDepth 10000

/-- The slice type sl has elements of this shape, of so many bytes. -/
def Laid {α : Type} (S : Shape α) (sl : TypeId) (bytes : Nat) : Prop := Tryd.prog.underlying sl = some (.slice S.ty) ∧ ∃ ii z, Tryd.prog.info? S.ty = some ii ∧ ii.zero = some z ∧ ii.size = S.k ∧ ii.bytes = bytes ∧ z.cells.size = S.k

section
variable {α : Type} {S : Shape α}

theorem Rd.flat {w : World} {x : Addr} {m : Nat} {ys : List α} (R : Rd S w (some x) m ys) : ∀ j u, (S.cells ys)[j]? = some u → w.cell? (x.add j) = some u := by
  intro t u hu
  have hl : t < (S.cells ys).length := (List.getElem?_eq_some_iff.1 hu).1
  rw [S.cells_len, R.len] at hl
  have hpos := S.pos
  obtain ⟨i, j, hj, rfl⟩ : ∃ i j, j < S.k ∧ t = i * S.k + j := ⟨t / S.k, t % S.k, Nat.mod_lt _ hpos, by rw [Nat.mul_comm]; exact (Nat.div_add_mod t S.k).symm⟩
  have hi : i < m := by
    rcases Nat.lt_or_ge i m with h1 | h1
    · exact h1
    · have : m * S.k ≤ i * S.k := Nat.mul_le_mul_right _ h1
      omega
  obtain ⟨y, hy, _, hc⟩ := R.cell i hi
  cases hy
  rw [hc j hj, ← hu, S.cells_at ys i j (by rw [R.len]; exact hi) hj]

theorem Shape.cells_one (S : Shape α) (ys : List α) : ∀ u ∈ S.cells ys, u.oneCell' = true := by
  intro u hu
  obtain ⟨x, _, hx⟩ := List.mem_flatMap.1 hu
  exact S.one x u hx

theorem app_own {sl bytes : Nat} (L : Laid S sl bytes) {ops : Array Oper} {rest : List Oper} {o : Oper} {a : Act} {Q : Exit → Act → World → Prop} {w : World} {B n : Nat} {v : Value} {xs : List α} {ad : Addr} {m c : Nat} {ys : List α} (hgd : o.guard = none) (s x : Operand)
    (ho : o.op = .call { callee := .builtin .append, args := #[s, x], argTypes := #[sl, sl] }) (hs : a.eval s = v) (T : Own S w B v n xs) (hx : a.eval x = .slice (some ad) m c) (R : Rd S w (some ad) m ys) (hm : 0 < m) (hmax : n + m ≤ maxLen) (hby : (n + m) * bytes ≤ 140737488355328) (hB : B ≤ w.heap.size) (H : Nat) (hH : w.heap.size = H)
    (k : ∀ g cap w', Held S w' B g (n + m) cap (xs ++ ys) → w.grownBy w' v.ownBlock → (v.ownBlock = some g ∨ g = H) → wpList Tryd.prog ops Q rest (a.put o.dst (.slice (some ⟨g, 0, none⟩) (n + m) cap)) w') :
    wpList Tryd.prog ops Q (o :: rest) a w := by
  obtain ⟨hu, ii, z, hi, hz0, hz1, hz2, hzs⟩ := L
  refine wpList_append_lies w hgd s x sl ho B S.ty ii z S.k bytes hu hi hz0 hz1 hz2 hzs S.pos v n _ hs T.2 ad m c (S.cells ys) hx (by rw [S.cells_len, R.len]) R.flat (S.cells_one ys) hm hmax hby hB H hH fun g cap w' hown hgrow hat _ => ?_
  exact k g cap w' ⟨by rw [List.length_append, T.1, R.len], by rw [S.cells_append]; exact hown⟩ hgrow hat

theorem step_app_own {sl bytes : Nat} (L : Laid S sl bytes) {ops : Array Oper} {o : Oper} {a : Act} {K : Act → World → Prop} {Q : Exit → Act → World → Prop} {E : Prop} {w : World} {B n : Nat} {v : Value} {xs : List α} {ad : Addr} {m c : Nat} {ys : List α} (hgd : o.guard = none) (s x : Operand)
    (ho : o.op = .call { callee := .builtin .append, args := #[s, x], argTypes := #[sl, sl] }) (hs : a.eval s = v) (T : Own S w B v n xs) (hx : a.eval x = .slice (some ad) m c) (R : Rd S w (some ad) m ys) (hm : 0 < m) (hmax : n + m ≤ maxLen) (hby : (n + m) * bytes ≤ 140737488355328) (hB : B ≤ w.heap.size) (H : Nat) (hH : w.heap.size = H)
    (k : ∀ g cap w', Held S w' B g (n + m) cap (xs ++ ys) → w.grownBy w' v.ownBlock → (v.ownBlock = some g ∨ g = H) → K (a.put o.dst (.slice (some ⟨g, 0, none⟩) (n + m) cap)) w') :
    if Region.wanted o (yielded ops a.tmps) = true then Oper.wp Tryd.prog o a w K Q else E := by
  obtain ⟨hu, ii, z, hi, hz0, hz1, hz2, hzs⟩ := L
  refine step_append_lies w hgd s x sl ho B S.ty ii z S.k bytes hu hi hz0 hz1 hz2 hzs S.pos v n _ hs T.2 ad m c (S.cells ys) hx (by rw [S.cells_len, R.len]) R.flat (S.cells_one ys) hm hmax hby hB H hH fun g cap w' hown hgrow hat _ => ?_
  exact k g cap w' ⟨by rw [List.length_append, T.1, R.len], by rw [S.cells_append]; exact hown⟩ hgrow hat

/-- A new block of one element. -/
theorem Rd.one (w : World) (x : α) (t : TypeId) (b : Nat) (hb : b = w.heap.size) : Rd S (w.alloc (.cells (S.enc x).toArray t)) (some ⟨b, 0, none⟩) 1 [x] := by
  subst hb
  refine ⟨rfl, by unfold maxLen; omega, fun i hi => ⟨_, rfl, by simp, fun j hj => ?_⟩⟩
  obtain rfl : i = 0 := by omega
  have e : (⟨w.heap.size, 0, none⟩ : Addr).add (0 * S.k + j) = ⟨w.heap.size, j, none⟩ := by unfold Addr.add; split <;> simp_all
  rw [e, World.cell?_alloc_mark]
  simp [Shape.get]

/-- A new empty list. -/
theorem Held.empty (w : World) : Held S (w.alloc (.cells #[] S.ty)) w.heap.size w.heap.size 0 0 [] :=
  ⟨rfl, by
    have := World.ownsRow_made (base := w.heap.size) (e := S.ty) (size := S.k) w #[] 0 (Nat.le_refl _) (by decide) (by simp)
    simpa [Shape.cells] using this⟩

/-- append of a list to a new empty one: a new list of the same elements. -/
theorem run_append_empty {sl bytes : Nat} (L : Laid S sl bytes) (ty : TypeId) (w : World) {B g : Nat} (T : Held S w B g 0 0 []) {ao : Option Addr} {m c : Nat} {ys : List α} (R : Rd S w ao m ys) (hnil : ao = none → c = 0) (hby : m * bytes ≤ 140737488355328) (hB : B ≤ w.heap.size) :
    ∃ g' cap' w', (Builtin.append_ #[sl, sl] ty #[.slice (some ⟨g, 0, none⟩) 0 0, .slice ao m c]).run Tryd.prog w = .ok (.slice (some ⟨g', 0, none⟩) m cap') w' ∧ Held S w' B g' m cap' ys ∧ Since w w' := by
  obtain ⟨hu, ii, z, hi, hz0, hz1, hz2, hzs⟩ := L
  cases ao with
  | none =>
    have hm0 : m = 0 := by
      rcases Nat.eq_zero_or_pos m with h | h
      · exact h
      · obtain ⟨x, hx, _⟩ := R.cell 0 h
        cases hx
    obtain rfl : c = 0 := hnil rfl
    subst hm0
    have ht : ys = [] := List.eq_nil_of_length_eq_zero R.len
    subst ht
    have hrun := run_append_owned_none (P := Tryd.prog) w B sl ty S.ty ii S.k hu hi _ 0 _ T.2
    exact ⟨g, 0, w, hrun, T, Since.refl _⟩
  | some x =>
    by_cases hm : m = 0
    · subst hm
      have ht : ys = [] := List.eq_nil_of_length_eq_zero R.len
      subst ht
      obtain ⟨cur, h3, h6, h4, h5, h7⟩ := T.heap
      have hr2 := run_append_room (P := Tryd.prog) w sl ty S.ty ii hu hi g 0 0 cur h3 x 0 c [] (by simp) (fun j v hj => by simp at hj) (fun u hu => by cases hu) (Nat.le_refl _) (by simp)
      refine ⟨g, 0, w, ?_, T, Since.refl _⟩
      rw [hr2]
      have e : ∀ cs : Array Value, cs = cur → w.setRow g cs = w := fun cs hcs => by
        subst hcs
        have hh : (w.setRow g cs).heap = w.heap := by
          apply Array.ext_getElem?
          intro i
          by_cases hi : i = g
          · subst hi
            rw [setRow_heap w i cs cs _ _ h3, h3]
          · exact setRow_other w g i cs hi
        show { w with heap := (w.setRow g cs).heap } = w
        rw [hh]
      rw [e _ (by simp)]
    · have hr2 := run_append_grow (P := Tryd.prog) w sl ty S.ty ii z hu hi hz0 ⟨g, 0, none⟩ 0 0 [] (by simp) (fun j v hj => by simp at hj) x m c (S.cells ys) (by rw [S.cells_len, R.len, hz1]) R.flat (by omega) (by have := R.most; unfold maxLen at this; omega) (growslice_fits (by omega) (by rw [hz2, Nat.zero_add]; exact hby))
      obtain ⟨g', cap', w', hr, hown, hgrow, hat, hlt⟩ := run_append_lies (P := Tryd.prog) w sl ty B S.ty ii z S.k bytes hu hi hz0 hz1 hz2 hzs S.pos _ 0 _ T.2 x m c (S.cells ys) (by rw [S.cells_len, R.len]) R.flat (S.cells_one ys) (by omega) (by have := R.most; omega) (by rw [Nat.zero_add]; exact hby) hB _ rfl
      simp only [Nat.zero_add] at hr hown
      refine ⟨g', cap', w', hr, ⟨R.len, by simpa [Shape.cells] using hown⟩, ?_⟩
      rw [hr] at hr2
      injection hr2 with _ e
      rw [e]
      exact ((Since.refl _).drew).alloc _
end

theorem since_grown {w x y : World} (h : Since w x) {row : Option Nat} (g : x.grownBy y row) (hv : ∀ k, row = some k → w.heap.size ≤ k) : Since w y :=
  ⟨g.os.trans h.os, g.tape.trans h.tape, g.output.trans h.output, Nat.le_trans h.size g.size, fun k hk => (g.block k (Nat.lt_of_lt_of_le hk h.size) (fun e => by have := hv k e.symm; omega)).trans (h.block k hk)⟩
end Go.Proofs.YtjilpicpfddbfaaDoor
