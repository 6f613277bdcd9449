/-
  A map from Ids to ticks in memory, told as a list of timers: made, looked up, put, struck, counted, gone through.
-/
import Derived.Test.YtgdhdeadbmeejaaTimCmp
import Derived.Maps.RangeWalk
import Derived.Maps.OwnOps
import Derived.Maps.OwnSet
import Derived.Maps.Ext
namespace Go.Proofs.Ytgdhdeadbmeejaa
open Go.ChangeShapes Go.WideShapes Go.ChangeAt Go.RowKit Go.Deep Go.Sort Go.Maps
set_option linter.unusedVariables false

theorem keyedI : Keyed Try.prog 3 := int_keyed Try.underlying3

theorem zeroI (w : World) : (zeroValue 3).run Try.prog w = .ok (.int .i64 0) w := by kernel_rfl

/-- x is a number of 64 bits. -/
def I64 (x : Int) : Prop := (Lit.int .i64 x).wf = true

theorem i64_of {x : Int} (h : -9223372036854775808 ≤ x ∧ x ≤ 9223372036854775807) : I64 x := WalkArith.wf_i64 (by omega)

/-- The Ids of a list of timers. -/
def idsOf (ts : List (Int × Int)) : List Int := ts.map Prod.fst

/-- A list of timers without that Id. -/
def without (ts : List (Int × Int)) (x : Int) : List (Int × Int) := ts.filter fun t => decide (t.1 ≠ x)

/-- When that Id is due; 0 when it is not there. -/
def dueAt (ts : List (Int × Int)) (x : Int) : Int := ((ts.find? fun t => decide (t.1 = x)).map Prod.snd).getD 0

theorem dueAt_of {ts : List (Int × Int)} (hn : (idsOf ts).Nodup) {t : Int × Int} (ht : t ∈ ts) : dueAt ts t.1 = t.2 := by
  induction ts with
  | nil => cases ht
  | cons a r ih =>
    unfold dueAt
    simp only [List.find?_cons]
    have hn' : a.1 ∉ idsOf r ∧ (idsOf r).Nodup := by simpa [idsOf] using hn
    rcases List.mem_cons.1 ht with h | h
    · subst h; simp
    · have hne : a.1 ≠ t.1 := fun e => hn'.1 (by rw [e]; exact List.mem_map.2 ⟨t, h, rfl⟩)
      simp only [hne, decide_false]
      exact ih hn'.2 h

theorem dueAt_none {ts : List (Int × Int)} {x : Int} (h : x ∉ idsOf ts) : dueAt ts x = 0 := by
  unfold dueAt
  have : (ts.find? fun t => decide (t.1 = x)) = none := by
    rw [List.find?_eq_none]
    intro t ht e
    exact h (List.mem_map.2 ⟨t, ht, by simpa using e⟩)
  rw [this]
  rfl

/-- D reads as just these timers. -/
structure Tells (D : DataW Unit) (ts : List (Int × Int)) : Prop where
  once : (idsOf ts).Nodup
  has : ∀ x, Maps.has D (.int .i64 x) = decide (x ∈ idsOf ts)
  val : ∀ t ∈ ts, ∀ z, D.atKey (.int .i64 t.1) z = .lit (.int .i64 t.2)
  size : Maps.size D = ts.length

theorem Tells.perm {D : DataW Unit} {ts us : List (Int × Int)} (h : Tells D ts) (p : ts.Perm us) : Tells D us :=
  ⟨(p.map _).nodup_iff.1 h.once, fun x => by rw [h.has x]; exact decide_eq_decide.2 ((p.map _).mem_iff), fun t ht => h.val t (p.mem_iff.2 ht), by rw [h.size, p.length_eq]⟩

theorem mem_without {ts : List (Int × Int)} {x : Int} {t : Int × Int} : t ∈ without ts x ↔ t ∈ ts ∧ t.1 ≠ x := by simp [without]

theorem ids_without {ts : List (Int × Int)} {x y : Int} : y ∈ idsOf (without ts x) ↔ y ∈ idsOf ts ∧ y ≠ x := by
  simp only [idsOf, List.mem_map, mem_without]
  constructor
  · rintro ⟨t, ⟨h1, h2⟩, rfl⟩
    exact ⟨⟨t, h1, rfl⟩, h2⟩
  · rintro ⟨⟨t, h1, rfl⟩, h2⟩
    exact ⟨t, ⟨h1, h2⟩, rfl⟩

theorem once_without {ts : List (Int × Int)} (h : (idsOf ts).Nodup) (x : Int) : (idsOf (without ts x)).Nodup := by
  unfold idsOf without at *
  exact List.Pairwise.sublist (List.Sublist.map _ List.filter_sublist) h

theorem without_self {ts : List (Int × Int)} {x : Int} (h : x ∉ idsOf ts) : without ts x = ts := by
  unfold without
  rw [List.filter_eq_self]
  intro t ht
  simp only [decide_eq_true_iff]
  exact fun e => h (List.mem_map.2 ⟨t, ht, e⟩)

theorem length_without {ts : List (Int × Int)} (h : (idsOf ts).Nodup) (x : Int) : (without ts x).length + (if x ∈ idsOf ts then 1 else 0) = ts.length := by
  induction ts with
  | nil => simp [without, idsOf]
  | cons a r ih =>
    have hn' : a.1 ∉ idsOf r ∧ (idsOf r).Nodup := by simpa [idsOf] using h
    have ih' := ih hn'.2
    by_cases e : a.1 = x
    · subst e
      have h1 : without (a :: r) a.1 = without r a.1 := by simp [without]
      rw [h1, without_self hn'.1, if_pos (by simp [idsOf])]
      rfl
    · have h1 : without (a :: r) x = a :: without r x := by simp [without, e]
      have h2 : (x ∈ idsOf (a :: r)) = (x ∈ idsOf r) := by simp [idsOf, Ne.symm e]
      rw [h1]
      simp only [h2, List.length_cons]
      omega

/-- Block b is a map that reads as these timers. -/
def Due (w : World) (b : Nat) (ts : List (Int × Int)) : Prop := ∃ D : DataW Unit, w.ownsMap Try.prog 3 (plainElem Try.prog 3) b ts.length D ∧ Tells D ts

theorem ownsMap_tight {w : World} {b n : Nat} {D : DataW Unit} (h : w.ownsMap Try.prog 3 (plainElem Try.prog 3) b n D) {m : Nat} (hm : Maps.size D = m) : w.ownsMap Try.prog 3 (plainElem Try.prog 3) b m D := by
  obtain ⟨es, clock, hb, F, hs, hD⟩ := h
  refine ⟨es, clock, hb, F, ?_, hD⟩
  have e1 : es.size = ((es.toList.map (WideElems.rg Try.prog 3 (plainElem (H := Unit) Try.prog 3))).foldr DataW.insert []).length := by rw [length_sorted]; simp
  rw [e1, ← hm, hD]
  exact Nat.le_refl _

theorem Due.made (w : World) : Due (w.alloc (.map #[] 0)) w.heap.size [] :=
  ⟨.map [], World.ownsMap_made _ _ _ _, by simp [idsOf], fun x => by simp [idsOf, Maps.has], fun t ht => (by cases ht), rfl⟩

theorem Due.lt {w : World} {b : Nat} {ts : List (Int × Int)} (h : Due w b ts) : b < w.heap.size := by
  obtain ⟨D, h1, _⟩ := h
  exact h1.lt

theorem Due.once {w : World} {b : Nat} {ts : List (Int × Int)} (h : Due w b ts) : (idsOf ts).Nodup := by
  obtain ⟨D, _, h2⟩ := h
  exact h2.once

theorem Due.perm {w : World} {b : Nat} {ts us : List (Int × Int)} (h : Due w b ts) (p : ts.Perm us) : Due w b us := by
  obtain ⟨D, h1, h2⟩ := h
  exact ⟨D, p.length_eq ▸ h1, h2.perm p⟩

theorem Due.kept {w w' : World} {b : Nat} {ts : List (Int × Int)} {row : Option Nat} (h : Due w b ts) (hg : w.grownBy w' row) (hne : some b ≠ row) : Due w' b ts := by
  obtain ⟨D, h1, h2⟩ := h
  exact ⟨D, h1.kept hg hne, h2⟩

theorem Due.block {w w' : World} {b : Nat} {ts : List (Int × Int)} (h : Due w b ts) (hg : w'.heap[b]? = w.heap[b]?) : Due w' b ts := by
  obtain ⟨D, ⟨es, clock, hb, F, hs, hD⟩, h2⟩ := h
  exact ⟨D, ⟨es, clock, hg.trans hb, F, hs, hD⟩, h2⟩

theorem Due.since {w w' : World} {b : Nat} {ts : List (Int × Int)} (h : Due w b ts) (k : Since w w') : Due w' b ts := h.kept (grown_of_since k) (by simp)

theorem Due.touch {w w' : World} {b g : Nat} {ts : List (Int × Int)} (h : Due w b ts) (k : Touch g w w') (hne : b ≠ g) : Due w' b ts := h.kept (grown_of_touch k) (by simpa using hne)

theorem Due.tag {w : World} {b : Nat} {ts : List (Int × Int)} (h : Due w b ts) : ∃ es clock, w.heap[b]? = some (.map es clock) := by
  obtain ⟨D, ⟨es, clock, hb, _⟩, _⟩ := h
  exact ⟨es, clock, hb⟩

theorem Tells.put {D : DataW Unit} {ts : List (Int × Int)} (h : Tells D ts) (ht : Maps.Tidy D) (x y : Int) : Tells (D.put (.int .i64 x) (.lit (.int .i64 y))) ((x, y) :: without ts x) := by
  have hk : WideAt.IsKeyLit (.int .i64 x) := trivial
  have hm := ht.isMap
  refine ⟨?_, fun z => ?_, fun t hmem z => ?_, ?_⟩
  · show (x :: idsOf (without ts x)).Nodup
    rw [List.nodup_cons]
    exact ⟨fun e => (ids_without.1 e).2 rfl, once_without h.once x⟩
  · by_cases e : z = x
    · subst e
      rw [has_put_same hm hk]
      simp [idsOf]
    · rw [has_put_other (by simpa using e), h.has z]
      refine decide_eq_decide.2 ?_
      show z ∈ idsOf ts ↔ z ∈ x :: idsOf (without ts x)
      simp [ids_without, e]
  · rcases List.mem_cons.1 hmem with e | e
    · subst e
      exact atKey_put_same hm hk _ _
    · obtain ⟨e1, e2⟩ := mem_without.1 e
      rw [atKey_put_other (by simpa using e2)]
      exact h.val t e1 z
  · rw [Maps.size_put ht, h.has x, h.size]
    have := length_without h.once x
    by_cases e : x ∈ idsOf ts
    · rw [if_pos e] at this
      simp only [e, decide_true, if_true, List.length_cons]
      omega
    · rw [if_neg e] at this
      simp only [e, decide_false, List.length_cons]
      simp
      omega

theorem Tells.del {D : DataW Unit} {ts : List (Int × Int)} (h : Tells D ts) (ht : Maps.Tidy D) (x : Int) : Tells (D.del (.int .i64 x)) (without ts x) := by
  refine ⟨once_without h.once x, fun z => ?_, fun t hmem z => ?_, ?_⟩
  · by_cases e : z = x
    · subst e
      rw [has_del_same]
      symm
      rw [decide_eq_false_iff_not]
      exact fun e => (ids_without.1 e).2 rfl
    · rw [has_del_other (by simpa using e), h.has z]
      exact decide_eq_decide.2 (by simp [ids_without, e])
  · obtain ⟨e1, e2⟩ := mem_without.1 hmem
    rw [atKey_del_other (by simpa using e2)]
    exact h.val t e1 z
  · have h1 := Maps.size_del (k := .int .i64 x) ht
    rw [h.has x, h.size] at h1
    have h2 := length_without h.once x
    by_cases e : x ∈ idsOf ts
    · rw [if_pos e] at h2
      simp only [e, decide_true, if_true] at h1
      omega
    · rw [if_neg e] at h2
      simp only [e, decide_false] at h1
      simp at h1
      omega

theorem Tells.look {D : DataW Unit} {ts : List (Int × Int)} (h : Tells D ts) {x c : Int} (hc : D.atKey (.int .i64 x) (.lit (.int .i64 0)) = .lit (.int .i64 c)) : c = dueAt ts x := by
  by_cases e : x ∈ idsOf ts
  · obtain ⟨t, ht, rfl⟩ := List.mem_map.1 e
    rw [h.val t ht] at hc
    rw [dueAt_of h.once ht]
    simpa using hc.symm
  · have hf : Maps.has D (.int .i64 x) = false := by rw [h.has x]; simpa using e
    rw [atKey_of_not_has hf] at hc
    rw [dueAt_none e]
    simpa using hc.symm

section
variable {w : World} {b : Nat} {ts : List (Int × Int)} {ops : Array Oper} {rest : List Oper} {o : Oper} {a : Act} {Q : Exit → Act → World → Prop}

theorem Due.run_get (h : Due w b ts) {x : Int} (hx : I64 x) : (Instr.lookup 66 (.map (some b)) (.int .i64 x) false).run Try.prog w = .ok (.int .i64 (dueAt ts x)) w := by
  obtain ⟨D, h1, h2⟩ := h
  obtain ⟨c, hr, hat, _⟩ := h1.lookup_int keyedI Try.underlying66 Try.underlying3 (zeroI _) (keyOf_int_mk Try.underlying3 hx)
  rw [hr, h2.look hat]

theorem due_ok (hg : o.guard = none) (m x : Operand) (hop : o.op = Op.lookup 66 m x true) (h : Due w b ts) {k : Int} (hk : I64 k) (hm : a.eval m = .map (some b)) (hx : a.eval x = .int .i64 k)
    (hK : wpList Try.prog ops Q rest (a.put o.dst (.tuple #[.int .i64 (dueAt ts k), .bool (decide (k ∈ idsOf ts))])) w) : wpList Try.prog ops Q (o :: rest) a w := by
  obtain ⟨D, h1, h2⟩ := h
  refine wpList_lookup_own_ok_int w hg m x 66 hop 3 3 .i64 keyedI Try.underlying66 Try.underlying3 (zeroI _) b _ D hm h1 _ _ hx (keyOf_int_mk Try.underlying3 hk) fun c hat _ => ?_
  rw [h2.look hat, h2.has k]
  exact hK

theorem due_put (hg : o.guard = none) (m x v : Operand) (hop : o.op = Op.mapUpdate 66 m x v) (h : Due w b ts) (hl : ts.length < 1000000) {k y : Int} (hk : I64 k) (hy : I64 y) (hm : a.eval m = .map (some b)) (hx : a.eval x = .int .i64 k) (hv : a.eval v = .int .i64 y)
    (hK : ∀ w', Due w' b ((k, y) :: without ts k) → Touch b w w' → wpList Try.prog ops Q rest (a.put o.dst undef) w') : wpList Try.prog ops Q (o :: rest) a w := by
  obtain ⟨D, h1, h2⟩ := h
  refine wpList_mapUpdate_own w hg m x v 66 hop 3 3 keyedI Try.underlying66 _ b _ D hm h1 (by unfold maxLen; omega) _ _ _ hx hv (keyOf_int_mk Try.underlying3 hk) _ [] (plainElem_int Try.underlying3 hy) fun w' hown hgr => ?_
  have ht := h2.put (h1.tidy keyedI) k y
  exact hK w' ⟨_, ownsMap_tight hown ht.size, ht⟩ ⟨hgr.os, hgr.tape, hgr.output, hgr.size, fun j hj hne => hgr.block j hj (by simpa using hne)⟩

theorem due_del (hg : o.guard = none) (m x : Operand) (hop : o.op = Op.call { callee := Callee.builtin Builtin.delete, args := #[m, x], argTypes := #[66, 3] }) (h : Due w b ts) {k : Int} (hk : I64 k) (hm : a.eval m = .map (some b)) (hx : a.eval x = .int .i64 k)
    (hK : ∀ w', Due w' b (without ts k) → Touch b w w' → wpList Try.prog ops Q rest (a.put o.dst (.tuple #[])) w') : wpList Try.prog ops Q (o :: rest) a w := by
  obtain ⟨D, h1, h2⟩ := h
  refine wpList_delete_own w hg m x 66 3 hop 3 keyedI Try.underlying66 _ b _ D hm h1 _ _ hx (keyOf_int_mk Try.underlying3 hk) fun w' hown hgr => ?_
  have ht := h2.del (h1.tidy keyedI) k
  have hg2 := hgr.grown
  exact hK w' ⟨_, ownsMap_tight hown ht.size, ht⟩ ⟨hg2.os, hg2.tape, hg2.output, hg2.size, fun j hj hne => hg2.block j hj (by simpa using hne)⟩

theorem due_len (hg : o.guard = none) (m : Operand) (hop : o.op = Op.call { callee := Callee.builtin Builtin.len, args := #[m], argTypes := #[66] }) (h : Due w b ts) (hm : a.eval m = .map (some b))
    (hK : wpList Try.prog ops Q rest (a.put o.dst (.int .i64 ts.length)) w) : wpList Try.prog ops Q (o :: rest) a w := by
  obtain ⟨D, h1, h2⟩ := h
  refine wpList_len_own w hg m 66 hop 3 3 Try.underlying66 _ b _ D hm h1 ?_
  rw [h2.size]
  exact hK

theorem Due.run_len (h : Due w b ts) (ty : TypeId) : (Builtin.len_ #[66] ty #[.map (some b)]).run Try.prog w = .ok (.int .i64 ts.length) w := by
  obtain ⟨D, h1, h2⟩ := h
  rw [← h2.size]
  exact h1.len Try.underlying66 ty
end
end Go.Proofs.Ytgdhdeadbmeejaa
