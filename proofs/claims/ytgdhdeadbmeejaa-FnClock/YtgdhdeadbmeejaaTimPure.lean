/-
  Clocks as lists of timers: what is set, stopped and gone off; one rising list of the same timers.
-/
import Derived.Test.YtgdhdeadbmeejaaTimOkI
namespace Go.Proofs.Ytgdhdeadbmeejaa
open Go.Sort
set_option linter.unusedVariables false

/-- A timer put ahead of the first one that it stands ahead of. -/
def insT (t : Int × Int) : List (Int × Int) → List (Int × Int)
  | [] => [t]
  | x :: r => if aheadT t x then t :: x :: r else x :: insT t r

theorem insT_perm (t : Int × Int) : ∀ ts, (insT t ts).Perm (t :: ts)
  | [] => List.Perm.refl _
  | x :: r => by
    unfold insT
    split
    · exact List.Perm.refl _
    · exact ((insT_perm t r).cons x).trans (List.Perm.swap t x r)

theorem mem_insT {t x : Int × Int} {ts : List (Int × Int)} : x ∈ insT t ts ↔ x = t ∨ x ∈ ts := by rw [(insT_perm t ts).mem_iff, List.mem_cons]

theorem ahead_or {x y : Int × Int} (h : x.1 ≠ y.1) : aheadT x y ∨ aheadT y x := by unfold aheadT; omega

theorem insT_rising {t : Int × Int} : ∀ {ts : List (Int × Int)}, ts.Pairwise aheadT → (∀ x ∈ ts, x.1 ≠ t.1) → (insT t ts).Pairwise aheadT
  | [], _, _ => by simp [insT]
  | x :: r, h, hne => by
    obtain ⟨h1, h2⟩ := List.pairwise_cons.1 h
    unfold insT
    split
    · rename_i ha
      exact List.pairwise_cons.2 ⟨fun y hy => by
        rcases List.mem_cons.1 hy with e | e
        · rw [e]; exact ha
        · exact aheadT_trans ha (h1 y e), h⟩
    · rename_i ha
      refine List.pairwise_cons.2 ⟨fun y hy => ?_, insT_rising h2 (fun y hy => hne y (by simp [hy]))⟩
      rcases mem_insT.1 hy with e | e
      · subst e
        exact (ahead_or (hne x (by simp))).resolve_right ha
      · exact h1 y e

theorem aheadT_irrefl (x : Int × Int) : ¬ aheadT x x := by unfold aheadT; omega

theorem aheadT_asymm {x y : Int × Int} (h : aheadT x y) : ¬ aheadT y x := by unfold aheadT at *; omega

/-- Two rising lists of the same timers are one. -/
theorem rising_unique : ∀ {l₁ l₂ : List (Int × Int)}, l₁.Pairwise aheadT → l₂.Pairwise aheadT → (∀ x, x ∈ l₁ ↔ x ∈ l₂) → l₁ = l₂
  | [], [], _, _, _ => rfl
  | [], y :: r, _, _, h => by have := (h y).2 (by simp); cases this
  | x :: r, [], _, _, h => by have := (h x).1 (by simp); cases this
  | x :: r, y :: q, h1, h2, h => by
    obtain ⟨a1, a2⟩ := List.pairwise_cons.1 h1
    obtain ⟨b1, b2⟩ := List.pairwise_cons.1 h2
    have e : x = y := by
      rcases List.mem_cons.1 ((h x).1 (by simp)) with e | e
      · exact e
      · rcases List.mem_cons.1 ((h y).2 (by simp)) with e' | e'
        · exact e'.symm
        · exact absurd (a1 y e') (aheadT_asymm (b1 x e))
    subst e
    refine congrArg _ (rising_unique a2 b2 fun z => ?_)
    constructor
    · intro hz
      rcases List.mem_cons.1 ((h z).1 (by simp [hz])) with e | e
      · subst e; exact absurd (a1 z hz) (aheadT_irrefl z)
      · exact e
    · intro hz
      rcases List.mem_cons.1 ((h z).2 (by simp [hz])) with e | e
      · subst e; exact absurd (b1 z hz) (aheadT_irrefl z)
      · exact e

theorem rising_nodup {ts : List (Int × Int)} (h : ts.Pairwise aheadT) : ts.Nodup := h.imp fun hab e => by subst e; exact aheadT_irrefl _ hab

/-- What the sort leaves of the timers in whatever order. -/
theorem sorted_is {us ts : List (Int × Int)} (h : ts.Pairwise aheadT) (p : us.Perm ts) : (us.mergeSort fun x y => !(Go.Proofs.ltOf cmpT) y x) = ts := by
  have hp : (us.mergeSort fun x y => !(Go.Proofs.ltOf cmpT) y x).Perm us := List.mergeSort_perm _ _
  have hs : (us.mergeSort fun x y => !(Go.Proofs.ltOf cmpT) y x).Pairwise (fun x y => (!(Go.Proofs.ltOf cmpT) y x) = true) := by
    apply List.pairwise_mergeSort
    · intro a b c h1 h2
      simp only [Bool.not_eq_true', ltT_f] at *
      unfold aheadT at *
      omega
    · intro a b
      simp only [Bool.or_eq_true, Bool.not_eq_true', ltT_f]
      unfold aheadT
      omega
  generalize (us.mergeSort fun x y => !(Go.Proofs.ltOf cmpT) y x) = l at hp hs
  have hl := hp.trans p
  have hnd : l.Nodup := hl.nodup_iff.2 (rising_nodup h)
  refine rising_unique ?_ h (fun x => hl.mem_iff)
  refine (hs.and hnd).imp ?_
  rintro x y ⟨h1, h2⟩
  simp only [Bool.not_eq_true', ltT_f] at h1
  have : x.1 ≠ y.1 ∨ x.2 ≠ y.2 := by
    by_cases e : x.1 = y.1
    · exact .inr fun e' => h2 (Prod.ext e e')
    · exact .inl e
  unfold aheadT at *
  omega

theorem without_rising {ts : List (Int × Int)} (h : ts.Pairwise aheadT) (x : Int) : (without ts x).Pairwise aheadT := List.Pairwise.sublist List.filter_sublist h

/-- ClockSet. -/
def setC (now : Int) (ts : List (Int × Int)) (id wait : Int) : List (Int × Int) × Bool :=
  if okC now ts ∧ (0 ≤ id ∧ id ≤ 1000000000) ∧ (1 ≤ wait ∧ wait ≤ 1000000000) ∧ now + wait ≤ 1000000000 ∧ (without ts id).length < 100 then (insT (id, now + wait) (without ts id), true) else (ts, false)

/-- ClockStop. -/
def stopC (now : Int) (ts : List (Int × Int)) (id : Int) : List (Int × Int) × Bool :=
  if okC now ts ∧ id ∈ idsOf ts then (without ts id, true) else (ts, false)

/-- The time then. -/
def goTo (now ticks : Int) : Int := if now + ticks ≤ 1000000000 then now + ticks else 1000000000

/-- Those that stay. -/
def stay (ts : List (Int × Int)) (e : Int) : List (Int × Int) := ts.filter fun t => decide (e < t.2)

/-- The Ids of those that have gone off. -/
def gone (ts : List (Int × Int)) (e : Int) : List Int := (ts.filter fun t => decide (t.2 ≤ e)).map Prod.fst

/-- ClockGo. -/
def goC (now : Int) (ts : List (Int × Int)) (ticks : Int) : Int × List (Int × Int) × List Int :=
  if okC now ts ∧ 0 ≤ ticks ∧ ticks ≤ 1000000000 then (goTo now ticks, stay ts (goTo now ticks), gone ts (goTo now ticks)) else (now, ts, [])

theorem okC_set {now : Int} {ts : List (Int × Int)} {id wait : Int} (h : okC now ts) : okC now (setC now ts id wait).1 := by
  unfold setC
  split
  · rename_i hc
    obtain ⟨⟨h0, hl, ha, hr, hn⟩, hid, hw, hnw, hlen⟩ := hc
    have hp := insT_perm (id, now + wait) (without ts id)
    refine ⟨h0, by rw [hp.length_eq]; simp; omega, fun t ht => ?_, insT_rising (without_rising hr id) (fun x hx => (mem_without.1 hx).2), ?_⟩
    · rcases mem_insT.1 ht with e | e
      · subst e
        unfold okT
        simp only
        omega
      · exact ha t (mem_without.1 e).1
    · rw [(hp.map _).nodup_iff, List.map_cons, List.nodup_cons]
      exact ⟨fun e => (ids_without.1 e).2 rfl, once_without hn id⟩
  · exact h

theorem okC_stop {now : Int} {ts : List (Int × Int)} {id : Int} (h : okC now ts) : okC now (stopC now ts id).1 := by
  unfold stopC
  split
  · obtain ⟨h0, hl, ha, hr, hn⟩ := h
    refine ⟨h0, Nat.le_trans (List.length_filter_le _ _) hl, fun t ht => ha t (mem_without.1 ht).1, without_rising hr id, once_without hn id⟩
  · exact h

theorem stay_rising {ts : List (Int × Int)} (h : ts.Pairwise aheadT) (e : Int) : (stay ts e).Pairwise aheadT := List.Pairwise.sublist List.filter_sublist h

theorem mem_stay {ts : List (Int × Int)} {e : Int} {t : Int × Int} : t ∈ stay ts e ↔ t ∈ ts ∧ e < t.2 := by simp [stay]

theorem once_stay {ts : List (Int × Int)} (h : (idsOf ts).Nodup) (e : Int) : (idsOf (stay ts e)).Nodup := by
  unfold idsOf stay at *
  exact List.Pairwise.sublist (List.Sublist.map _ List.filter_sublist) h

theorem goTo_range {now ticks : Int} (h : 0 ≤ now ∧ now ≤ 1000000000) (ht : 0 ≤ ticks) : now ≤ goTo now ticks ∧ goTo now ticks ≤ 1000000000 := by
  unfold goTo
  split <;> omega

theorem okC_go {now : Int} {ts : List (Int × Int)} {ticks : Int} (h : okC now ts) : okC (goC now ts ticks).1 (goC now ts ticks).2.1 := by
  unfold goC
  split
  · rename_i hc
    obtain ⟨_, ht, _⟩ := hc
    obtain ⟨h0, hl, ha, hr, hn⟩ := h
    have hg := goTo_range h0 ht
    refine ⟨⟨by omega, hg.2⟩, Nat.le_trans (List.length_filter_le _ _) hl, fun t hm => ?_, stay_rising hr _, once_stay hn _⟩
    have h1 := mem_stay.1 hm
    have h2 := ha t h1.1
    unfold okT at *
    omega
  · exact h

theorem stop_len {ts : List (Int × Int)} (h : (idsOf ts).Nodup) (id : Int) : (without ts id).length = ts.length ↔ id ∉ idsOf ts := by
  have := length_without h id
  by_cases e : id ∈ idsOf ts
  · rw [if_pos e] at this
    simp [e]
    omega
  · rw [if_neg e] at this
    simp [e]
    omega
end Go.Proofs.Ytgdhdeadbmeejaa
