/-
  What the wheels' pass does, turn by turn and tick by tick, as lists.
-/
import Derived.Test.YtgdhdeadbmeejaaWheelBegin
namespace Go.Proofs.Ytgdhdeadbmeejaa
open Go.Sort
set_option linter.unusedVariables false

/-- Where every timer stands ahead of a turn. -/
def Ready (rows : Nat → List (Int × Int)) (us : List (Int × Int)) (tn : Int) : Prop := ∀ t ∈ us, tn ≤ t.2 / 32 ∧ ((t.2 / 32 = tn ∧ t ∈ rows (t.2 % 32).toNat) ∨ t ∈ rows (32 + ((t.2 / 32) % 32).toNat))

/-- Where every timer stands in a turn that has begun. -/
def Ready2 (rows : Nat → List (Int × Int)) (us : List (Int × Int)) (tn : Int) : Prop := ∀ t ∈ us, tn ≤ t.2 / 32 ∧ (t.2 / 32 = tn → t ∈ rows (t.2 % 32).toNat) ∧ (t.2 / 32 ≠ tn → t ∈ rows (32 + ((t.2 / 32) % 32).toNat))

theorem Placed.ready {now : Int} {rows : Nat → List (Int × Int)} {ts : List (Int × Int)} (h : Placed now rows ts) (ha : ∀ t ∈ ts, now < t.2) : Ready rows ts (now / 32) := by
  intro t ht
  have h1 := h t ht
  have h2 := ha t ht
  refine ⟨by omega, ?_⟩
  unfold slotOf at h1
  split at h1
  · exact .inl ⟨by assumption, h1⟩
  · exact .inr h1

theorem Ready.begun {rows rows' : Nat → List (Int × Int)} {us : List (Int × Int)} {tn : Int} (h : Ready rows us tn) (hb : Begun rows rows' tn (32 + (tn % 32).toNat)) (h0 : ∀ t ∈ us, 0 ≤ t.2) : Ready2 rows' us tn := by
  intro t ht
  obtain ⟨h1, h2⟩ := h t ht
  have ht0 := h0 t ht
  refine ⟨h1, fun he => ?_, fun he => ?_⟩
  · rcases h2 with ⟨_, h3⟩ | h3
    · exact hb.keep _ (by omega) (by omega) t h3
    · rw [he] at h3
      exact hb.moved t h3 he
  · rcases h2 with ⟨h3, _⟩ | h3
    · exact absurd h3 he
    · by_cases e : 32 + ((t.2 / 32) % 32).toNat = 32 + (tn % 32).toNat
      · rw [e] at h3 ⊢
        exact hb.stay t h3 he
      · exact hb.keep _ (by omega) e t h3

theorem Ready2.off {rows : Nat → List (Int × Int)} {us : List (Int × Int)} {tn tick : Int} (h : Ready2 rows us tn) (ht : tick / 32 = tn) (h0 : ∀ t ∈ us, 0 ≤ t.2) (ht0 : 0 ≤ tick) : Ready2 (upd rows (tick % 32).toNat []) (notAt us tick) tn := by
  intro t hm
  obtain ⟨h1, h2⟩ := List.mem_filter.1 hm
  have hne : t.2 ≠ tick := by simpa using h2
  obtain ⟨h3, h4, h5⟩ := h t h1
  have ht1 := h0 t h1
  refine ⟨h3, fun he => ?_, fun he => ?_⟩
  · rw [upd_other _ _ (by omega)]
    exact h4 he
  · rw [upd_other _ _ (by omega)]
    exact h5 he

theorem notAt_stay (ts : List (Int × Int)) (tick : Int) : notAt (stay ts (tick - 1)) tick = stay ts tick := by
  unfold notAt stay
  rw [List.filter_filter]
  apply List.filter_congr
  intro t _
  by_cases h : tick < t.2
  · have h1 : tick - 1 < t.2 := by omega
    have h2 : t.2 ≠ tick := by omega
    simp [h, h1, h2]
  · by_cases h2 : t.2 = tick
    · simp [h2]
    · have h1 : ¬ tick - 1 < t.2 := by omega
      simp [h, h1]

theorem idsAt_stay (ts : List (Int × Int)) (tick : Int) : idsAt (stay ts (tick - 1)) tick = idsAt ts tick := by
  unfold idsAt stay
  rw [List.filter_filter]
  congr 1
  apply List.filter_congr
  intro t _
  by_cases h : t.2 = tick
  · simp [h]
    omega
  · simp [h]

theorem filter_split : ∀ {ts : List (Int × Int)}, ts.Pairwise aheadT → ∀ tick : Int, (ts.filter fun t => decide (t.2 ≤ tick)) = (ts.filter fun t => decide (t.2 ≤ tick - 1)) ++ ts.filter fun t => decide (t.2 = tick)
  | [], _, _ => rfl
  | a :: r, h, tick => by
    obtain ⟨h1, h2⟩ := List.pairwise_cons.1 h
    have ih := filter_split h2 tick
    by_cases e1 : a.2 ≤ tick - 1
    · have e2 : a.2 ≤ tick := by omega
      have e3 : a.2 ≠ tick := by omega
      simp only [List.filter_cons, e1, e2, e3, decide_true, decide_false, if_true, List.cons_append]
      rw [ih]
      simp
    · have hnil : (r.filter fun t => decide (t.2 ≤ tick - 1)) = [] := by
        rw [List.filter_eq_nil_iff]
        intro t ht
        have := h1 t ht
        unfold aheadT at this
        simp
        omega
      rw [hnil] at ih
      by_cases e2 : a.2 = tick
      · simp only [List.filter_cons, e2, decide_true, if_true]
        rw [hnil]
        simp [ih]
        omega
      · have e3 : ¬ a.2 ≤ tick := by omega
        simp only [List.filter_cons, e1, e2, e3, decide_false]
        rw [hnil]
        simp [ih]

theorem gone_next' {ts : List (Int × Int)} (h : ts.Pairwise aheadT) (tick : Int) : gone ts tick = gone ts (tick - 1) ++ idsAt ts tick := by
  unfold gone idsAt
  rw [filter_split h tick, List.map_append]

theorem stay_same {ts : List (Int × Int)} {a b : Int} (hab : a ≤ b) (h : ∀ t ∈ ts, a < t.2 → b < t.2) : stay ts a = stay ts b := by
  unfold stay
  apply List.filter_congr
  intro t ht
  by_cases e : a < t.2
  · simp [e, h t ht e]
  · have : ¬ b < t.2 := by omega
    simp [e, this]

theorem gone_same {ts : List (Int × Int)} {a b : Int} (hab : a ≤ b) (h : ∀ t ∈ ts, a < t.2 → b < t.2) : gone ts a = gone ts b := by
  unfold gone
  congr 1
  apply List.filter_congr
  intro t ht
  by_cases e : a < t.2
  · have e1 : ¬ t.2 ≤ a := by omega
    have e2 : ¬ t.2 ≤ b := by have := h t ht e; omega
    simp [e1, e2]
  · have e1 : t.2 ≤ a := by omega
    have e2 : t.2 ≤ b := by omega
    simp [e1, e2]

/-- The first tick of a turn that is gone through. -/
def firstOf (now tn : Int) : Int := max (tn * 32) (now + 1)

/-- The last one. -/
def lastOf (e tn : Int) : Int := min ((tn + 1) * 32 - 1) e

/-- What holds at the loop's head. -/
structure Head (now e : Int) (ts : List (Int × Int)) (tn : Int) (us : List (Int × Int)) (rows : Nat → List (Int × Int)) (off : List Int) : Prop where
  low : now / 32 ≤ tn
  runs : tn ≤ e / 32 → Ready rows us tn ∧ us = stay ts (firstOf now tn - 1) ∧ off = gone ts (firstOf now tn - 1)
  ends : ¬ tn ≤ e / 32 → Placed e rows us ∧ us = stay ts e ∧ off = gone ts e

theorem stay_all {ts : List (Int × Int)} {a : Int} (h : ∀ t ∈ ts, a < t.2) : stay ts a = ts := by
  unfold stay
  rw [List.filter_eq_self]
  intro t ht
  simpa using h t ht

theorem gone_none {ts : List (Int × Int)} {a : Int} (h : ∀ t ∈ ts, a < t.2) : gone ts a = [] := by
  unfold gone
  have : (ts.filter fun t => decide (t.2 ≤ a)) = [] := by
    rw [List.filter_eq_nil_iff]
    intro t ht
    have := h t ht
    simp
    omega
  rw [this]
  rfl

theorem Head.start {now e : Int} {ts : List (Int × Int)} {rows : Nat → List (Int × Int)} (hP : Placed now rows ts) (ha : ∀ t ∈ ts, now < t.2) (hn : now ≤ e) : Head now e ts (now / 32) ts rows [] := by
  refine ⟨Int.le_refl _, fun _ => ?_, fun h => by omega⟩
  have hf : firstOf now (now / 32) - 1 = now := by unfold firstOf; omega
  rw [hf]
  exact ⟨hP.ready ha, (stay_all ha).symm, (gone_none ha).symm⟩

/-- Behind a turn that was gone through. -/
theorem Head.next {now e : Int} {ts : List (Int × Int)} {tn next : Int} {us : List (Int × Int)} {rows : Nat → List (Int × Int)} {off : List Int} (hlow : now / 32 ≤ tn) (hte : tn ≤ e / 32) (hne : now ≤ e) (hR : Ready2 rows us tn) (hu : us = stay ts (lastOf e tn)) (ho : off = gone ts (lastOf e tn)) (hN : NextTurn us tn next) (h0 : ∀ t ∈ ts, now < t.2) (hnow : 0 ≤ now) : Head now e ts next us rows off := by
  have habove := hN.above
  have hmem : ∀ t ∈ ts, lastOf e tn < t.2 → t ∈ us := fun t ht h => by rw [hu]; exact mem_stay.2 ⟨ht, h⟩
  have husmem : ∀ t ∈ us, t ∈ ts ∧ lastOf e tn < t.2 := fun t ht => by rw [hu] at ht; exact mem_stay.1 ht
  refine ⟨by omega, fun h => ?_, fun h => ?_⟩
  · have hlast : lastOf e tn = (tn + 1) * 32 - 1 := by unfold lastOf; omega
    have hfirst : firstOf now next - 1 = next * 32 - 1 := by unfold firstOf; omega
    have hgap : ∀ t ∈ ts, lastOf e tn < t.2 → next * 32 - 1 < t.2 := fun t ht h1 => by
      have := hN.none t (hmem t ht h1) (by omega)
      omega
    rw [hfirst]
    refine ⟨fun t ht => ?_, hu.trans (stay_same (by omega) hgap), ho.trans (gone_same (by omega) hgap)⟩
    obtain ⟨h1, h2⟩ := husmem t ht
    have h3 := hN.none t ht (by omega)
    obtain ⟨_, _, h4⟩ := hR t ht
    exact ⟨h3, .inr (h4 (by omega))⟩
  · have hgap : ∀ t ∈ ts, lastOf e tn < t.2 → e < t.2 := fun t ht h1 => by
      by_cases hl : lastOf e tn = e
      · omega
      · have hl2 : lastOf e tn = (tn + 1) * 32 - 1 := by unfold lastOf at *; omega
        have := hN.none t (hmem t ht h1) (by omega)
        omega
    refine ⟨fun t ht => ?_, hu.trans (stay_same (by unfold lastOf; omega) hgap), ho.trans (gone_same (by unfold lastOf; omega) hgap)⟩
    obtain ⟨h1, h2⟩ := husmem t ht
    have h3 := hgap t h1 h2
    obtain ⟨h4, h5, h6⟩ := hR t ht
    unfold slotOf
    by_cases he : t.2 / 32 = e / 32
    · rw [if_pos he]
      refine h5 ?_
      by_cases h7 : t.2 / 32 = tn
      · exact h7
      · have := hN.none t ht (by omega)
        omega
    · rw [if_neg he]
      exact h6 (by omega)
end Go.Proofs.Ytgdhdeadbmeejaa
