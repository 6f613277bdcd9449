/-
  Facts on clocks for FnClock: ticks in two parts; a timer goes off once.
-/
import Derived.Test.YtgdhdeadbmeejaaTimPure
import Derived.Test.YtgdhdeadbmeejaaTimNext
namespace Go.Proofs.Ytgdhdeadbmeejaa
open Go.Sort
set_option linter.unusedVariables false

theorem stay_stay (ts : List (Int × Int)) {a b : Int} (h : a ≤ b) : stay (stay ts a) b = stay ts b := by
  unfold stay
  rw [List.filter_filter]
  congr 1
  funext t
  by_cases hb : b < t.2
  · have : a < t.2 := by omega
    simp [hb, this]
  · simp [hb]

theorem gone_split : ∀ {ts : List (Int × Int)}, ts.Pairwise aheadT → ∀ {a b : Int}, a ≤ b → gone ts b = gone ts a ++ gone (stay ts a) b
  | [], _, a, b, _ => rfl
  | t :: r, h, a, b, hab => by
    obtain ⟨h1, h2⟩ := List.pairwise_cons.1 h
    have ih := gone_split h2 hab
    unfold gone stay at *
    by_cases ht : t.2 ≤ a
    · have hb : t.2 ≤ b := by omega
      have hn : ¬ a < t.2 := by omega
      simp only [List.filter_cons, ht, hb, hn, decide_true, decide_false, if_true, List.map_cons, List.cons_append]
      rw [ih]
      simp
    · have hn : a < t.2 := by omega
      have e : r.filter (fun t => decide (t.2 ≤ a)) = [] := by
        rw [List.filter_eq_nil_iff]
        intro x hx
        have := h1 x hx
        unfold aheadT at this
        simp only [decide_eq_true_eq]
        omega
      have e2 : r.filter (fun t => decide (a < t.2)) = r := by
        rw [List.filter_eq_self]
        intro x hx
        have := h1 x hx
        unfold aheadT at this
        simp only [decide_eq_true_eq]
        omega
      simp [List.filter_cons, ht, hn, e, e2]

/-- Ticks at once. -/
theorem go_once {now : Int} {ts : List (Int × Int)} (h : okC now ts) {n : Int} (h0 : 0 ≤ n) (h1 : n ≤ 1000) (hm : now ≤ 999995000) : goC now ts n = (now + n, stay ts (now + n), gone ts (now + n)) := by
  unfold goC goTo
  rw [if_pos ⟨h, h0, by omega⟩, if_pos (by omega)]

theorem go_ok {now : Int} {ts : List (Int × Int)} (h : okC now ts) {n : Int} (h0 : 0 ≤ n) (h1 : n ≤ 1000) (hm : now ≤ 999995000) : okC (now + n) (stay ts (now + n)) := by
  have := okC_go (ticks := n) h
  rw [go_once h h0 h1 hm] at this
  exact this

/-- .. and in two parts. -/
theorem go_twice {now : Int} {ts : List (Int × Int)} (h : okC now ts) {n k : Int} (h0 : 0 ≤ k) (hk : k ≤ n) (h1 : n ≤ 1000) (hm : now ≤ 999995000) : goC (now + k) (stay ts (now + k)) (n - k) = (now + n, stay ts (now + n), gone (stay ts (now + k)) (now + n)) := by
  have hok := go_ok h h0 (by omega) hm
  unfold goC goTo
  rw [if_pos ⟨hok, by omega, by omega⟩, if_pos (by omega), show now + k + (n - k) = now + n by omega, stay_stay ts (by omega)]

/-- The timer of its own. -/
theorem set_ok {now : Int} {ts : List (Int × Int)} (h : okC now ts) {wait : Int} (h0 : 1 ≤ wait) (h1 : wait ≤ 1000) (hm : now ≤ 999995000) : ((setC now ts 777777 wait).2 = false ∧ 100 ≤ ts.length) ∨ ((setC now ts 777777 wait).2 = true ∧ (777777, now + wait) ∈ (setC now ts 777777 wait).1) := by
  unfold setC
  by_cases hl : (without ts 777777).length < 100
  · right
    rw [if_pos ⟨h, by omega, by omega, by omega, hl⟩]
    exact ⟨rfl, mem_insT.2 (.inl rfl)⟩
  · left
    rw [if_neg (fun hh => hl hh.2.2.2.2)]
    have : (without ts 777777).length ≤ ts.length := List.length_filter_le _ _
    exact ⟨rfl, by omega⟩

theorem once_at {ts : List (Int × Int)} (h : (ts.map Prod.fst).Nodup) {x y z : Int} (h1 : (x, y) ∈ ts) (h2 : (x, z) ∈ ts) : y = z := by
  induction ts with
  | nil => cases h1
  | cons t r ih =>
    rw [List.map_cons, List.nodup_cons] at h
    rcases List.mem_cons.1 h1 with e1 | e1 <;> rcases List.mem_cons.1 h2 with e2 | e2
    · rw [← e1] at e2
      exact (Prod.mk.inj e2).2.symm
    · exact absurd (List.mem_map.2 ⟨_, e2, by rw [← e1]⟩) h.1
    · exact absurd (List.mem_map.2 ⟨_, e1, by rw [← e2]⟩) h.1
    · exact ih h.2 e1 e2

theorem gone_mem {ts : List (Int × Int)} {e x : Int} : x ∈ gone ts e ↔ ∃ y, (x, y) ∈ ts ∧ y ≤ e := by
  unfold gone
  simp only [List.mem_map, List.mem_filter, decide_eq_true_eq]
  constructor
  · rintro ⟨t, ⟨h1, h2⟩, rfl⟩
    exact ⟨t.2, h1, h2⟩
  · rintro ⟨y, h1, h2⟩
    exact ⟨(x, y), ⟨h1, h2⟩, rfl⟩

theorem early_not {now wait : Int} {us : List (Int × Int)} (h : okC now us) (hm : (777777, now + wait) ∈ us) : 777777 ∉ gone us (now + (wait - 1)) := by
  intro hg
  obtain ⟨y, h1, h2⟩ := gone_mem.1 hg
  have := once_at h.2.2.2.2 hm h1
  omega

theorem then_gone {now wait : Int} {us : List (Int × Int)} (hm : (777777, now + wait) ∈ us) : 777777 ∈ gone (stay us (now + (wait - 1))) (now + wait) := gone_mem.2 ⟨now + wait, mem_stay.2 ⟨hm, by simp only; omega⟩, Int.le_refl _⟩

theorem stop_gone {now wait : Int} {us : List (Int × Int)} (h : okC now us) (hm : (777777, now + wait) ∈ us) : (stopC now us 777777).2 = true ∧ (stopC now us 777777).1.length + 1 = us.length := by
  have hi : 777777 ∈ idsOf us := List.mem_map.2 ⟨_, hm, rfl⟩
  unfold stopC
  rw [if_pos ⟨h, hi⟩]
  have := length_without h.2.2.2.2 777777
  rw [if_pos hi] at this
  exact ⟨rfl, by simp only; omega⟩

theorem next_in {now wait : Int} {us : List (Int × Int)} (h : okC now us) (hm : (777777, now + wait) ∈ us) : 1 ≤ nextC now us ∧ nextC now us ≤ wait := by
  have hne : us.length ≠ 0 := by
    intro e
    rw [List.eq_nil_of_length_eq_zero e] at hm
    cases hm
  unfold nextC
  rw [if_pos ⟨h, hne⟩]
  have h1 := okC_all h 0 (by omega)
  unfold okT at h1
  have h2 : (tAt us 0).2 ≤ now + wait := by
    match us, hne, h.2.2.2.1, hm with
    | t :: r, _, hr, hm =>
      obtain ⟨a1, _⟩ := List.pairwise_cons.1 hr
      show t.2 ≤ now + wait
      rcases List.mem_cons.1 hm with e | e
      · rw [← e]; simp
      · have := a1 _ e
        unfold aheadT at this
        simp only at this
        omega
  omega
end Go.Proofs.Ytgdhdeadbmeejaa
