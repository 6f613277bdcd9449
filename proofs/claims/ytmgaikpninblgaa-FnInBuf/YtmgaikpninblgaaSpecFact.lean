/-
  Facts for spec's InPut: the bytes step by step, the first run, and the runs behind it.
-/
import Derived.Test.YtmgaikpninblgaaCellsS
namespace Go.Proofs.Ytmgaikpninblgaa
open Go.ChangeShapes Go.WideShapes Go.ChangeAt Go.RowKit Go.Deep
set_option linter.unusedVariables false

/-- The bytes behind the first k of the piece. -/
def stepF (c0 : Nat → Int) (at' : Int) (s : ByteArray) (k : Nat) (i : Nat) : Int := if 0 ≤ c0 i then c0 i else if at' ≤ (i : Int) ∧ (i : Int) < at' + k then byteAt s ((i : Int) - at').toNat else -1

/-- Which of them are new. -/
def newP (c0 : Nat → Int) (at' : Int) (k : Nat) (i : Nat) : Bool := decide (c0 i < 0) && decide (at' ≤ (i : Int) ∧ (i : Int) < at' + k)

theorem stepF_zero (c0 : Nat → Int) (at' : Int) (s : ByteArray) (i : Nat) (h : c0 i = -1 ∨ 0 ≤ c0 i) : stepF c0 at' s 0 i = c0 i := by
  unfold stepF
  split
  · rfl
  · rw [if_neg (by omega)]
    omega

theorem stepF_new (c0 : Nat → Int) (at' : Int) (s : ByteArray) (k m : Nat) (hm : (m : Int) = at' + k) (h : c0 m < 0) : (fun i => if i = m then byteAt s k else stepF c0 at' s k i) = stepF c0 at' s (k + 1) := by
  funext i
  unfold stepF
  by_cases e : i = m
  · subst e
    rw [if_pos rfl, if_neg (by omega), if_pos (by omega)]
    congr 1
    omega
  · rw [if_neg e]
    by_cases h0 : 0 ≤ c0 i
    · rw [if_pos h0, if_pos h0]
    · rw [if_neg h0, if_neg h0]
      by_cases h1 : at' ≤ (i : Int) ∧ (i : Int) < at' + (k : Int)
      · rw [if_pos h1, if_pos (by omega)]
      · rw [if_neg h1, if_neg (by omega)]

theorem stepF_same (c0 : Nat → Int) (at' : Int) (s : ByteArray) (k i : Nat) (h : (i : Int) ≠ at' + k ∨ 0 ≤ c0 i) : stepF c0 at' s (k + 1) i = stepF c0 at' s k i := by
  unfold stepF
  by_cases h0 : 0 ≤ c0 i
  · rw [if_pos h0, if_pos h0]
  · rw [if_neg h0, if_neg h0]
    by_cases h1 : at' ≤ (i : Int) ∧ (i : Int) < at' + (k : Int)
    · rw [if_pos (by omega), if_pos h1]
    · rw [if_neg (by omega), if_neg h1]

theorem stepF_at (c0 : Nat → Int) (at' : Int) (s : ByteArray) (k m : Nat) (hm : (m : Int) = at' + k) (h : c0 m = -1 ∨ 0 ≤ c0 m) : stepF c0 at' s k m = c0 m := by
  unfold stepF
  split
  · rfl
  · rw [if_neg (by omega)]
    omega

theorem newP_new (c0 : Nat → Int) (at' : Int) (k m W : Nat) (hm : (m : Int) = at' + k) (hW : m < W) (h : c0 m < 0) : (cnt (newP c0 at' (k + 1)) W : Int) = cnt (newP c0 at' k) W + 1 := by
  have e : cnt (newP c0 at' (k + 1)) W = cnt (fun i => newP c0 at' k i || inS ((m : Int), (m : Int) + 1) i) W := by
    apply cnt_congr
    intro i _
    rw [Bool.eq_iff_iff]
    simp only [newP, Bool.and_eq_true, Bool.or_eq_true, decide_eq_true_eq, inS_iff]
    constructor
    · intro hh
      by_cases e : i = m
      · right
        omega
      · left
        refine ⟨hh.1, ?_⟩
        omega
    · rintro (hh | hh)
      · exact ⟨hh.1, by omega⟩
      · obtain rfl : i = m := by omega
        exact ⟨h, by omega⟩
  rw [e, cnt_or]
  have e2 : cnt (fun i => !newP c0 at' k i && inS ((m : Int), (m : Int) + 1) i) W = cnt (inS ((m : Int), (m : Int) + 1)) W := by
    apply cnt_congr
    intro i _
    cases hc : inS ((m : Int), (m : Int) + 1) i
    · simp
    · have hh := (inS_iff _ _).1 hc
      simp only at hh
      have : newP c0 at' k i = false := by
        simp only [newP, Bool.and_eq_false_iff, decide_eq_false_iff_not]
        right
        omega
      simp [this]
  have e3 := cnt_between (m : Int) ((m : Int) + 1) (by omega) (by omega) W
  rw [e2]
  omega

theorem newP_same (c0 : Nat → Int) (at' : Int) (k W : Nat) (h : ∀ i, i < W → (i : Int) = at' + k → 0 ≤ c0 i) : cnt (newP c0 at' (k + 1)) W = cnt (newP c0 at' k) W := by
  apply cnt_congr
  intro i hi
  rw [Bool.eq_iff_iff]
  simp only [newP, Bool.and_eq_true, decide_eq_true_eq]
  have := h i hi
  omega

theorem newP_none (c0 : Nat → Int) (at' : Int) (W : Nat) : cnt (newP c0 at' 0) W = 0 := by
  rw [cnt_congr _ (fun _ => false) W (fun i _ => ?_), cnt_none]
  simp only [newP, Bool.and_eq_false_iff, decide_eq_false_iff_not]
  right
  omega

theorem lay_none (q : Int) (ps : List (Int × ByteArray)) (W : Int) (h : okB 0 W (spans q ps) = true) (i : Nat) : (cov (spans q ps) i = decide (0 ≤ lay q ps (fun _ => -1) i)) ∧ (lay q ps (fun _ => -1) i = -1 ∨ 0 ≤ lay q ps (fun _ => -1) i) ∧ lay q ps (fun _ => -1) i < 256 := by
  cases hc : cov (spans q ps) i
  · rw [lay_out q i ps _ 0 W h (by omega) hc]
    simp
  · have := lay_in q i ps (fun _ => -1) (fun _ => -1) 0 W h (by omega) hc
    refine ⟨?_, .inr this.2.1, this.2.2⟩
    simp
    omega

theorem stepF_pF (q : Int) (ps : List (Int × ByteArray)) (at' : Int) (s : ByteArray) (W : Int) (h : okB 0 W (spans q ps) = true) (i : Nat) : stepF (lay q ps (fun _ => -1)) at' s s.size i = pF q ps at' s i := by
  unfold stepF pF
  cases hc : cov (spans q ps) i
  · rw [lay_out q i ps _ 0 W h (by omega) hc, lay_out q i ps _ 0 W h (by omega) hc, if_neg (by omega)]
    rfl
  · have h1 := lay_in q i ps (fun _ => -1) (base at' s) 0 W h (by omega) hc
    rw [if_pos h1.2.1, h1.1]

theorem pF_small (q : Int) (ps : List (Int × ByteArray)) (at' : Int) (s : ByteArray) (W : Int) (h : okB 0 W (spans q ps) = true) (i : Nat) : pF q ps at' s i < 256 := by
  unfold pF
  cases hc : cov (spans q ps) i
  · rw [lay_out q i ps _ 0 W h (by omega) hc]
    unfold base
    split
    · exact (byteAt_range _ _).2
    · omega
  · exact (lay_in q i ps (base at' s) (base at' s) 0 W h (by omega) hc).2.2

theorem newP_pM (q : Int) (ps : List (Int × ByteArray)) (at' : Int) (s : ByteArray) (W : Nat) (h : okB 0 W (spans q ps) = true) : (cnt (newP (lay q ps (fun _ => -1)) at' s.size) W : Int) = sumS (pJ q ps at' s W) - sumS (spans q ps) := by
  rw [pM_cnt q ps at' s W h]
  congr 1
  apply cnt_congr
  intro i hi
  have hl := (lay_none q ps W h i).1
  rw [hl, Bool.eq_iff_iff]
  simp only [newP, Bool.and_eq_true, Bool.not_eq_true', decide_eq_true_eq, decide_eq_false_iff_not, came_in]
  omega

/-- How far the first run reaches. -/
def nst : List (Int × Int) → Nat
  | [] => 0
  | s :: _ => if s.1 = 0 then s.2.toNat else 0

/-- The runs behind it. -/
def rst : List (Int × Int) → List (Int × Int)
  | [] => []
  | s :: r => if s.1 = 0 then r else s :: r

theorem rst_ok (J : List (Int × Int)) (W : Nat) (h : okB (-1) W J = true) : okB (nst J) W (rst J) = true ∧ nst J ≤ W := by
  cases J with
  | nil => exact ⟨rfl, Nat.zero_le _⟩
  | cons s r =>
    have h' := h
    simp only [okB, Bool.and_eq_true, decide_eq_true_eq] at h
    simp only [nst, rst]
    split
    · rw [Int.toNat_of_nonneg (by omega)]
      exact ⟨h.2, by omega⟩
    · refine ⟨?_, Nat.zero_le _⟩
      simp only [okB, Bool.and_eq_true, decide_eq_true_eq]
      exact ⟨by omega, h.2⟩

theorem rst_cov (J : List (Int × Int)) (W : Nat) (h : okB (-1) W J = true) (i : Nat) : cov J i = (decide (i < nst J) || cov (rst J) i) := by
  cases J with
  | nil => rfl
  | cons s r =>
    simp only [okB, Bool.and_eq_true, decide_eq_true_eq] at h
    simp only [nst, rst]
    split
    · rename_i h0
      simp only [cov]
      congr 1
      simp only [inS]
      rw [Bool.eq_iff_iff]
      simp only [decide_eq_true_eq]
      omega
    · simp [cov]

theorem gQ_nst (q : Int) (hq : IsWord q) (J : List (Int × Int)) (W : Nat) (h : okB (-1) W J = true) : gQ q J = (q + (nst J : Int)) % 4294967296 := by
  obtain ⟨h1, h2⟩ := hq
  cases J with
  | nil =>
    simp only [gQ, nst]
    omega
  | cons s r =>
    simp only [okB, Bool.and_eq_true, decide_eq_true_eq] at h
    simp only [gQ, nst]
    split
    · rw [Int.toNat_of_nonneg (by omega)]
    · simp
      omega

theorem gD_nst (d : ByteArray) (f : Nat → Int) (J : List (Int × Int)) : gD d f J = d ++ textOf f (nst J) := by
  have e : textOf f 0 = ByteArray.empty := rfl
  cases J with
  | nil => simp only [gD, nst, e]; simp
  | cons s r =>
    simp only [gD, nst]
    split
    · rename_i h0
      rw [h0]
      simp
    · rw [e]
      simp

theorem gL_map (q : Int) (f : Nat → Int) : ∀ (l : List (Int × Int)) (e W : Int), okB e W l = true → 0 ≤ e → gL q f l = l.map (prtOf q f)
  | [], _, _, _, _ => rfl
  | s :: r, e, W, h, he => by
    simp only [okB, Bool.and_eq_true, decide_eq_true_eq] at h
    simp only [gL, List.map_cons]
    rw [if_neg (by omega), gL_map q f r s.2 W h.2 (by omega)]

theorem gL_rst (q : Int) (f : Nat → Int) (J : List (Int × Int)) (W : Nat) (h : okB (-1) W J = true) : gL q f J = (rst J).map (prtOf q f) := by
  have hr := rst_ok J W h
  cases J with
  | nil => rfl
  | cons s r =>
    simp only [gL]
    by_cases h0 : s.1 = 0
    · rw [if_pos h0]
      simp only [rst, if_pos h0] at hr ⊢
      exact gL_map q f r _ W hr.1 (by omega)
    · rw [if_neg h0]
      simp only [rst, if_neg h0] at hr ⊢
      have := gL_map q f (s :: r) _ W hr.1 (by omega)
      simp only [gL, if_neg h0] at this
      exact this

theorem okB_split : ∀ (l : List (Int × Int)) (s : Int × Int) (t : List (Int × Int)) (e W : Int), okB e W (l ++ s :: t) = true → (∀ x ∈ l, x.2 < s.1) ∧ (∀ x ∈ t, s.2 < x.1) ∧ s.1 < s.2 ∧ s.2 ≤ W ∧ e < s.1
  | [], s, t, e, W, h => by
    simp only [List.nil_append, okB, Bool.and_eq_true, decide_eq_true_eq] at h
    refine ⟨fun x hx => (by cases hx), fun x hx => (okB_mem t s.2 W h.2 x hx).1, ?_⟩
    omega
  | o :: l, s, t, e, W, h => by
    simp only [List.cons_append, okB, Bool.and_eq_true, decide_eq_true_eq] at h
    obtain ⟨h1, h2, h3, h4, h5⟩ := okB_split l s t o.2 W h.2
    refine ⟨fun x hx => ?_, h2, h3, h4, by omega⟩
    rcases List.mem_cons.1 hx with rfl | hx
    · exact h5
    · exact h1 x hx

theorem cov_iff : ∀ (l : List (Int × Int)) (i : Nat), cov l i = true ↔ ∃ s ∈ l, s.1 ≤ (i : Int) ∧ (i : Int) < s.2
  | [], i => by simp [cov]
  | s :: r, i => by
    simp only [cov, Bool.or_eq_true, inS_iff, cov_iff r i]
    constructor
    · rintro (h | ⟨x, hx, h⟩)
      · exact ⟨s, List.mem_cons_self, h⟩
      · exact ⟨x, List.mem_cons_of_mem _ hx, h⟩
    · rintro ⟨x, hx, h⟩
      rcases List.mem_cons.1 hx with rfl | hx
      · exact .inl h
      · exact .inr ⟨x, hx, h⟩

/-- Where the scan stands at i: behind 'done', ahead of 'todo', with rl bytes of the run that it is in. -/
structure Scan (R : List (Int × Int)) (W i rl : Nat) (done todo : List (Int × Int)) : Prop where
  split : R = done ++ todo
  behind : ∀ x ∈ done, x.2 < (i : Int)
  ahead : (rl = 0 ∧ ∀ s t, todo = s :: t → (i : Int) ≤ s.1) ∨ (0 < rl ∧ ∃ s t, todo = s :: t ∧ s.1 < (i : Int) ∧ (i : Int) ≤ s.2 ∧ (rl : Int) = (i : Int) - s.1)

theorem Scan.hit {R : List (Int × Int)} {W i rl n : Nat} {done todo : List (Int × Int)} (h : Scan R W i rl done todo) (hR : okB n W R = true) (hc : cov R i = true) : Scan R W (i + 1) (rl + 1) done todo ∧ ∃ s t, todo = s :: t ∧ (s.1 + (rl : Int) = i) ∧ 0 ≤ s.1 := by
  obtain ⟨x, hx, hx1, hx2⟩ := (cov_iff R i).1 hc
  have hs := h.split
  rw [hs] at hx
  have hxt : x ∈ todo := by
    rcases List.mem_append.1 hx with hx | hx
    · have := h.behind x hx
      omega
    · exact hx
  cases todo with
  | nil => cases hxt
  | cons s t =>
    rw [hs] at hR
    obtain ⟨k1, k2, k3, k4, k5⟩ := okB_split done s t n W hR
    have hxs : x = s := by
      rcases List.mem_cons.1 hxt with rfl | hxt
      · rfl
      · have := k2 x hxt
        rcases h.ahead with ⟨_, ha⟩ | ⟨_, s', t', he, h1, h2, h3⟩
        · have := ha s t rfl
          omega
        · injection he with he1 he2
          subst he1
          omega
    subst hxs
    rcases h.ahead with ⟨hr, ha⟩ | ⟨hr, s', t', he, h1, h2, h3⟩
    · have := ha x t rfl
      exact ⟨⟨hs, fun y hy => by have := h.behind y hy; omega, .inr ⟨by omega, x, t, rfl, by omega, by omega, by omega⟩⟩, x, t, rfl, by omega, by omega⟩
    · injection he with he1 he2
      subst he1
      exact ⟨⟨hs, fun y hy => by have := h.behind y hy; omega, .inr ⟨by omega, x, t, rfl, by omega, by omega, by omega⟩⟩, x, t, rfl, by omega, by omega⟩

theorem Scan.miss0 {R : List (Int × Int)} {W i n : Nat} {done todo : List (Int × Int)} (h : Scan R W i 0 done todo) (hR : okB n W R = true) (hc : cov R i = false) : Scan R W (i + 1) 0 done todo := by
  refine ⟨h.split, fun y hy => by have := h.behind y hy; omega, .inl ⟨rfl, fun s t he => ?_⟩⟩
  rcases h.ahead with ⟨_, ha⟩ | ⟨hr, _⟩
  · have h1 := ha s t he
    have hs := h.split
    subst he
    rw [hs] at hR
    obtain ⟨k1, k2, k3, k4, k5⟩ := okB_split done s t n W hR
    by_cases e : (i : Int) = s.1
    · have : cov R i = true := (cov_iff R i).2 ⟨s, by rw [hs]; simp, by omega, by omega⟩
      rw [this] at hc
      cases hc
    · omega
  · omega

theorem Scan.miss {R : List (Int × Int)} {W i rl n : Nat} {done todo : List (Int × Int)} (h : Scan R W i rl done todo) (hR : okB n W R = true) (hc : cov R i = false) (hrl : 0 < rl) : ∃ s t, todo = s :: t ∧ s.2 = (i : Int) ∧ s.1 = (i : Int) - rl ∧ 0 ≤ s.1 ∧ Scan R W (i + 1) 0 (done ++ [s]) t := by
  rcases h.ahead with ⟨hr, _⟩ | ⟨hr, s, t, he, h1, h2, h3⟩
  · omega
  · have hs := h.split
    subst he
    have hR' := hR
    rw [hs] at hR
    obtain ⟨k1, k2, k3, k4, k5⟩ := okB_split done s t n W hR
    have h4 : s.2 = (i : Int) := by
      by_cases e : (i : Int) < s.2
      · have : cov R i = true := (cov_iff R i).2 ⟨s, by rw [hs]; simp, by omega, by omega⟩
        rw [this] at hc
        cases hc
      · omega
    refine ⟨s, t, rfl, h4, by omega, by omega, by rw [hs]; simp, fun y hy => ?_, .inl ⟨rfl, fun s' t' he' => ?_⟩⟩
    · rcases List.mem_append.1 hy with hy | hy
      · have := h.behind y hy
        omega
      · rw [List.mem_singleton.1 hy]
        omega
    · have := k2 s' (by rw [he']; simp)
      omega

theorem Scan.over {R : List (Int × Int)} {W i rl n : Nat} {done todo : List (Int × Int)} (h : Scan R W i rl done todo) (hR : okB n W R = true) (hi : W < i) : todo = [] := by
  cases todo with
  | nil => rfl
  | cons s t =>
    have hs := h.split
    rw [hs] at hR
    obtain ⟨k1, k2, k3, k4, k5⟩ := okB_split done s t n W hR
    rcases h.ahead with ⟨hr, ha⟩ | ⟨hr, s', t', he, h1, h2, h3⟩
    · have := ha s t rfl
      omega
    · injection he with he1 he2
      subst he1
      omega
end Go.Proofs.Ytmgaikpninblgaa
