/-
  What InPut does, on spans and bytes: which bytes are covered, how spans are joined, how many bytes come new.
-/
import Derived.Test.YtmgaikpninblgaaSpn
import Derived.Test.YtmgaikpninblgaaByt
import Derived.Test.YtmgaikpninblgaaBytF
namespace Go.Proofs.Ytmgaikpninblgaa
open Go.ChangeShapes Go.WideShapes Go.ChangeAt Go.RowKit Go.Deep
set_option linter.unusedVariables false

/-- Whether byte i lies in a span. -/
def inS (s : Int × Int) (i : Nat) : Bool := decide (s.1 ≤ (i : Int) ∧ (i : Int) < s.2)

/-- Whether one of the spans covers byte i. -/
def cov : List (Int × Int) → Nat → Bool
  | [], _ => false
  | s :: r, i => inS s i || cov r i

theorem inS_iff (s : Int × Int) (i : Nat) : inS s i = true ↔ s.1 ≤ (i : Int) ∧ (i : Int) < s.2 := by simp [inS]

theorem cov_low : ∀ (l : List (Int × Int)) (e W : Int) (i : Nat), okB e W l = true → cov l i = true → e < (i : Int) ∧ (i : Int) < W
  | [], e, W, i, h, hc => by simp [cov] at hc
  | s :: r, e, W, i, h, hc => by
    simp only [okB, Bool.and_eq_true, decide_eq_true_eq] at h
    simp only [cov, Bool.or_eq_true, inS_iff] at hc
    rcases hc with hc | hc
    · omega
    · have := cov_low r s.2 W i h.2 hc
      omega

/-- The list with s put in: those that it meets or touches become one with it. -/
def joinR : List (Int × Int) → Int × Int → List (Int × Int)
  | [], s => [s]
  | o :: r, s => if o.2 < s.1 then o :: joinR r s else if s.2 < o.1 then s :: joinR r o else joinR r (min s.1 o.1, max s.2 o.2)

theorem joinR_ok : ∀ (l : List (Int × Int)) (s : Int × Int) (e0 e W : Int), okB e W l = true → e0 < s.1 → e0 ≤ e → s.1 < s.2 → s.2 ≤ W → okB e0 W (joinR l s) = true
  | [], s, e0, e, W, _, h1, _, h3, h4 => by
    simp only [joinR, okB, Bool.and_true, decide_eq_true_eq]
    omega
  | o :: r, s, e0, e, W, h, h1, h2, h3, h4 => by
    simp only [okB, Bool.and_eq_true, decide_eq_true_eq] at h
    obtain ⟨⟨k1, k2, k3⟩, k4⟩ := h
    unfold joinR
    by_cases c1 : o.2 < s.1
    · rw [if_pos c1]
      simp only [okB, Bool.and_eq_true, decide_eq_true_eq]
      exact ⟨by omega, joinR_ok r s o.2 o.2 W k4 c1 (by omega) h3 h4⟩
    · rw [if_neg c1]
      by_cases c2 : s.2 < o.1
      · rw [if_pos c2]
        simp only [okB, Bool.and_eq_true, decide_eq_true_eq]
        exact ⟨by omega, joinR_ok r o s.2 o.2 W k4 c2 (by omega) k2 k3⟩
      · rw [if_neg c2]
        exact joinR_ok r _ e0 o.2 W k4 (by simp only; omega) (by omega) (by simp only; omega) (by simp only; omega)

theorem joinR_cov (i : Nat) : ∀ (l : List (Int × Int)) (s : Int × Int) (e W : Int), okB e W l = true → s.1 < s.2 → cov (joinR l s) i = (cov l i || inS s i)
  | [], s, e, W, _, _ => by simp [joinR, cov]
  | o :: r, s, e, W, h, hs => by
    simp only [okB, Bool.and_eq_true, decide_eq_true_eq] at h
    obtain ⟨⟨k1, k2, k3⟩, k4⟩ := h
    unfold joinR
    by_cases c1 : o.2 < s.1
    · rw [if_pos c1]
      simp only [cov, joinR_cov i r s o.2 W k4 hs, Bool.or_assoc]
    · rw [if_neg c1]
      by_cases c2 : s.2 < o.1
      · rw [if_pos c2]
        simp only [cov, joinR_cov i r o o.2 W k4 k2]
        cases inS s i <;> cases inS o i <;> cases cov r i <;> rfl
      · rw [if_neg c2, joinR_cov i r _ o.2 W k4 (by simp only; omega)]
        have e1 : inS (min s.1 o.1, max s.2 o.2) i = (inS o i || inS s i) := by
          rw [Bool.eq_iff_iff]
          simp only [inS_iff, Bool.or_eq_true]
          omega
        rw [e1]
        simp only [cov]
        cases inS s i <;> cases inS o i <;> cases cov r i <;> rfl

theorem joinR_len : ∀ (l : List (Int × Int)) (s : Int × Int), (joinR l s).length ≤ l.length + 1
  | [], s => by simp [joinR]
  | o :: r, s => by
    unfold joinR
    split
    · have := joinR_len r s
      simp
      omega
    · split
      · have := joinR_len r o
        simp
        omega
      · have := joinR_len r (min s.1 o.1, max s.2 o.2)
        simp
        omega

/-- How many of the first n numbers p holds of. -/
def cnt (p : Nat → Bool) : Nat → Nat
  | 0 => 0
  | n + 1 => cnt p n + (p n).toNat

theorem cnt_congr (p q : Nat → Bool) : ∀ n, (∀ i, i < n → p i = q i) → cnt p n = cnt q n
  | 0, _ => rfl
  | n + 1, h => by rw [cnt, cnt, cnt_congr p q n (fun i hi => h i (by omega)), h n (by omega)]

theorem cnt_or (p q : Nat → Bool) : ∀ n, cnt (fun i => p i || q i) n = cnt p n + cnt (fun i => !p i && q i) n
  | 0 => rfl
  | n + 1 => by
    simp only [cnt, cnt_or p q n]
    generalize cnt p n = x
    generalize cnt (fun i => !p i && q i) n = y
    generalize p n = u
    generalize q n = v
    cases u <;> cases v <;> simp [Bool.toNat] <;> omega

theorem cnt_none (n : Nat) : cnt (fun _ => false) n = 0 := by
  induction n with
  | zero => rfl
  | succ n ih => simp [cnt, ih]

theorem cnt_le (p : Nat → Bool) : ∀ n, cnt p n ≤ n
  | 0 => Nat.le_refl _
  | n + 1 => by
    have := cnt_le p n
    unfold cnt
    cases p n <;> simp [Bool.toNat] <;> omega

theorem cnt_between (a b : Int) (h0 : 0 ≤ a) (hab : a ≤ b) : ∀ n : Nat, (cnt (inS (a, b)) n : Int) = min (max ((n : Int) - a) 0) (b - a)
  | 0 => by simp [cnt]; omega
  | n + 1 => by
    have ih := cnt_between a b h0 hab n
    simp only [cnt, Int.natCast_add, ih]
    cases h : inS (a, b) n
    · have h' : ¬ (a ≤ (n : Int) ∧ (n : Int) < b) := fun hh => by rw [(inS_iff (a, b) n).2 hh] at h; cases h
      simp [Bool.toNat]
      omega
    · have h' := (inS_iff (a, b) n).1 h
      simp [Bool.toNat]
      simp only at h'
      omega

theorem sumS_cnt : ∀ (l : List (Int × Int)) (e : Int) (W : Nat), okB e W l = true → -1 ≤ e → sumS l = (cnt (cov l) W : Int)
  | [], e, W, _, _ => by
    have : cnt (cov []) W = 0 := (cnt_congr (cov []) (fun _ => false) W (fun i _ => rfl)).trans (cnt_none W)
    simp [sumS, this]
  | s :: r, e, W, h, he => by
    have h' := h
    simp only [okB, Bool.and_eq_true, decide_eq_true_eq] at h
    obtain ⟨⟨k1, k2, k3⟩, k4⟩ := h
    have ih := sumS_cnt r s.2 W k4 (by omega)
    have e1 : cnt (cov (s :: r)) W = cnt (inS s) W + cnt (fun i => !inS s i && cov r i) W := by
      rw [← cnt_or]
      rfl
    have e2 : cnt (fun i => !inS s i && cov r i) W = cnt (cov r) W := by
      apply cnt_congr
      intro i _
      cases hc : cov r i
      · simp
      · have := cov_low r s.2 W i k4 hc
        have : inS s i = false := by simp [inS]; omega
        simp [this]
    have e3 := cnt_between s.1 s.2 (by omega) (by omega) W
    rw [sumS, ih, e1, e2]
    have : (cnt (inS s) W : Int) = s.2 - s.1 := by
      rw [show inS s = inS (s.1, s.2) from rfl, e3]
      omega
    omega

/-- f with the bytes of the parts laid over it. -/
def lay (q : Int) : List (Int × ByteArray) → (Nat → Int) → Nat → Int
  | [], f => f
  | p :: r, f => lay q r (over f (distI q p.1).toNat p.2.size (byteAt p.2))

theorem lay_snoc (q : Int) : ∀ (ps : List (Int × ByteArray)) (p : Int × ByteArray) (f : Nat → Int), lay q (ps ++ [p]) f = over (lay q ps f) (distI q p.1).toNat p.2.size (byteAt p.2)
  | [], p, f => rfl
  | o :: r, p, f => by
    show lay q (r ++ [p]) _ = _
    rw [lay_snoc q r p]
    rfl

theorem over_or (f : Nat → Int) (off k : Nat) (g : Nat → Int) (i : Nat) : over f off k g i = if off ≤ i ∧ i < off + k then g (i - off) else f i := rfl

theorem lay_out (q : Int) (i : Nat) : ∀ (ps : List (Int × ByteArray)) (f : Nat → Int) (e W : Int), okB e W (spans q ps) = true → -1 ≤ e → cov (spans q ps) i = false → lay q ps f i = f i
  | [], f, e, W, _, _, _ => rfl
  | p :: r, f, e, W, h, he, hc => by
    simp only [spans, List.map_cons, okB, Bool.and_eq_true, decide_eq_true_eq] at h
    simp only [spans, List.map_cons, cov, Bool.or_eq_false_iff] at hc
    show lay q r _ i = _
    rw [lay_out q i r _ (spn q p).2 W h.2 (by omega) hc.2, over_or, if_neg]
    intro hh
    have : inS (spn q p) i = true := by
      rw [inS_iff]
      unfold spn at h ⊢
      simp only at h ⊢
      omega
    rw [this] at hc
    cases hc.1

theorem lay_in (q : Int) (i : Nat) : ∀ (ps : List (Int × ByteArray)) (f g : Nat → Int) (e W : Int), okB e W (spans q ps) = true → -1 ≤ e → cov (spans q ps) i = true → lay q ps f i = lay q ps g i ∧ 0 ≤ lay q ps f i ∧ lay q ps f i < 256
  | [], f, g, e, W, _, _, hc => by simp [spans, cov] at hc
  | p :: r, f, g, e, W, h, he, hc => by
    simp only [spans, List.map_cons, okB, Bool.and_eq_true, decide_eq_true_eq] at h
    have h2 : okB (spn q p).2 W (spans q r) = true := h.2
    show lay q r _ i = lay q r _ i ∧ 0 ≤ lay q r _ i ∧ lay q r _ i < 256
    by_cases hr : cov (spans q r) i = true
    · exact lay_in q i r _ _ (spn q p).2 W h2 (by omega) hr
    · have hr' : cov (spans q r) i = false := by simpa using hr
      have hs : inS (spn q p) i = true := by
        simp only [spans, List.map_cons, cov, Bool.or_eq_true] at hc
        rcases hc with hc | hc
        · exact hc
        · exact absurd hc hr
      rw [inS_iff] at hs
      rw [lay_out q i r _ (spn q p).2 W h2 (by omega) hr', lay_out q i r _ (spn q p).2 W h2 (by omega) hr', over_or, over_or]
      unfold spn at hs h
      simp only at hs h
      rw [if_pos (by omega), if_pos (by omega)]
      exact ⟨rfl, byteAt_range _ _⟩

/-- A part's own bytes lie where it says. -/
theorem lay_part (q : Int) : ∀ (ps : List (Int × ByteArray)) (f : Nat → Int) (e W : Int), okB e W (spans q ps) = true → -1 ≤ e → ∀ p ∈ ps, ∀ i, i < p.2.size → lay q ps f ((distI q p.1).toNat + i) = byteAt p.2 i
  | [], f, e, W, _, _, p, hp, i, hi => by cases hp
  | o :: r, f, e, W, h, he, p, hp, i, hi => by
    simp only [spans, List.map_cons, okB, Bool.and_eq_true, decide_eq_true_eq] at h
    have h2 : okB (spn q o).2 W (spans q r) = true := h.2
    show lay q r _ _ = _
    rcases List.mem_cons.1 hp with rfl | hp
    · have hr : cov (spans q r) ((distI q p.1).toNat + i) = false := by
        cases hc : cov (spans q r) ((distI q p.1).toNat + i)
        · rfl
        · have := cov_low _ _ W _ h2 hc
          unfold spn at this h
          simp only at this h
          omega
      rw [lay_out q _ r _ (spn q p).2 W h2 (by omega) hr, over_or, if_pos (by omega)]
      congr 1
      omega
    · exact lay_part q r _ (spn q o).2 W h2 (by omega) p hp i hi

theorem okB_at : ∀ (l : List (Int × Int)) (e W : Int) (k : Nat), okB e W l = true → k < l.length → e < (sAt l k).1 ∧ (sAt l k).1 < (sAt l k).2 ∧ (sAt l k).2 ≤ W
  | [], e, W, k, h, hk => by simp at hk
  | s :: r, e, W, 0, h, hk => by
    simp only [okB, Bool.and_eq_true, decide_eq_true_eq] at h
    simpa [sAt] using h.1
  | s :: r, e, W, k + 1, h, hk => by
    simp only [okB, Bool.and_eq_true, decide_eq_true_eq] at h
    have := okB_at r s.2 W k h.2 (by simpa using hk)
    have e1 : sAt (s :: r) (k + 1) = sAt r k := by simp [sAt, List.getD]
    rw [e1]
    omega
end Go.Proofs.Ytmgaikpninblgaa
