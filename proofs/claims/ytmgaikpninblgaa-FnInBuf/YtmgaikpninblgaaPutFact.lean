/-
  What InPut answers, and that it is the same told by the spans that were joined and told by the bytes that are covered.
-/
import Derived.Test.YtmgaikpninblgaaGath
namespace Go.Proofs.Ytmgaikpninblgaa
open Go.ChangeShapes Go.WideShapes Go.ChangeAt Go.RowKit Go.Deep
set_option linter.unusedVariables false

/-- Whether InPut takes the piece at all. -/
def putOk (q : Int) (d : ByteArray) (r : Int) (ps : List (Int × ByteArray)) (at' : Int) (s : ByteArray) : Prop := inOk q d r ps = true ∧ s.size ≤ 536 ∧ -99999 ≤ at' ∧ at' ≤ 4095

instance (q : Int) (d : ByteArray) (r : Int) (ps : List (Int × ByteArray)) (at' : Int) (s : ByteArray) : Decidable (putOk q d r ps at' s) := by unfold putOk; infer_instance

/-- What of the piece lies in the window. -/
def came (at' : Int) (s : ByteArray) (W : Int) : Int × Int := (max at' 0, min (at' + s.size) W)

/-- The spans then. -/
def pJ (q : Int) (ps : List (Int × ByteArray)) (at' : Int) (s : ByteArray) (W : Int) : List (Int × Int) := if (came at' s W).1 < (came at' s W).2 then joinR (spans q ps) (came at' s W) else spans q ps

/-- The piece's bytes where it lies, else -1. -/
def base (at' : Int) (s : ByteArray) (i : Nat) : Int := if at' ≤ (i : Int) ∧ (i : Int) < at' + s.size then byteAt s ((i : Int) - at').toNat else -1

/-- The bytes then. -/
def pF (q : Int) (ps : List (Int × ByteArray)) (at' : Int) (s : ByteArray) : Nat → Int := lay q ps (base at' s)

def pQ (q : Int) (d : ByteArray) (r : Int) (ps : List (Int × ByteArray)) (at' : Int) (s : ByteArray) : Int := if putOk q d r ps at' s then gQ q (pJ q ps at' s (r - d.size)) else q

def pD (q : Int) (d : ByteArray) (r : Int) (ps : List (Int × ByteArray)) (at' : Int) (s : ByteArray) : ByteArray := if putOk q d r ps at' s then gD d (pF q ps at' s) (pJ q ps at' s (r - d.size)) else d

def pL (q : Int) (d : ByteArray) (r : Int) (ps : List (Int × ByteArray)) (at' : Int) (s : ByteArray) : List (Int × ByteArray) := if putOk q d r ps at' s then gL q (pF q ps at' s) (pJ q ps at' s (r - d.size)) else ps

def pM (q : Int) (d : ByteArray) (r : Int) (ps : List (Int × ByteArray)) (at' : Int) (s : ByteArray) : Int := if putOk q d r ps at' s then sumS (pJ q ps at' s (r - d.size)) - sumS (spans q ps) else 0

theorem okB_lower : ∀ (l : List (Int × Int)) (e e' W : Int), okB e W l = true → e' ≤ e → okB e' W l = true
  | [], e, e', W, h, _ => rfl
  | s :: r, e, e', W, h, he => by
    simp only [okB, Bool.and_eq_true, decide_eq_true_eq] at h ⊢
    exact ⟨by omega, h.2⟩

theorem pJ_ok (q : Int) (ps : List (Int × ByteArray)) (at' : Int) (s : ByteArray) (W : Int) (h : okB 0 W (spans q ps) = true) : okB (-1) W (pJ q ps at' s W) = true := by
  unfold pJ
  split
  · rename_i hc
    exact joinR_ok _ _ (-1) 0 W h (by unfold came; simp only; omega) (by omega) hc (by unfold came; simp only; omega)
  · exact okB_lower _ 0 (-1) W h (by omega)

theorem pJ_cov (q : Int) (ps : List (Int × ByteArray)) (at' : Int) (s : ByteArray) (W : Int) (h : okB 0 W (spans q ps) = true) (i : Nat) : cov (pJ q ps at' s W) i = (cov (spans q ps) i || inS (came at' s W) i) := by
  unfold pJ
  split
  · rename_i hc
    exact joinR_cov i _ _ 0 W h hc
  · rename_i hc
    have : inS (came at' s W) i = false := by
      cases hh : inS (came at' s W) i
      · rfl
      · rw [inS_iff] at hh
        omega
    rw [this, Bool.or_false]

theorem came_in (at' : Int) (s : ByteArray) (W : Int) (i : Nat) : inS (came at' s W) i = true ↔ (at' ≤ (i : Int) ∧ (i : Int) < at' + s.size) ∧ (i : Int) < W := by
  rw [inS_iff]
  unfold came
  simp only
  omega

/-- A byte is covered then just when it is there. -/
theorem pF_cov (q : Int) (ps : List (Int × ByteArray)) (at' : Int) (s : ByteArray) (W : Int) (h : okB 0 W (spans q ps) = true) (i : Nat) (hi : (i : Int) < W) : cov (pJ q ps at' s W) i = decide (0 ≤ pF q ps at' s i) := by
  rw [pJ_cov q ps at' s W h i]
  unfold pF
  cases hc : cov (spans q ps) i
  · rw [lay_out q i ps _ 0 W h (by omega) hc, Bool.false_or]
    unfold base
    by_cases hb : at' ≤ (i : Int) ∧ (i : Int) < at' + s.size
    · rw [if_pos hb, (came_in at' s W i).2 ⟨hb, hi⟩]
      have := byteAt_range s ((i : Int) - at').toNat
      simp
      omega
    · rw [if_neg hb]
      have : inS (came at' s W) i = false := by
        cases hh : inS (came at' s W) i
        · rfl
        · exact absurd ((came_in at' s W i).1 hh).1 hb
      rw [this]
      rfl
  · have := lay_in q i ps (base at' s) (base at' s) 0 W h (by omega) hc
    rw [Bool.true_or]
    simp
    omega

theorem mem_cov : ∀ (l : List (Int × Int)) (s : Int × Int) (i : Nat), s ∈ l → inS s i = true → cov l i = true
  | o :: r, s, i, h, hi => by
    simp only [cov, Bool.or_eq_true]
    rcases List.mem_cons.1 h with rfl | h
    · exact .inl hi
    · exact .inr (mem_cov r s i h hi)

theorem okB_mem : ∀ (l : List (Int × Int)) (e W : Int), okB e W l = true → ∀ s ∈ l, e < s.1 ∧ s.1 < s.2 ∧ s.2 ≤ W
  | o :: r, e, W, h, s, hs => by
    simp only [okB, Bool.and_eq_true, decide_eq_true_eq] at h
    rcases List.mem_cons.1 hs with rfl | hs
    · exact h.1
    · have := okB_mem r o.2 W h.2 s hs
      omega

theorem prtOf_congr (q : Int) (F F' : Nat → Int) (l : List (Int × Int)) (e W : Int) (h : okB e W l = true) (he : -1 ≤ e) (hF : ∀ i, cov l i = true → F i = F' i) (s : Int × Int) (hs : s ∈ l) : textOf (fun i => F (s.1.toNat + i)) (s.2 - s.1).toNat = textOf (fun i => F' (s.1.toNat + i)) (s.2 - s.1).toNat := by
  have hk := okB_mem l e W h s hs
  apply textOf_ext
  intro i hi
  refine hF _ (mem_cov l s _ hs ?_)
  rw [inS_iff]
  omega

theorem gD_congr (d : ByteArray) (q : Int) (F F' : Nat → Int) (l : List (Int × Int)) (e W : Int) (h : okB e W l = true) (he : -1 ≤ e) (hF : ∀ i, cov l i = true → F i = F' i) : gD d F l = gD d F' l := by
  cases l with
  | nil => rfl
  | cons s r =>
    simp only [gD]
    rw [prtOf_congr q F F' (s :: r) e W h he hF s List.mem_cons_self]

theorem gL_congr (q : Int) (F F' : Nat → Int) : ∀ (l : List (Int × Int)) (e W : Int), okB e W l = true → -1 ≤ e → (∀ i, cov l i = true → F i = F' i) → gL q F l = gL q F' l
  | [], e, W, _, _, _ => rfl
  | s :: r, e, W, h, he, hF => by
    have h' := h
    simp only [okB, Bool.and_eq_true, decide_eq_true_eq] at h
    have ih := gL_congr q F F' r s.2 W h.2 (by omega) (fun i hi => hF i (by simp [cov, hi]))
    simp only [gL, ih]
    have : prtOf q F s = prtOf q F' s := by
      unfold prtOf
      rw [prtOf_congr q F F' (s :: r) e W h' he hF s List.mem_cons_self]
    rw [this]

/-- Nothing new: the parts are as they were. -/
theorem gL_self (q : Int) (F : Nat → Int) (hq : IsWord q) : ∀ (ps : List (Int × ByteArray)) (e W : Int), okB e W (spans q ps) = true → 0 ≤ e → (∀ p ∈ ps, IsWord p.1 ∧ ∀ i, i < p.2.size → F ((distI q p.1).toNat + i) = byteAt p.2 i) → gL q F (spans q ps) = ps
  | [], e, W, _, _, _ => rfl
  | p :: r, e, W, h, he, hF => by
    simp only [spans, List.map_cons, okB, Bool.and_eq_true, decide_eq_true_eq] at h
    have h2 : okB (spn q p).2 W (spans q r) = true := h.2
    have ih := gL_self q F hq r (spn q p).2 W h2 (by omega) (fun x hx => hF x (List.mem_cons_of_mem _ hx))
    obtain ⟨hw, hb⟩ := hF p List.mem_cons_self
    have hne : ¬ (spn q p).1 = 0 := by omega
    show gL q F (spn q p :: spans q r) = _
    simp only [gL, if_neg hne, ih]
    congr 1
    unfold prtOf spn
    simp only
    obtain ⟨p1, p2⟩ := p
    simp only at *
    refine Prod.ext ?_ ?_
    · show (q + distI q p1) % 4294967296 = p1
      obtain ⟨k1, k2, k3⟩ := distI_is q p1
      obtain ⟨w1, w2⟩ := hw
      obtain ⟨q1, q2⟩ := hq
      omega
    · show textOf _ (distI q p1 + (p2.size : Int) - distI q p1).toNat = p2
      rw [show (distI q p1 + (p2.size : Int) - distI q p1).toNat = p2.size by omega]
      exact textOf_is _ _ _ rfl fun i hi => hb i hi

theorem gQ_self (q : Int) (ps : List (Int × ByteArray)) (W : Int) (h : okB 0 W (spans q ps) = true) : gQ q (spans q ps) = q := by
  cases ps with
  | nil => rfl
  | cons p r =>
    simp only [spans, List.map_cons, okB, Bool.and_eq_true, decide_eq_true_eq] at h
    simp only [spans, List.map_cons, gQ]
    rw [if_neg (by omega)]

theorem gD_self (q : Int) (d : ByteArray) (F : Nat → Int) (ps : List (Int × ByteArray)) (W : Int) (h : okB 0 W (spans q ps) = true) : gD d F (spans q ps) = d := by
  cases ps with
  | nil => rfl
  | cons p r =>
    simp only [spans, List.map_cons, okB, Bool.and_eq_true, decide_eq_true_eq] at h
    simp only [spans, List.map_cons, gD]
    rw [if_neg (by omega)]

/-- How many bytes come new. -/
theorem pM_cnt (q : Int) (ps : List (Int × ByteArray)) (at' : Int) (s : ByteArray) (W : Nat) (h : okB 0 W (spans q ps) = true) : sumS (pJ q ps at' s W) - sumS (spans q ps) = (cnt (fun i => !cov (spans q ps) i && inS (came at' s W) i) W : Int) := by
  rw [sumS_cnt _ (-1) W (pJ_ok q ps at' s W h) (by omega), sumS_cnt _ 0 W h (by omega)]
  have e1 : cnt (cov (pJ q ps at' s W)) W = cnt (fun i => cov (spans q ps) i || inS (came at' s W) i) W := cnt_congr _ _ W fun i _ => pJ_cov q ps at' s W h i
  rw [e1, cnt_or]
  omega
end Go.Proofs.Ytmgaikpninblgaa
