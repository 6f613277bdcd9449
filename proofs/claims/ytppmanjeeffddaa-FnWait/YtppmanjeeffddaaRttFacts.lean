/-
  Plain facts of the wait: it stays right, its bounds, and that it doubles with a failure.
-/
import Derived.Test.YtppmanjeeffddaaRttRun
namespace Go.Proofs.Ytppmanjeeffddaa
open Go.ChangeShapes Go.WideShapes Go.ChangeAt Go.RowKit Go.Deep
set_option linter.unusedVariables false

theorem back_ok (a : Bool) (s v d : Int) (u : Rt) (h : backV a s v d = u) : rttOk u.1 u.2.1 u.2.2.1 u.2.2.2 = true := by
  subst h
  unfold backV
  by_cases hk : rttOk a s v d = true
  · rw [if_pos hk]
    simp [rttOk] at hk ⊢
    refine ⟨hk.1, hk.2.1, ?_, hk.2.2.2⟩
    omega
  · rw [if_neg hk]
    rfl

theorem samp_ok (a : Bool) (s v d r : Int) (u : Rt) (h : sampV a s v d r = u) : rttOk u.1 u.2.1 u.2.2.1 u.2.2.2 = true := by
  subst h
  unfold sampV
  by_cases hk : (rttOk a s v d && decide (0 ≤ r ∧ r ≤ 100000)) = true
  · rw [if_pos hk]
    simp only [Bool.and_eq_true, decide_eq_true_eq] at hk
    obtain ⟨hk, hr⟩ := hk
    have hb := ok_bounds hk
    unfold sampleS sampleV
    cases a
    · simp [rttOk]
      omega
    · simp [rttOk]
      omega
  · rw [if_neg hk]
    rfl

theorem step_ok (t : Rt) (n : Int) : rttOk (stepR t n).1 (stepR t n).2.1 (stepR t n).2.2.1 (stepR t n).2.2.2 = true := by
  unfold stepR
  split
  · exact back_ok _ _ _ _ _ rfl
  · exact samp_ok _ _ _ _ _ _ rfl

theorem stR_ok (ns : List Int) (k : Nat) (hk : k ≤ ns.length) : rttOk (stR (ns.take k)).1 (stR (ns.take k)).2.1 (stR (ns.take k)).2.2.1 (stR (ns.take k)).2.2.2 = true := by
  cases k with
  | zero => rfl
  | succ k =>
    rw [stR_next ns k (by omega)]
    exact step_ok _ _

theorem wait_bounds (a : Bool) (s v d : Int) : 2 ≤ waitOf a s v d ∧ waitOf a s v d ≤ 600 := by
  unfold waitOf
  split
  · rename_i hk
    have hb := ok_bounds hk
    have h2 : 2 ≤ baseOf a s v := by unfold baseOf; split <;> omega
    have h3 : baseOf a s v ≤ 1000000 := by unfold baseOf; split <;> omega
    generalize baseOf a s v = p at h2 h3
    have hd : d = 0 ∨ d = 1 ∨ d = 2 ∨ d = 3 ∨ d = 4 ∨ d = 5 ∨ d = 6 ∨ d = 7 ∨ d = 8 := by omega
    rcases hd with rfl | rfl | rfl | rfl | rfl | rfl | rfl | rfl | rfl <;> simp <;> omega
  · omega

theorem wait_doubles (a : Bool) (s v d : Int) (u : Rt) (hk : rttOk a s v d = true) (h : backV a s v d = u) : wR u = 2 * waitOf a s v d ∨ wR u = 600 ∨ wR u = waitOf a s v d := by
  have hu := back_ok a s v d u h
  have hb := ok_bounds hk
  subst h
  unfold wR
  unfold waitOf
  rw [if_pos hk, if_pos hu]
  unfold backV
  rw [if_pos hk]
  simp only
  generalize baseOf a s v = p
  have hd : d = 0 ∨ d = 1 ∨ d = 2 ∨ d = 3 ∨ d = 4 ∨ d = 5 ∨ d = 6 ∨ d = 7 ∨ d = 8 := by omega
  obtain ⟨j, hj⟩ : ∃ j : Nat, (min (d + 1) 8).toNat = j := ⟨_, rfl⟩
  rw [hj]
  rcases hd with rfl | rfl | rfl | rfl | rfl | rfl | rfl | rfl | rfl
  · obtain rfl : j = 1 := by omega
    simp
    omega
  · obtain rfl : j = 2 := by omega
    simp
    omega
  · obtain rfl : j = 3 := by omega
    simp
    omega
  · obtain rfl : j = 4 := by omega
    simp
    omega
  · obtain rfl : j = 5 := by omega
    simp
    omega
  · obtain rfl : j = 6 := by omega
    simp
    omega
  · obtain rfl : j = 7 := by omega
    simp
    omega
  · obtain rfl : j = 8 := by omega
    simp
    omega
  · obtain rfl : j = 8 := by omega
    simp

theorem out_at (ns : List Int) (k : Nat) (hk : k < ns.length) : iAt (outR ns) k = wR (stR (ns.take (k + 1))) := by
  simp [iAt, outR, List.getD, hk]

theorem out_bounds (ns : List Int) (k : Nat) (hk : k < ns.length) : 2 ≤ iAt (outR ns) k ∧ iAt (outR ns) k ≤ 600 := by
  rw [out_at ns k hk]
  exact wait_bounds _ _ _ _

theorem out_doubles (ns : List Int) (k : Nat) (hk : k + 1 < ns.length) (hn : iAt ns (k + 1) < 0) : iAt (outR ns) (k + 1) = 2 * iAt (outR ns) k ∨ iAt (outR ns) (k + 1) = 600 ∨ iAt (outR ns) (k + 1) = iAt (outR ns) k := by
  rw [out_at ns (k + 1) hk, out_at ns k (by omega), stR_next ns (k + 1) hk]
  have h1 := stR_ok ns (k + 1) (by omega)
  generalize stR (ns.take (k + 1)) = t at h1
  unfold stepR
  rw [if_pos hn]
  exact wait_doubles _ _ _ _ _ h1 rfl

/-- What RttRun answers to n numbers. -/
def RunsTo (n : Nat) (ns : List Int) (m : Nat) (rs : List Int) : Prop := (n ≤ 1000 ∧ m = n ∧ rs = outR ns) ∨ (1000 < n ∧ m = 0 ∧ rs = [])

theorem runsTo (n : Nat) (ns : List Int) : ∃ (m : Nat) (rs : List Int), RunsTo n ns m rs := by
  by_cases h : n ≤ 1000
  · exact ⟨_, _, .inl ⟨h, rfl, rfl⟩⟩
  · exact ⟨_, _, .inr ⟨by omega, rfl, rfl⟩⟩

theorem RunsTo.le {n : Nat} {ns : List Int} {m : Nat} {rs : List Int} (h : RunsTo n ns m rs) : m ≤ 1000 ∧ m ≤ n := by
  rcases h with ⟨h, rfl, _⟩ | ⟨_, rfl, _⟩ <;> omega

theorem RunsTo.bounds {n : Nat} {ns : List Int} {m : Nat} {rs : List Int} (h : RunsTo n ns m rs) (hl : ns.length = n) (k : Nat) (hk : k < m) : 2 ≤ iAt rs k ∧ iAt rs k ≤ 600 := by
  rcases h with ⟨h, rfl, rfl⟩ | ⟨_, rfl, _⟩
  · exact out_bounds ns k (by omega)
  · omega

theorem RunsTo.doubles {n : Nat} {ns : List Int} {m : Nat} {rs : List Int} (h : RunsTo n ns m rs) (hl : ns.length = n) (k : Nat) (hk : k + 1 < m) (hn : iAt ns (k + 1) < 0) : iAt rs (k + 1) = 2 * iAt rs k ∨ iAt rs (k + 1) = 600 ∨ iAt rs (k + 1) = iAt rs k := by
  rcases h with ⟨h, rfl, rfl⟩ | ⟨_, rfl, _⟩
  · exact out_doubles ns k (by omega) hn
  · omega

theorem implRunR (a : Option Addr) (n cap : Nat) (ns : List Int) (m : Nat) (rs : List Int) (h : Hid (RunsTo n ns m rs)) (hn : n ≤ 1048576) (w : World) (R : Rd shI w a n ns) :
    Calls Try.prog 11 #[.slice a n cap] w fun e w' => ∃ g c, e = .returned (.slice (some ⟨g, 0, none⟩) m c) ∧ Held shI w' w.heap.size g m c rs ∧ Since w w' := by
  rcases h.out with ⟨h1, rfl, rfl⟩ | ⟨h1, rfl, rfl⟩
  · exact implRun a m cap ns h1 w R
  · exact implRunOut a n cap h1 (by omega) w

theorem specRunR (a : Option Addr) (n cap : Nat) (ns : List Int) (m : Nat) (rs : List Int) (h : Hid (RunsTo n ns m rs)) (hn : n ≤ 1048576) (w : World) (R : Rd shI w a n ns) :
    Calls Try.prog 12 #[.slice a n cap] w fun e w' => ∃ g c, e = .returned (.slice (some ⟨g, 0, none⟩) m c) ∧ Held shI w' w.heap.size g m c rs ∧ Since w w' := by
  rcases h.out with ⟨h1, rfl, rfl⟩ | ⟨h1, rfl, rfl⟩
  · exact specRun a m cap ns h1 w R
  · exact specRunOut a n cap h1 (by omega) w
end Go.Proofs.Ytppmanjeeffddaa
