/-
  Contracts of impl's and spec's NetOk and NetLoad, at every net.
-/
import Derived.Test.YthjdcgckonckoaaRow
import Derived.Test.YthjdcgckonckoaaShelf
import Derived.LoopTactic
import Derived.BigGuard
namespace Go.Proofs.Ythjdcgckonckoaa
open Go.ChangeShapes Go.WideShapes Go.ChangeAt Go.RowKit
set_option linter.unusedVariables false

/-- A text that may be under way. -/
def fits (s : ByteArray) : Bool := decide (s.size ≤ 2000)

/-- What NetOk answers. -/
def netOk (ss : List ByteArray) : Bool := decide (ss.length ≤ 200) && ss.all fits

theorem netOk_iff (ss : List ByteArray) : netOk ss = true ↔ ss.length ≤ 200 ∧ ∀ i, i < ss.length → (txt ss i).size ≤ 2000 := by
  simp only [netOk, Bool.and_eq_true, decide_eq_true_eq, List.all_eq_true, fits]
  refine and_congr Iff.rfl ⟨fun h i hi => ?_, fun h s hs => ?_⟩
  · have := h (txt ss i) (by simp [txt, List.getD, List.getElem?_eq_getElem hi])
    exact this
  · obtain ⟨i, hi, rfl⟩ := List.getElem_of_mem hs
    have := h i hi
    simpa [txt, List.getD, List.getElem?_eq_getElem hi] using this

theorem tooLong (s : ByteArray) (w : World) :
    Calls Try.prog 22 #[.string s] w fun e w' => e = .returned (.bool (!fits s)) ∧ w' = w := by
  have e : (!fits s) = decide ((2000 : Int) < (s.size : Int)) := by
    unfold fits
    by_cases h : s.size ≤ 2000
    · rw [decide_eq_true h, decide_eq_false (by omega)]; rfl
    · rw [decide_eq_false h, decide_eq_true (by omega)]; rfl
  rw [e]
  go_enter Try.func22, Try.ntmps22
  go_wp2
  go_ret
  exact ⟨rfl, rfl⟩

theorem any_not (ss : List ByteArray) : (ss.any fun s => !fits s) = !ss.all fits := by
  induction ss with
  | nil => rfl
  | cons s r ih => simp only [List.any_cons, List.all_cons, ih, Bool.not_and]

theorem containsLong (g n cap : Nat) (ss : List ByteArray) (B : Nat) (w : World) (T : Texts w B g n cap ss) :
    Calls Try.prog 23 #[.slice (some ⟨g, 0, none⟩) n cap, .func (.func 22) #[] #[]] w fun e w' => e = .returned (.bool (!ss.all fits)) ∧ Since w w' := by
  have hp : Go.Proofs.PredAt Try.prog 22 #[] Value.string (fun s => !fits s) w := fun W x _ => (tooLong x W).mono fun _ _ ⟨h1, h2⟩ => ⟨h1, 0, h2⟩
  have hm := T.room
  unfold maxLen at hm
  refine (Try.slices_ContainsFunc Value.string (fun s => !fits s) 22 #[] (enters_of Try.func22 (by kernel_rfl) rfl) g 0 n cap ss w hp (Nat.le_of_eq T.len.symm) (by omega) ?_).mono ?_
  · intro j hj
    rw [Nat.zero_add, T.cell j (by rw [← T.len]; exact hj)]
    simp [txt, List.getD, List.getElem?_eq_getElem hj, getElem!_pos ss j hj]
  · rintro _ _ ⟨rfl, q, rfl⟩
    refine ⟨?_, ⟨rfl, rfl, rfl, Nat.le_refl _, fun _ _ => rfl⟩⟩
    rw [List.take_of_length_le (Nat.le_of_eq T.len)]
    rw [any_not]

theorem implNetOk (g n cap : Nat) (ss : List ByteArray) (B : Nat) (w : World) (T : Texts w B g n cap ss) :
    Calls Try.prog 8 #[.agg #[.slice (some ⟨g, 0, none⟩) n cap]] w fun e w' => e = .returned (.bool (netOk ss)) ∧ Since w w' := by
  have G : Since w (w.alloc (.cells #[.slice (some ⟨g, 0, none⟩) n cap] 26)) := (Since.refl _).alloc _
  have hc := containsLong g n cap ss B _ (T.since G)
  have hl := T.len
  have hn : netOk ss = (decide ((n : Int) ≤ 200) && ss.all fits) := by
    unfold netOk
    rw [hl]
    congr 1
    simp
    omega
  rw [hn]
  clear hn T
  generalize ss.all fits = d at hc ⊢
  by_cases h2 : (n : Int) ≤ 200
  · cases d
    all_goals
      go_enter Try.func8, Try.ntmps8
      go_wp2_with (go_at_call 23; refine hc.mono ?_; rintro _ w1 ⟨rfl, g1⟩)
      go_ret
      exact ⟨by simp [h2], G.trans g1⟩
  · clear hc
    go_enter Try.func8, Try.ntmps8
    go_wp2
    go_ret
    exact ⟨by rw [decide_eq_false (show ¬ (n : Int) ≤ 200 by omega)]; rfl, G⟩

set_option maxHeartbeats 1000000 in
theorem specNetOk (a : Option Addr) (n cap : Nat) (ss : List ByteArray) (w : World) (R : Reads w a n ss) :
    Calls Try.prog 9 #[.agg #[.slice a n cap]] w fun e w' => e = .returned (.bool (netOk ss)) ∧ Since w w' := by
  have G : Since w (w.alloc (.cells #[.slice a n cap] 26)) := (Since.refl _).alloc _
  have hmost := R.most
  have hlen := R.len
  unfold maxLen at hmost
  obtain ⟨ans, hans⟩ : ∃ ans, Hid (ans = netOk ss) := ⟨_, rfl⟩
  rw [← hans.out]
  by_cases h2 : (200 : Int) < (n : Int)
  · have hA : Hid (ans = false) := by
      refine hans.out.trans (Bool.eq_false_iff.2 fun h => ?_)
      have := ((netOk_iff ss).1 h).1
      omega
    go_enter Try.func9, Try.ntmps9
    go_wp2
    go_ret
    exact ⟨by rw [hA.out]; rfl, G⟩
  · have R' := R.since G
    clear R
    go_enter Try.func9, Try.ntmps9
    go_wp2
    go_loop [3] (fun i => ∃ (k : Nat), k ≤ n ∧ i = .int .i64 k ∧ Hid (∀ j, j < k → (txt ss j).size ≤ 2000)) (fun i => n - (intOf i).toNat)
    case atStart => exact ⟨0, by omega, rfl, fun j hj => by omega⟩
    case round =>
      obtain ⟨k, hk, rfl, hall⟩ := hrel
      by_cases hlt : k < n
      · obtain ⟨x, rfl, hb, hc⟩ := R'.cell k hlt
        have hlt' : (k : Int) < (n : Int) := by omega
        by_cases hs : (2000 : Int) < ((txt ss k).size : Int)
        · have hA : Hid (ans = false) := by
            refine hans.out.trans (Bool.eq_false_iff.2 fun h => ?_)
            have := ((netOk_iff ss).1 h).2 k (by omega)
            omega
          generalize txt ss k = t at hc hs
          go_wp2
          go_ret
          exact ⟨by rw [hA.out]; rfl, G⟩
        · have hN : Hid ((txt ss k).size ≤ 2000) := by unfold Hid; omega
          generalize hz : txt ss k = t at hc hs hN
          replace hz : Hid (txt ss k = t) := hz
          go_wp2
          go_round
          case rel =>
            refine ⟨k + 1, by omega, by go_num, fun j hj => ?_⟩
            by_cases e : j = k
            · subst e
              rw [hz.out]
              exact hN.out
            · exact hall.out j (by omega)
          case measure => simp [intOf]; omega
      · have hkn : k = n := by omega
        subst hkn
        have hA : Hid (ans = true) := hans.out.trans ((netOk_iff ss).2 ⟨by omega, fun i hi => hall.out i (by omega)⟩)
        go_wp2
        go_ret
        exact ⟨by rw [hA.out]; rfl, G⟩
end Go.Proofs.Ythjdcgckonckoaa
