/-
  Contracts of wheelsOf, and of the wheels' set, stop and clock.
-/
import Derived.Test.YtgdhdeadbmeejaaWheelPut
namespace Go.Proofs.Ytgdhdeadbmeejaa
open Go.ChangeShapes Go.WideShapes Go.ChangeAt Go.RowKit Go.Deep Go.Sort Go.Maps
set_option linter.unusedVariables false

/-- Every timer stands in its list. -/
def Placed (now : Int) (rows : Nat → List (Int × Int)) (ts : List (Int × Int)) : Prop := ∀ t ∈ ts, t ∈ rows (slotOf now t.2)

/-- Every entry of every list can be looked up. -/
def Sane (rows : Nat → List (Int × Int)) : Prop := ∀ i, i < 64 → ∀ t ∈ rows i, I64 t.1 ∧ 0 ≤ t.2 ∧ t.2 ≤ 1000000000

theorem Sane.put {rows : Nat → List (Int × Int)} (h : Sane rows) (j : Nat) (x y : Int) (hx : I64 x) (hy : 0 ≤ y ∧ y ≤ 1000000000) : Sane (upd rows j (rows j ++ [(x, y)])) := by
  intro i hi t ht
  by_cases e : i = j
  · subst e
    rw [upd_same, List.mem_append, List.mem_singleton] at ht
    rcases ht with h1 | rfl
    · exact h i hi t h1
    · exact ⟨hx, hy⟩
  · rw [upd_other _ _ e] at ht
    exact h i hi t ht

theorem slotOf_lt (now at' : Int) : slotOf now at' < 64 := by
  unfold slotOf
  split <;> omega

theorem Placed.put {now : Int} {rows : Nat → List (Int × Int)} {ts : List (Int × Int)} (h : Placed now rows ts) (x y : Int) : Placed now (upd rows (slotOf now y) (rows (slotOf now y) ++ [(x, y)])) ((x, y) :: without ts x) := by
  intro t ht
  rcases List.mem_cons.1 ht with e | e
  · subst e
    rw [upd_same]
    simp
  · have h1 := h t (mem_without.1 e).1
    by_cases h2 : slotOf now t.2 = slotOf now y
    · rw [h2, upd_same]
      rw [h2] at h1
      exact List.mem_append.2 (.inl h1)
    · rw [upd_other _ _ h2]
      exact h1

theorem Placed.perm {now : Int} {rows : Nat → List (Int × Int)} {ts us : List (Int × Int)} (h : Placed now rows ts) (p : ts.Perm us) : Placed now rows us := fun t ht => h t (p.mem_iff.2 ht)

theorem total_put (rows : Nat → List (Int × Int)) (i : Nat) (hi : i < 64) (x : Int × Int) : total (upd rows i (rows i ++ [x])) = total rows + 1 := by
  have := totalTo_upd rows i (rows i ++ [x]) 64
  rw [if_pos hi, if_pos hi, List.length_append] at this
  unfold total
  simp at this
  omega

theorem zeroWheels : Try.zeroCells69 = #[.int .i64 0] ++ Array.replicate 64 (.slice none 0 0) ++ #[.map none] := by kernel_rfl

theorem newWheels (w : World) (B bm : Nat) (now : Int) (hB : B ≤ w.heap.size) (hm : B ≤ bm) : Wheels (w.alloc (.cells ((Try.zeroCells69.setIfInBounds 0 (.int .i64 now)).setIfInBounds 65 (.map (some bm))) 69)) B w.heap.size bm now (fun _ => .slice none 0 0) (fun _ => []) := by
  have hh := heap_alloc_new w (.cells ((Try.zeroCells69.setIfInBounds 0 (.int .i64 now)).setIfInBounds 65 (.map (some bm))) 69)
  refine ⟨hB, hm, ⟨_, hh, ?_, ?_, fun i hi => ?_, ?_⟩, fun i hi => Own.nil _ _, fun i j _ _ _ => .inl rfl⟩
  · simp [zeroWheels]
  · simp [zeroWheels]
  · rw [zeroWheels, Array.getElem?_setIfInBounds, if_neg (by omega), Array.getElem?_setIfInBounds, if_neg (by omega), Array.getElem?_append_left (by simp; omega), Array.getElem?_append_right (by simp)]
    simp [hi]
  · simp [zeroWheels]

set_option maxHeartbeats 4000000 in
theorem wheelsOf (now : Int) (a : Option Addr) (n cap : Nat) (ts : List (Int × Int)) (w : World) (R : Rd shT w a n ts) (hok : okC now ts) :
    Calls Try.prog 21 #[.agg #[.int .i64 now, .slice a n cap]] w fun e w' => ∃ b bm vs rows, e = .returned (.pointer (some ⟨b, 0, none⟩)) ∧ Wheels w' w.heap.size b bm now vs rows ∧ Due w' bm ts ∧ Placed now rows ts ∧ total rows = ts.length ∧ Sane rows ∧ Since w w' := by
  have hmm := @run_makeMap Try.prog
  obtain ⟨hnow, hl100, hall, hris, hnd⟩ := hok
  have hlen := R.len
  go_enter Try.func21, Try.ntmps21
  have k1 : Since w (w.alloc (.cells #[.int .i64 now, .slice a n cap] 26)) := (Since.refl _).alloc _
  have k2 : Since (w.alloc (.cells #[.int .i64 now, .slice a n cap] 26)) ((w.alloc (.cells #[.int .i64 now, .slice a n cap] 26)).alloc (.map #[] 0)) := (Since.refl _).alloc _
  have D0 := Due.made (w.alloc (.cells #[.int .i64 now, .slice a n cap] 26))
  have W0 := newWheels ((w.alloc (.cells #[.int .i64 now, .slice a n cap] 26)).alloc (.map #[] 0)) w.heap.size (w.heap.size + 1) now (by simp; omega) (by omega)
  simp only [World.size_alloc] at D0 W0
  replace D0 := D0.since ((Since.refl _).alloc (.cells ((Try.zeroCells69.setIfInBounds 0 (.int .i64 now)).setIfInBounds 65 (.map (some (w.heap.size + 1)))) 69))
  have G0 : Since w (((w.alloc (.cells #[.int .i64 now, .slice a n cap] 26)).alloc (.map #[] 0)).alloc (.cells ((Try.zeroCells69.setIfInBounds 0 (.int .i64 now)).setIfInBounds 65 (.map (some (w.heap.size + 1)))) 69)) := (((Since.refl _).alloc _).alloc _).alloc _
  go_wp2_with (fail)
  generalize ((w.alloc (.cells #[.int .i64 now, .slice a n cap] 26)).alloc (.map #[] 0)).alloc (.cells ((Try.zeroCells69.setIfInBounds 0 (.int .i64 now)).setIfInBounds 65 (.map (some (w.heap.size + 1)))) 69) = Z at D0 W0 G0 ⊢
  clear k1 k2
  go_loopw [14] (fun i wr => ∃ (k : Nat) (vs : Nat → Value) (rows : Nat → List (Int × Int)) (us : List (Int × Int)), k ≤ n ∧ i = .int .i64 k ∧ Wheels wr w.heap.size (w.heap.size + 1 + 1) (w.heap.size + 1) now vs rows ∧ Due wr (w.heap.size + 1) us ∧ Hid (us.Perm (ts.take k)) ∧ Hid (Placed now rows us) ∧ Hid (total rows = k) ∧ Hid (Sane rows) ∧ Since w wr) (fun i _ => n - (intOf i).toNat)
  case atStart => exact ⟨0, _, _, [], by omega, rfl, W0, D0, by rw [List.take_zero]; exact List.Perm.refl _, (fun t ht => by cases ht), by unfold Hid; rfl, (fun i hi t ht => by cases ht), G0⟩
  case round =>
    clear W0 D0 G0
    obtain ⟨k, vs, rows, us, hk, rfl, W, D, hp, hpl, htot, hsn, Sr⟩ := hrel
    by_cases hlt : k < n
    · have hlt' : (k : Int) < (n : Int) := by omega
      obtain ⟨x, rfl, hb, q0, q1⟩ := (R.since Sr).tim k hlt
      have hO := hall _ (tAt_mem (i := k) (by omega))
      have hnx := take_nextT ts k (by omega)
      have hnd2 : (idsOf (ts.take (k + 1))).Nodup := List.Pairwise.sublist (List.Sublist.map _ (List.take_sublist _ _)) hnd
      have hun : (tAt ts k).1 ∉ idsOf us := by
        intro hm
        have hm2 : (tAt ts k).1 ∈ idsOf (ts.take k) := (hp.out.map _).mem_iff.1 hm
        rw [hnx] at hnd2
        have : idsOf (ts.take k ++ [tAt ts k]) = idsOf (ts.take k) ++ [(tAt ts k).1] := by simp [idsOf]
        rw [this, List.nodup_append] at hnd2
        exact hnd2.2.2 _ hm2 _ (by simp) rfl
      have hus : us.length ≤ 100 := by
        rw [hp.out.length_eq, List.length_take]
        omega
      generalize tAt ts k = O at q0 q1 hO hnx hun
      unfold okT at hO
      have hY : Since wr (wr.alloc (.cells #[.int .i64 O.1, .int .i64 O.2] 47)) := (Since.refl _).alloc _
      have hpt := putT (W.since hY) (D.since hY) (by have := Sr.le; simp; omega) hnow O.1 O.2 (i64_of (by omega)) (by omega) (by have := htot.out; omega) (by omega)
      have hw0 := without_self hun
      replace hnx : Hid _ := hnx
      replace hO : Hid _ := hO
      replace hw0 : Hid _ := hw0
      clear hnd2 R
      go_wp2_with (go_at_call 36; refine hpt.mono ?_; rintro _ w3 ⟨rfl, v', W3, D3, F3⟩)
      have S3 : Since w w3 := by
        have := ((Far.of_since (P := fun k => w.heap.size ≤ k) Sr).trans (Far.of_since hY)).trans F3
        exact this.since (fun k hk => hk)
      go_roundw
      case rel =>
        refine ⟨k + 1, _, _, _, by omega, by go_num, W3, D3, ?_, hpl.out.put O.1 O.2, ?_, hsn.out.put _ O.1 O.2 (i64_of (by have := hO.out; omega)) (by have := hO.out; omega), S3⟩
        · unfold Hid
          rw [hw0.out, hnx.out]
          exact ((hp.out.cons (O.1, O.2)).trans (List.perm_append_singleton _ _).symm)
        · unfold Hid
          rw [total_put rows _ (slotOf_lt _ _), htot.out]
      case measure => simp [intOf]; omega
    · have hkn : k = n := by omega
      subst hkn
      have hp2 := hp.out
      rw [List.take_of_length_le (by omega)] at hp2
      replace hp2 : Hid _ := hp2
      go_wp2
      go_ret
      exact ⟨_, _, vs, rows, rfl, W, D.perm hp2.out, hpl.out.perm hp2.out, by rw [htot.out, hlen], hsn.out, Sr⟩
end Go.Proofs.Ytgdhdeadbmeejaa
