/-
  Contracts of the wheels' set and stop.
-/
import Derived.Test.YtgdhdeadbmeejaaWheelOf
namespace Go.Proofs.Ytgdhdeadbmeejaa
open Go.ChangeShapes Go.WideShapes Go.ChangeAt Go.RowKit Go.Deep Go.Sort Go.Maps
set_option linter.unusedVariables false

/-- Wheels in block b, all of our own from block B on, that stand for the clock (now, ts); they hold at most N entries. -/
structure Run (w : World) (B b : Nat) (now : Int) (ts : List (Int × Int)) (N : Nat) : Prop where
  ok : okC now ts
  base : B ≤ w.heap.size
  ex : ∃ bm vs rows, Wheels w B b bm now vs rows ∧ Due w bm ts ∧ Placed now rows ts ∧ Sane rows ∧ total rows ≤ N

theorem Run.since {w w' : World} {B b N : Nat} {now : Int} {ts : List (Int × Int)} (h : Run w B b now ts N) (k : Since w w') : Run w' B b now ts N := by
  obtain ⟨bm, vs, rows, W, D, P, hS, hN⟩ := h.ex
  exact ⟨h.ok, Nat.le_trans h.base k.le, bm, vs, rows, W.since k, D.since k, P, hS, hN⟩

set_option maxHeartbeats 1000000 in
theorem stopWM {w : World} {B b N : Nat} {now : Int} {ts : List (Int × Int)} (R : Run w B b now ts N) (id : Int) (hid : I64 id) :
    Calls Try.prog 30 #[.pointer (some ⟨b, 0, none⟩), .int .i64 id] w fun e w' => e = .returned (.bool (stopC now ts id).2) ∧ Run w' B b now (stopC now ts id).1 N ∧ Far (Mine B w) w w' := by
  obtain ⟨bm, vs, rows, W, D, P, hS, hN⟩ := R.ex
  have hok := R.ok
  have hbm := W.mapNe D
  have c1 := W.cellMap
  obtain ⟨r, hr⟩ : ∃ r, Hid (stopC now ts id = r) := ⟨_, rfl⟩
  rw [hr.out]
  have hr1 : Hid (r.2 = decide (id ∈ idsOf ts)) := by
    unfold Hid
    rw [← hr.out]
    unfold stopC
    by_cases h : id ∈ idsOf ts
    · rw [if_pos ⟨hok, h⟩]; simp [h]
    · rw [if_neg (fun h' => h h'.2)]; simp [h]
  have hr2 : Hid (r.1 = without ts id) := by
    unfold Hid
    rw [← hr.out]
    unfold stopC
    by_cases h : id ∈ idsOf ts
    · rw [if_pos ⟨hok, h⟩]
    · rw [if_neg (fun h' => h h'.2), without_self h]
  have hok2 : okC now r.1 := by rw [← hr.out]; exact okC_stop hok
  replace hok2 : Hid _ := hok2
  rw [hr1.out]
  generalize hh : decide (id ∈ idsOf ts) = there
  have tok1 : True := trivial
  go_enter Try.func30, Try.ntmps30
  go_wp2_with (first | (at_lookup; refine due_ok rfl _ _ rfl D hid rfl rfl ?_; rw [hh]) | (at_delete; refine due_del rfl _ _ rfl D hid rfl rfl ?_; intro w1 D1 t1; go_frame))
  have W1 := W.touch t1 (Ne.symm hbm) (fun i hi => W.rowNeMap D i hi)
  have hmM := W.mineM D (Far.refl (Mine B w) w)
  clear D W c1
  go_wp2
  go_ret
  refine ⟨rfl, ⟨hok2.out, Nat.le_trans R.base t1.size, bm, vs, rows, W1, by rw [hr2.out]; exact D1, ?_, hS, hN⟩, Far.of_touch t1 hmM⟩
  rw [hr2.out]
  exact fun t ht => P t (mem_without.1 ht).1

theorem stopW {w : World} {B b N : Nat} {now : Int} {ts : List (Int × Int)} (R : Run w B b now ts N) (id : Int) (hid : I64 id) :
    Calls Try.prog 30 #[.pointer (some ⟨b, 0, none⟩), .int .i64 id] w fun e w' => e = .returned (.bool (stopC now ts id).2) ∧ Run w' B b now (stopC now ts id).1 N ∧ Far (fun k => B ≤ k) w w' :=
  (stopWM R id hid).mono fun _ _ ⟨h1, h2, h3⟩ => ⟨h1, h2, h3.mono fun _ h => h.1⟩

set_option maxHeartbeats 2000000 in
theorem setWM {w : World} {B b N : Nat} {now : Int} {ts : List (Int × Int)} (R : Run w B b now ts N) (hN2 : N < 1000000) (id wait : Int) (hid : I64 id) :
    Calls Try.prog 29 #[.pointer (some ⟨b, 0, none⟩), .int .i64 id, .int .i64 wait] w fun e w' => e = .returned (.bool (setC now ts id wait).2) ∧ Run w' B b now (setC now ts id wait).1 (N + 1) ∧ Far (Mine B w) w w' := by
  obtain ⟨bm, vs, rows, W, D, P, hS, hN⟩ := R.ex
  have hok := R.ok
  have hnow := hok.1
  have hl100 := hok.2.1
  have hnd := hok.2.2.2.2
  have hbm := W.mapNe D
  have c0 := W.cell0
  have c1 := W.cellMap
  have hlw := length_without hnd id
  obtain ⟨r, hr⟩ : ∃ r, Hid (setC now ts id wait = r) := ⟨_, rfl⟩
  rw [hr.out]
  have hbad : (¬ (okC now ts ∧ (0 ≤ id ∧ id ≤ 1000000000) ∧ (1 ≤ wait ∧ wait ≤ 1000000000) ∧ now + wait ≤ 1000000000 ∧ (without ts id).length < 100)) → r = (ts, false) := fun h => hr.out.symm.trans (by unfold setC; rw [if_neg h])
  have Rn : Run w B b now ts (N + 1) := ⟨hok, R.base, bm, vs, rows, W, D, P, hS, by omega⟩
  have hit := fun x wx => isTick x wx
  replace hbad : Hid _ := hbad
  by_cases h1 : ¬ (0 ≤ id ∧ id ≤ 1000000000)
  · have hre : Hid (r = (ts, false)) := hbad.out (fun h => h1 h.2.1)
    have hd : decide (0 ≤ id ∧ id ≤ 1000000000) = false := by simpa using h1
    go_enter Try.func29, Try.ntmps29
    go_wp2_with (go_at_call 25; refine (hit _ _).mono ?_; rintro _ _ ⟨rfl, rfl⟩)
    go_ret
    exact ⟨by rw [hre.out]; rfl, by rw [hre.out]; exact Rn, Far.refl _ _⟩
  replace h1 := Decidable.not_not.1 h1
  have hd1 : decide (0 ≤ id ∧ id ≤ 1000000000) = true := by simpa using h1
  by_cases h2 : ¬ (0 ≤ wait ∧ wait ≤ 1000000000)
  · have hre : Hid (r = (ts, false)) := hbad.out (fun h => h2 (by omega))
    have hd : decide (0 ≤ wait ∧ wait ≤ 1000000000) = false := by simpa using h2
    go_enter Try.func29, Try.ntmps29
    go_wp2_with (go_at_call 25; refine (hit _ _).mono ?_; rintro _ _ ⟨rfl, rfl⟩)
    go_ret
    exact ⟨by rw [hre.out]; rfl, by rw [hre.out]; exact Rn, Far.refl _ _⟩
  replace h2 := Decidable.not_not.1 h2
  have hd2 : decide (0 ≤ wait ∧ wait ≤ 1000000000) = true := by simpa using h2
  by_cases h3 : wait = 0
  · have hre : Hid (r = (ts, false)) := hbad.out (fun h => by omega)
    subst h3
    go_enter Try.func29, Try.ntmps29
    go_wp2_with (go_at_call 25; refine (hit _ _).mono ?_; rintro _ _ ⟨rfl, rfl⟩)
    go_ret
    exact ⟨by rw [hre.out]; rfl, by rw [hre.out]; exact Rn, Far.refl _ _⟩
  have h3b : (wait == 0) = false := by simpa using h3
  have hw1 : IntKind.i64.wrap (now + wait) = now + wait := by rw [IntWalk.i64_left]; exact IntWalk.wrap64_in _ ⟨by omega, by omega⟩
  by_cases h4 : ¬ (0 ≤ now + wait ∧ now + wait ≤ 1000000000)
  · have hre : Hid (r = (ts, false)) := hbad.out (fun h => h4 (by omega))
    have hd : decide (0 ≤ now + wait ∧ now + wait ≤ 1000000000) = false := by simpa using h4
    go_enter Try.func29, Try.ntmps29
    go_wp2_with (go_at_call 25; refine (hit _ _).mono ?_; rintro _ _ ⟨rfl, rfl⟩)
    go_ret
    exact ⟨by rw [hre.out]; rfl, by rw [hre.out]; exact Rn, Far.refl _ _⟩
  replace h4 := Decidable.not_not.1 h4
  have hd4 : decide (0 ≤ now + wait ∧ now + wait ≤ 1000000000) = true := by simpa using h4
  by_cases h5 : ¬ ((without ts id).length < 100)
  · have hre : Hid (r = (ts, false)) := hbad.out (fun h => h5 h.2.2.2.2)
    have hni : id ∉ idsOf ts := fun h => by rw [if_pos h] at hlw; omega
    have hge : (100 : Int) ≤ (ts.length : Int) := by rw [if_neg hni] at hlw; omega
    have hh : decide (id ∈ idsOf ts) = false := by simpa using hni
    clear hni
    have hln := fun ty => D.run_len ty
    go_enter Try.func29, Try.ntmps29
    go_wp2_with (first | (go_at_call 25; refine (hit _ _).mono ?_; rintro _ _ ⟨rfl, rfl⟩) | (at_lookup; refine due_ok rfl _ _ rfl D hid rfl rfl ?_; rw [hh]))
    go_ret
    exact ⟨by rw [hre.out]; rfl, by rw [hre.out]; exact Rn, Far.refl _ _⟩
  replace h5 := Decidable.not_not.1 h5
  have hre : Hid (r = (insT (id, now + wait) (without ts id), true)) := hr.out.symm.trans (by unfold setC; rw [if_pos ⟨hok, h1, by omega, by omega, h5⟩])
  have hok2 : Hid (okC now r.1) := by unfold Hid; rw [← hr.out]; exact okC_set hok
  have hpt := putTM W D R.base hnow id (now + wait) hid (by omega) (by omega) (by omega)
  have hbas := R.base
  have hgoal : ∀ w3 v', Wheels w3 B b bm now (upd vs (slotOf now (now + wait)) v') (upd rows (slotOf now (now + wait)) (rows (slotOf now (now + wait)) ++ [(id, now + wait)])) → Due w3 bm ((id, now + wait) :: without ts id) → Far (Mine B w) w w3 → Run w3 B b now r.1 (N + 1) := by
    intro w3 v' W3 D3 F3
    have hp := (insT_perm (id, now + wait) (without ts id)).symm
    refine ⟨hok2.out, Nat.le_trans hbas F3.size, bm, _, _, W3, by rw [hre.out]; exact D3.perm hp, by rw [hre.out]; exact (P.put id (now + wait)).perm hp, hS.put _ id (now + wait) hid (by omega), ?_⟩
    rw [total_put rows _ (slotOf_lt _ _)]
    omega
  replace hgoal : Hid _ := hgoal
  replace hlw : Hid _ := hlw
  have hln := fun ty => D.run_len ty
  cases hh : decide (id ∈ idsOf ts)
  · have hge : ¬ (100 : Int) ≤ (ts.length : Int) := by
      have hni : id ∉ idsOf ts := by simpa using hh
      have := hlw.out
      rw [if_neg hni] at this
      omega
    go_enter Try.func29, Try.ntmps29
    go_wp2_with (first | (go_at_call 25; refine (hit _ _).mono ?_; rintro _ _ ⟨rfl, rfl⟩) | (at_lookup; refine due_ok rfl _ _ rfl D hid rfl rfl ?_; rw [hh]) | (go_at_call 36; refine hpt.mono ?_; rintro _ w3 ⟨rfl, v', W3, D3, F3⟩))
    go_ret
    exact ⟨by rw [hre.out]; rfl, hgoal.out w3 v' W3 D3 F3, F3⟩
  · go_enter Try.func29, Try.ntmps29
    go_wp2_with (first | (go_at_call 25; refine (hit _ _).mono ?_; rintro _ _ ⟨rfl, rfl⟩) | (at_lookup; refine due_ok rfl _ _ rfl D hid rfl rfl ?_; rw [hh]) | (go_at_call 36; refine hpt.mono ?_; rintro _ w3 ⟨rfl, v', W3, D3, F3⟩))
    go_ret
    exact ⟨by rw [hre.out]; rfl, hgoal.out w3 v' W3 D3 F3, F3⟩

theorem setW {w : World} {B b N : Nat} {now : Int} {ts : List (Int × Int)} (R : Run w B b now ts N) (hN2 : N < 1000000) (id wait : Int) (hid : I64 id) :
    Calls Try.prog 29 #[.pointer (some ⟨b, 0, none⟩), .int .i64 id, .int .i64 wait] w fun e w' => e = .returned (.bool (setC now ts id wait).2) ∧ Run w' B b now (setC now ts id wait).1 (N + 1) ∧ Far (fun k => B ≤ k) w w' :=
  (setWM R hN2 id wait hid).mono fun _ _ ⟨h1, h2, h3⟩ => ⟨h1, h2, h3.mono fun _ h => h.1⟩
end Go.Proofs.Ytgdhdeadbmeejaa
