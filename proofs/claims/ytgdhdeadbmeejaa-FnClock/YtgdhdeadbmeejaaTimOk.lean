/-
  What a clock must be; contracts of spec's and impl's ClockOk and ClockNext.
-/
import Derived.Test.YtgdhdeadbmeejaaTimCmp
import Derived.Test.YtgdhdeadbmeejaaWin
import Derived.Test.YtgdhdeadbmeejaaTimLaw
namespace Go.Proofs.Ytgdhdeadbmeejaa
open Go.ChangeShapes Go.WideShapes Go.ChangeAt Go.RowKit Go.Deep Go.Sort
set_option linter.unusedVariables false

/-- A timer as a clock at that time may have it. -/
def okT (now : Int) (t : Int × Int) : Prop := (0 ≤ t.1 ∧ t.1 ≤ 1000000000) ∧ now < t.2 ∧ t.2 ≤ 1000000000

instance (now : Int) (t : Int × Int) : Decidable (okT now t) := by unfold okT; exact inferInstance

/-- A clock as it should be. -/
def okC (now : Int) (ts : List (Int × Int)) : Prop := (0 ≤ now ∧ now ≤ 1000000000) ∧ ts.length ≤ 100 ∧ (∀ t ∈ ts, okT now t) ∧ ts.Pairwise aheadT ∧ (ts.map Prod.fst).Nodup

instance (now : Int) (ts : List (Int × Int)) : Decidable (okC now ts) := by unfold okC; exact inferInstance

theorem tAt_lt {ts : List (Int × Int)} {i : Nat} (h : i < ts.length) : tAt ts i = ts[i] := by simp [tAt, List.getD, List.getElem?_eq_getElem h]

theorem tAt_mem {ts : List (Int × Int)} {i : Nat} (h : i < ts.length) : tAt ts i ∈ ts := by rw [tAt_lt h]; exact List.getElem_mem h

theorem aheadT_trans {x y z : Int × Int} (h1 : aheadT x y) (h2 : aheadT y z) : aheadT x z := by unfold aheadT at *; omega

/-- Rising, neighbour by neighbour. -/
theorem rising_iff (ts : List (Int × Int)) : ts.Pairwise aheadT ↔ ∀ i, i + 1 < ts.length → aheadT (tAt ts i) (tAt ts (i + 1)) := by
  constructor
  · intro h i hi
    rw [tAt_lt (by omega), tAt_lt hi]
    exact (List.pairwise_iff_getElem.1 h) i (i + 1) (by omega) hi (by omega)
  · intro h
    rw [List.pairwise_iff_getElem]
    intro i j hi hj hij
    obtain ⟨d, rfl⟩ : ∃ d, j = i + 1 + d := ⟨j - (i + 1), by omega⟩
    induction d with
    | zero =>
      have := h i (by omega)
      rwa [tAt_lt (by omega), tAt_lt (by omega)] at this
    | succ d ih =>
      have h1 := ih (by omega) (by omega)
      have h2 := h (i + 1 + d) (by omega)
      rw [tAt_lt (by omega), tAt_lt (by omega)] at h2
      exact aheadT_trans h1 h2

theorem once_iff (ts : List (Int × Int)) : (ts.map Prod.fst).Nodup ↔ ∀ i, i < ts.length → ∀ k, k < i → (tAt ts k).1 ≠ (tAt ts i).1 := by
  rw [List.Nodup, List.pairwise_map, List.pairwise_iff_getElem]
  constructor
  · intro h i hi k hk
    rw [tAt_lt (by omega), tAt_lt hi]
    exact h k i (by omega) hi hk
  · intro h i j hi hj hij
    have := h j hj i hij
    rwa [tAt_lt (by omega), tAt_lt hj] at this

theorem all_iff (now : Int) (ts : List (Int × Int)) : (∀ t ∈ ts, okT now t) ↔ ∀ i, i < ts.length → okT now (tAt ts i) := by
  constructor
  · intro h i hi
    exact h _ (tAt_mem hi)
  · intro h t ht
    obtain ⟨i, hi, rfl⟩ := List.getElem_of_mem ht
    have := h i hi
    rwa [tAt_lt hi] at this

theorem aheadTims (x y : Int × Int) (w : World) :
    Calls Try.prog 19 #[.agg #[.int .i64 x.1, .int .i64 x.2], .agg #[.int .i64 y.1, .int .i64 y.2]] w fun e w' => e = .returned (.bool (decide (aheadT x y))) ∧ Since w w' := by
  obtain ⟨x1, x2⟩ := x
  obtain ⟨y1, y2⟩ := y
  have hS : ∀ o o', Since w ((w.alloc o).alloc o') := fun o o' => ((Since.refl _).alloc _).alloc _
  by_cases h1 : x2 < y2
  · have e : decide (aheadT (x1, x2) (y1, y2)) = true := by simp [aheadT, h1]
    rw [e]
    clear e
    go_enter Try.func19, Try.ntmps19
    go_wp2
    go_ret
    exact ⟨rfl, hS _ _⟩
  · by_cases h2 : x2 = y2
    · subst h2
      have e : decide (aheadT (x1, x2) (y1, x2)) = decide (x1 < y1) := by simp [aheadT]
      rw [e]
      clear e
      go_enter Try.func19, Try.ntmps19
      go_wp2
      go_ret
      exact ⟨rfl, hS _ _⟩
    · have e : decide (aheadT (x1, x2) (y1, y2)) = false := by
        rw [decide_eq_false_iff_not]
        unfold aheadT
        simp only
        omega
      have h3 : (x2 == y2) = false := by simpa using h2
      rw [e]
      clear e
      go_enter Try.func19, Try.ntmps19
      go_wp2
      go_ret
      exact ⟨rfl, hS _ _⟩

/-- The first i timers are as they should be. -/
def okTo (now : Int) (ts : List (Int × Int)) (i : Nat) : Prop := ∀ j, j < i → okT now (tAt ts j) ∧ (0 < j → aheadT (tAt ts (j - 1)) (tAt ts j)) ∧ ∀ k, k < j → (tAt ts k).1 ≠ (tAt ts j).1

theorem okTo_all {now : Int} {ts : List (Int × Int)} (h0 : 0 ≤ now ∧ now ≤ 1000000000) (hl : ts.length ≤ 100) : okC now ts ↔ okTo now ts ts.length := by
  unfold okC okTo
  rw [rising_iff, once_iff, all_iff]
  constructor
  · rintro ⟨_, _, h1, h2, h3⟩ j hj
    refine ⟨h1 j hj, fun hp => ?_, h3 j hj⟩
    have := h2 (j - 1) (by omega)
    rwa [show j - 1 + 1 = j by omega] at this
  · intro h
    refine ⟨h0, hl, fun i hi => (h i hi).1, fun i hi => ?_, fun i hi => (h i hi).2.2⟩
    exact (h (i + 1) hi).2.1 (by omega)

set_option maxHeartbeats 4000000 in
theorem specClockOk (now : Int) (a : Option Addr) (n cap : Nat) (ts : List (Int × Int)) (w : World) (R : Rd shT w a n ts) :
    Calls Try.prog 6 #[.agg #[.int .i64 now, .slice a n cap]] w fun e w' => e = .returned (.bool (decide (okC now ts))) ∧ Since w w' := by
  obtain ⟨ans, hans⟩ : ∃ ans, Hid (ans = decide (okC now ts)) := ⟨_, rfl⟩
  rw [← hans.out]
  have hin := fun x a b wx => specIn x a b wx
  have S0 : Since w (w.alloc (.cells #[.int .i64 now, .slice a n cap] 26)) := (Since.refl _).alloc _
  by_cases h0 : ¬ (0 ≤ now ∧ now ≤ 1000000000)
  · have hA : Hid (ans = false) := hans.out.trans (by rw [decide_eq_false_iff_not]; exact fun h => h0 h.1)
    have hd : decide (0 ≤ now ∧ now ≤ 1000000000) = false := by simpa using h0
    go_enter Try.func6, Try.ntmps6
    go_wp2_with (go_at_call 18; refine (hin _ _ _ _).mono ?_; rintro _ _ ⟨rfl, rfl⟩)
    go_ret
    exact ⟨by rw [hA.out]; rfl, S0⟩
  replace h0 := Decidable.not_not.1 h0
  have hd : decide (0 ≤ now ∧ now ≤ 1000000000) = true := by simpa using h0
  by_cases hn : ¬ n ≤ 100
  · have hA : Hid (ans = false) := hans.out.trans (by rw [decide_eq_false_iff_not]; exact fun h => hn (by rw [← R.len]; exact h.2.1))
    have hn' : (100 : Int) < (n : Int) := by omega
    go_enter Try.func6, Try.ntmps6
    go_wp2_with (go_at_call 18; refine (hin _ _ _ _).mono ?_; rintro _ _ ⟨rfl, rfl⟩)
    go_ret
    exact ⟨by rw [hA.out]; rfl, S0⟩
  replace hn := Decidable.not_not.1 hn
  have hn' : ¬ (100 : Int) < (n : Int) := by omega
  have hall := okTo_all (now := now) (ts := ts) h0 (by rw [R.len]; exact hn)
  rw [R.len] at hall
  replace hall : Hid _ := hall
  have C0 := Blk.new w #[.int .i64 now, .slice a n cap] 26
  go_enter Try.func6, Try.ntmps6
  go_wp2_with (go_at_call 18; refine (hin _ _ _ _).mono ?_; rintro _ _ ⟨rfl, rfl⟩)
  go_loopw [3] (fun i wr => ∃ (j : Nat), j ≤ n ∧ i = .int .i64 j ∧ Hid (okTo now ts j) ∧ Since w wr ∧ Blk w.heap.size wr #[.int .i64 now, .slice a n cap]) (fun i _ => n - (intOf i).toNat)
  case atStart => exact ⟨0, by omega, rfl, fun j hj => by omega, S0, C0⟩
  case round =>
    obtain ⟨j, hj, rfl, hok, Sr, Cr⟩ := hrel
    have cC0 := Cr.cell 0
    have cC1 := Cr.cell 1
    simp at cC0 cC1
    by_cases hlt : j < n
    · have hlt' : (j : Int) < (n : Int) := by omega
      obtain ⟨x, rfl, hb, q0, q1⟩ := (R.since Sr).tim j hlt
      generalize hO : tAt ts j = O at q0 q1
      have hO' : okTo now ts (j + 1) ↔ okTo now ts j ∧ okT now O ∧ (0 < j → aheadT (tAt ts (j - 1)) O) ∧ ∀ k, k < j → (tAt ts k).1 ≠ O.1 := by
        rw [← hO]
        constructor
        · exact fun h => ⟨fun i hi => h i (by omega), h j (by omega)⟩
        · rintro ⟨h1, h2⟩ i hi
          by_cases e : i = j
          · subst e; exact h2
          · exact h1 i (by omega)
      have hbad : ¬ okTo now ts (j + 1) → ans = false := fun h => hans.out.trans (by
        rw [decide_eq_false_iff_not, hall.out]
        exact fun h' => h (fun i hi => h' i (by omega)))
      replace hO' : Hid _ := hO'
      replace hbad : Hid _ := hbad
      go_wp2_with (fail)
      have hY : Since wr (wr.alloc (.cells #[.int .i64 O.1, .int .i64 O.2] 47)) := (Since.refl _).alloc _
      have TY := Blk.new wr #[.int .i64 O.1, .int .i64 O.2] 47
      have CY := Cr.since hY
      have SY := Sr.trans hY
      have RY := R.since SY
      generalize hYe : wr.alloc (.cells #[.int .i64 O.1, .int .i64 O.2] 47) = Y at hY TY CY SY RY ⊢
      clear hYe
      have t0 : ∀ z : Later Y, z.val.cell? ⟨wr.heap.size, 0, none⟩ = some (.int .i64 O.1) := fun z => (TY.since z.ok).cell 0
      have t1 : ∀ z : Later Y, z.val.cell? ⟨wr.heap.size, 1, none⟩ = some (.int .i64 O.2) := fun z => (TY.since z.ok).cell 1
      have k0 : ∀ z : Later Y, z.val.cell? ⟨w.heap.size, 0, none⟩ = some (.int .i64 now) := fun z => (CY.since z.ok).cell 0
      have k1 : ∀ z : Later Y, z.val.cell? ⟨w.heap.size, 1, none⟩ = some (.slice (some x) n cap) := fun z => (CY.since z.ok).cell 1
      have hw1 : IntKind.i64.wrap (now + 1) = now + 1 := by rw [IntWalk.i64_left]; exact IntWalk.wrap64_in _ ⟨by omega, by omega⟩
      have hinz : ∀ (x a b : Int) (z : Later Y), Calls Try.prog 18 #[.int .i64 x, .int .i64 a, .int .i64 b] z.val fun e w'' => e = .returned (.bool (decide (a ≤ x ∧ x ≤ b))) ∧ ∃ y : Later Y, w'' = y.val := fun x a b z => (specIn x a b z.val).mono fun _ _ ⟨h1, h2⟩ => ⟨h1, z, h2.symm⟩
      have hne : Nonempty (Later Y) := ⟨⟨Y, Since.refl _⟩⟩
      clear hin q0 q1 cC0 cC1
      by_cases hid : ¬ (0 ≤ O.1 ∧ O.1 ≤ 1000000000)
      · have hidd : decide (0 ≤ O.1 ∧ O.1 ≤ 1000000000) = false := by simpa using hid
        have hA : Hid (ans = false) := hbad.out (fun h => hid (hO'.out.1 h).2.1.1)
        refine wp_region_calm (wb := Y) (by kernel_rfl) (by kernel_rfl) (Since.refl _) ?_
        repeat (go_big_quiet_step (exact hinz _ _ _ _))
        refine wpQuiet_nil ?_
        rintro _ ⟨y, rfl⟩
        go_wp2
        go_ret
        exact ⟨by rw [hA.out]; rfl, SY.trans y.ok⟩
      replace hid := Decidable.not_not.1 hid
      have hidd : decide (0 ≤ O.1 ∧ O.1 ≤ 1000000000) = true := by simpa using hid
      by_cases hat : ¬ (now + 1 ≤ O.2 ∧ O.2 ≤ 1000000000)
      · have hatd : decide (now + 1 ≤ O.2 ∧ O.2 ≤ 1000000000) = false := by simpa using hat
        have hA : Hid (ans = false) := hbad.out (fun h => hat (by have := (hO'.out.1 h).2.1.2; omega))
        refine wp_region_calm (wb := Y) (by kernel_rfl) (by kernel_rfl) (Since.refl _) ?_
        repeat (go_big_quiet_step (exact hinz _ _ _ _))
        refine wpQuiet_nil ?_
        rintro _ ⟨y, rfl⟩
        go_wp2
        go_ret
        exact ⟨by rw [hA.out]; rfl, SY.trans y.ok⟩
      replace hat := Decidable.not_not.1 hat
      have hatd : decide (now + 1 ≤ O.2 ∧ O.2 ≤ 1000000000) = true := by simpa using hat
      have hokO : Hid (okT now O) := ⟨hid, by omega, hat.2⟩
      cases j with
      | zero =>
        refine wp_region_calm (wb := Y) (by kernel_rfl) (by kernel_rfl) (Since.refl _) ?_
        repeat (go_big_quiet_step (exact hinz _ _ _ _))
        refine wpQuiet_nil ?_
        rintro _ ⟨y, rfl⟩
        go_wp2
        refine wp_loop_rounds 1 ?_
        rw [rounds_succ]
        go_wp2
        have CZ := CY.since y.ok
        have SZ := SY.trans y.ok
        have hok1 : Hid (okTo now ts (0 + 1)) := hO'.out.2 ⟨hok.out, hokO.out, fun h => by omega, fun k hk => by omega⟩
        go_roundw
        case rel => exact ⟨1, by omega, by go_num, hok1, SZ, CZ⟩
        case measure => simp [intOf]; omega
      | succ jp =>
        obtain ⟨x', e', hbp, p0, p1⟩ := RY.tim jp (by omega)
        cases e'
        generalize hP : tAt ts jp = P at p0 p1
        have xb : (x.add (jp * 2)).block = x.block := add_block _ _
        have p0z : ∀ z : Later Y, z.val.cell? (x.add (jp * 2)) = some (.int .i64 P.1) := fun z => (Below.cell z.ok (p := x.add (jp * 2)) (by rw [xb]; exact hbp)).trans p0
        have p1z : ∀ z : Later Y, z.val.cell? ⟨(x.add (jp * 2)).block, (x.add (jp * 2)).off + 1, none⟩ = some (.int .i64 P.2) := fun z => (Below.cell z.ok (p := ⟨(x.add (jp * 2)).block, (x.add (jp * 2)).off + 1, none⟩) (by show (x.add (jp * 2)).block < _; rw [xb]; exact hbp)).trans p1
        have hahz : ∀ z : Later Y, Calls Try.prog 19 #[.agg #[.int .i64 P.1, .int .i64 P.2], .agg #[.int .i64 O.1, .int .i64 O.2]] z.val fun e w'' => e = .returned (.bool (decide (aheadT P O))) ∧ ∃ y : Later Y, w'' = y.val := fun z => calm_call (aheadTims P O z.val)
        have hj0 : (0 : Int) < (jp : Int) + 1 := by omega
        have hwj : IntKind.i64.wrap ((jp : Int) + 1 - 1) = (jp : Int) := by rw [IntWalk.i64_left, IntWalk.wrap64_in _ ⟨by omega, by omega⟩]; omega
        have hjn : (jp : Int) < (n : Int) := by omega
        clear p0 p1 xb
        by_cases hah : ¬ aheadT P O
        · have hA : Hid (ans = false) := hbad.out (fun h => hah (by
            have h3 := (hO'.out.1 h).2.2.1 (by omega)
            rwa [show jp + 1 - 1 = jp by omega, hP] at h3))
          have hahd : decide (aheadT P O) = false := by simpa using hah
          rw [hahd] at hahz
          clear hahd
          refine wp_region_calm (wb := Y) (by kernel_rfl) (by kernel_rfl) (Since.refl _) ?_
          repeat (go_big_quiet_step (first | exact hinz _ _ _ _ | exact hahz _))
          refine wpQuiet_nil ?_
          rintro _ ⟨y, rfl⟩
          go_wp2
          go_ret
          exact ⟨by rw [hA.out]; rfl, SY.trans y.ok⟩
        replace hah := Decidable.not_not.1 hah
        have hahd : decide (aheadT P O) = true := by simpa using hah
        replace hah : Hid (aheadT P O) := hah
        rw [hahd] at hahz
        clear hahd
        refine wp_region_calm (wb := Y) (by kernel_rfl) (by kernel_rfl) (Since.refl _) ?_
        repeat (go_big_quiet_step (first | exact hinz _ _ _ _ | exact hahz _))
        refine wpQuiet_nil ?_
        rintro _ ⟨y, rfl⟩
        have CZ := CY.since y.ok
        have SZ := SY.trans y.ok
        have TZ := TY.since y.ok
        clear t0 t1 k0 k1 hinz p0z p1z hahz hne hidd hatd hw1
        go_wp2
        go_loopw [5] (fun i wq => ∃ (k : Nat), k ≤ jp + 1 ∧ i = .int .i64 k ∧ Hid (∀ m, m < k → (tAt ts m).1 ≠ O.1) ∧ Since w wq ∧ Blk w.heap.size wq #[.int .i64 now, .slice (some x) n cap] ∧ Blk wr.heap.size wq #[.int .i64 O.1, .int .i64 O.2]) (fun i _ => jp + 1 - (intOf i).toNat)
        case atStart => exact ⟨0, by omega, rfl, fun m hm => by omega, SZ, CZ, TZ⟩
        case round =>
          obtain ⟨k, hk, rfl, hdiff, Sq, Cq, Tq⟩ := hrel
          have d1 := Cq.cell 1
          have d2 := Tq.cell 0
          simp at d1 d2
          by_cases hkl : k < jp + 1
          · have hkl' : (k : Int) < (jp : Int) + 1 := by omega
            have hkn : (k : Int) < (n : Int) := by omega
            obtain ⟨x', e', hbk, r0, _⟩ := (R.since Sq).tim k (by omega)
            cases e'
            generalize hK : tAt ts k = Kt at r0
            by_cases he : Kt.1 = O.1
            · have hA : Hid (ans = false) := hbad.out (fun h => (hO'.out.1 h).2.2.2 k (by omega) (by rw [hK]; exact he))
              rw [he] at r0
              go_wp2
              go_quiet (fail)
              go_wp2
              go_ret
              exact ⟨by rw [hA.out]; rfl, since_drews Sq _⟩
            · have heb : (Kt.1 == O.1) = false := by simpa using he
              have hd2 : Hid (∀ m, m < k + 1 → (tAt ts m).1 ≠ O.1) := fun m hm => by
                by_cases e : m = k
                · subst e; rw [hK]; exact he
                · exact hdiff.out m (by omega)
              go_wp2
              go_quiet (fail)
              go_wp2
              go_roundw
              case rel => exact ⟨k + 1, by omega, by go_num, hd2, since_drews Sq _, Cq.since (since_drews (Since.refl _) _), Tq.since (since_drews (Since.refl _) _)⟩
              case measure => simp [intOf]; omega
          · have hkj : k = jp + 1 := by omega
            subst hkj
            have hok1 : Hid (okTo now ts (jp + 1 + 1)) := hO'.out.2 ⟨hok.out, hokO.out, fun _ => by rw [show jp + 1 - 1 = jp by omega, hP]; exact hah.out, hdiff.out⟩
            go_wp2
            go_roundw
            case rel => exact ⟨jp + 1 + 1, by omega, by go_num, hok1, Sq, Cq⟩
            case measure => simp [intOf]; omega
    · have hjn : j = n := by omega
      subst hjn
      have hA : Hid (ans = true) := hans.out.trans (by rw [decide_eq_true_iff]; exact hall.out.2 hok.out)
      go_wp2
      go_ret
      exact ⟨by rw [hA.out]; rfl, Sr⟩
end Go.Proofs.Ytgdhdeadbmeejaa
