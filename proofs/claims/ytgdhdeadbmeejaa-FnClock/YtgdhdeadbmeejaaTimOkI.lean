/-
  Contracts of slices.IsSortedFunc at timers, of impl's eachOnce and ClockOk, and of both ClockNext.
-/
import Derived.Test.YtgdhdeadbmeejaaTimOk
import Derived.Test.YtgdhdeadbmeejaaDue
namespace Go.Proofs.Ytgdhdeadbmeejaa
open Go.ChangeShapes Go.WideShapes Go.ChangeAt Go.RowKit Go.Deep Go.Sort Go.Maps
set_option linter.unusedVariables false

theorem since_grow {w : World} (q : Nat) (os : Array Obj) : Since w (grow (w.drewN q) os) := by
  refine ⟨rfl, rfl, rfl, by simp [grow, World.drewN], fun k hk => ?_⟩
  show (w.heap ++ os)[k]? = _
  rw [Array.getElem?_append_left hk]

/-- Never one ahead of the one that stands ahead of it, from place i on. -/
def sortedFrom (ts : List (Int × Int)) (n : Nat) (i : Int) : Prop := ∀ m : Nat, i ≤ (m : Int) → m + 1 < n → ¬ aheadT (tAt ts (m + 1)) (tAt ts m)

set_option maxHeartbeats 2000000 in
theorem isSorted (a : Option Addr) (n cap : Nat) (ts : List (Int × Int)) (w : World) (R : Rd shT w a n ts) (hn : n ≤ 100) (ans : Bool) (hans : ans = true ↔ sortedFrom ts n 0) :
    Calls Try.prog 26 #[.slice a n cap, .func (.func 27) #[] #[]] w fun e w' => e = .returned (.bool ans) ∧ Since w w' := by
  replace hans : Hid _ := hans
  go_enter Try.func26, Try.ntmps26
  have hw0 : IntKind.i64.wrap ((n : Int) - 1) = (n : Int) - 1 := by rw [IntWalk.i64_left]; exact IntWalk.wrap64_in _ ⟨by omega, by omega⟩
  go_wp2
  go_loopw [5] (fun v wr => ∃ (i : Int), v = .int .i64 i ∧ -1 ≤ i ∧ i < (n : Int) ∧ Hid (sortedFrom ts n i) ∧ Since w wr) (fun v _ => (intOf v + 1).toNat)
  case atStart => exact ⟨(n : Int) - 1, by simp, by omega, by omega, fun m h1 h2 => by omega, Since.refl _⟩
  case round =>
    obtain ⟨i, rfl, hi0, hi1, hs, Sr⟩ := hrel
    by_cases hpos : 0 < i
    · obtain ⟨jp, rfl⟩ : ∃ jp : Nat, i = (jp : Int) + 1 := ⟨(i - 1).toNat, by omega⟩
      obtain ⟨x, rfl, hb, p0, p1⟩ := (R.since Sr).tim jp (by omega)
      obtain ⟨x', e', hb', q0, q1⟩ := (R.since Sr).tim (jp + 1) (by omega)
      cases e'
      generalize hP : tAt ts jp = P at p0 p1
      generalize hO : tAt ts (jp + 1) = O at q0 q1
      have xb : ∀ j, (x.add j).block = x.block := fun j => add_block _ _
      have hwj : IntKind.i64.wrap ((jp : Int) + 1 - 1) = (jp : Int) := by rw [IntWalk.i64_left, IntWalk.wrap64_in _ ⟨by omega, by omega⟩]; omega
      have hjn : (jp : Int) < (n : Int) := by omega
      have hjn1 : (jp : Int) + 1 < (n : Int) := by omega
      have nn1 : ((jp : Int) + 1).toNat = jp + 1 := by omega
      have hp1 : (0 : Int) ≤ (jp : Int) + 1 := by omega
      go_wp2_with (fail)
      have p0z : ∀ z : Later wr, z.val.cell? (x.add (jp * 2)) = some (.int .i64 P.1) := fun z => (Below.cell z.ok (p := x.add (jp * 2)) (by rw [xb]; exact hb)).trans p0
      have p1z : ∀ z : Later wr, z.val.cell? ⟨(x.add (jp * 2)).block, (x.add (jp * 2)).off + 1, none⟩ = some (.int .i64 P.2) := fun z => (Below.cell z.ok (p := ⟨(x.add (jp * 2)).block, (x.add (jp * 2)).off + 1, none⟩) (by show (x.add (jp * 2)).block < _; rw [xb]; exact hb)).trans p1
      have q0z : ∀ z : Later wr, z.val.cell? (x.add ((jp + 1) * 2)) = some (.int .i64 O.1) := fun z => (Below.cell z.ok (p := x.add ((jp + 1) * 2)) (by rw [xb]; exact hb)).trans q0
      have q1z : ∀ z : Later wr, z.val.cell? ⟨(x.add ((jp + 1) * 2)).block, (x.add ((jp + 1) * 2)).off + 1, none⟩ = some (.int .i64 O.2) := fun z => (Below.cell z.ok (p := ⟨(x.add ((jp + 1) * 2)).block, (x.add ((jp + 1) * 2)).off + 1, none⟩) (by show (x.add ((jp + 1) * 2)).block < _; rw [xb]; exact hb)).trans q1
      have hcz : ∀ z : Later wr, Calls Try.prog 27 #[.agg #[.int .i64 O.1, .int .i64 O.2], .agg #[.int .i64 P.1, .int .i64 P.2]] z.val fun e w'' => e = .returned (.int .i64 (cmpT O P)) ∧ ∃ y : Later wr, w'' = y.val := fun z => calm_call ((compareTimers O P z.val).mono fun e w' ⟨h1, q, os, h2⟩ => ⟨h1, h2 ▸ since_grow q os⟩)
      have hne : Nonempty (Later wr) := ⟨⟨wr, Since.refl _⟩⟩
      clear p0 p1 q0 q1 xb
      have hcmp := cmpT_neg O P
      replace hcmp : Hid _ := hcmp
      generalize cmpT O P = cv at hcz hcmp
      by_cases hc : cv < 0
      · have hA : Hid (ans = false) := by
          cases ans
          · rfl
          · refine absurd (hcmp.out.1 hc) ?_
            have := hans.out.1 rfl jp (by omega) (by omega)
            rwa [hP, hO] at this
        refine wp_region_calm (wb := wr) (by kernel_rfl) (by kernel_rfl) (Since.refl _) ?_
        repeat (go_big_quiet_step (exact hcz _))
        refine wpQuiet_nil ?_
        rintro _ ⟨y, rfl⟩
        go_wp2
        go_ret
        exact ⟨by rw [hA.out]; rfl, Sr.trans y.ok⟩
      · have hs2 : Hid (sortedFrom ts n (jp : Int)) := fun m h1 h2 => by
          by_cases e : m = jp
          · subst e
            rw [hP, hO]
            exact fun h => hc (hcmp.out.2 h)
          · exact hs.out m (by omega) h2
        refine wp_region_calm (wb := wr) (by kernel_rfl) (by kernel_rfl) (Since.refl _) ?_
        repeat (go_big_quiet_step (exact hcz _))
        refine wpQuiet_nil ?_
        rintro _ ⟨y, rfl⟩
        go_wp2
        have S2 := Sr.trans y.ok
        go_roundw
        case rel => exact ⟨(jp : Int), by first | rfl | simp, by omega, by omega, hs2, S2⟩
        case measure => simp [intOf]; omega
    · have hA : Hid (ans = true) := hans.out.2 (fun m h1 h2 => hs.out m (by omega) h2)
      go_wp2
      go_ret
      exact ⟨by rw [hA.out]; rfl, Sr⟩

/-- us are the timers of ts, each Id once. -/
structure OnceOf (ts us : List (Int × Int)) : Prop where
  ids : ∀ y, y ∈ idsOf us ↔ y ∈ idsOf ts
  le : us.length ≤ ts.length
  eq : us.length = ts.length ↔ (idsOf ts).Nodup

theorem OnceOf.nil : OnceOf [] [] := ⟨fun _ => Iff.rfl, Nat.le_refl _, by simp [idsOf]⟩

theorem OnceOf.step {ts us : List (Int × Int)} (h : OnceOf ts us) (hu : (idsOf us).Nodup) (t : Int × Int) : OnceOf (ts ++ [t]) ((t.1, t.2) :: without us t.1) := by
  have hl := length_without hu t.1
  have hids : idsOf (ts ++ [t]) = idsOf ts ++ [t.1] := by simp [idsOf]
  have hnd : (idsOf ts ++ [t.1]).Nodup ↔ (idsOf ts).Nodup ∧ t.1 ∉ idsOf ts := by
    rw [List.nodup_append]
    simp only [List.nodup_cons, List.not_mem_nil, not_false_eq_true, List.nodup_nil, and_self, List.mem_singleton, true_and]
    constructor
    · rintro ⟨h1, h2⟩
      exact ⟨h1, fun hm => h2 _ hm _ rfl rfl⟩
    · rintro ⟨h1, h2⟩
      exact ⟨h1, fun a ha b hb e => h2 (by rw [← hb, ← e]; exact ha)⟩
  refine ⟨fun y => ?_, ?_, ?_⟩
  · rw [hids]
    show y ∈ t.1 :: idsOf (without us t.1) ↔ _
    rw [List.mem_cons, ids_without, h.ids, List.mem_append, List.mem_singleton]
    by_cases e : y = t.1 <;> simp [e]
  · have := h.le
    simp only [List.length_cons, List.length_append, List.length_nil]
    split at hl <;> omega
  · rw [hids, hnd, ← h.eq, ← h.ids]
    have := h.le
    simp only [List.length_cons, List.length_append, List.length_nil]
    by_cases e : t.1 ∈ idsOf us
    · rw [if_pos e] at hl
      simp only [e, not_true_eq_false, and_false, iff_false]
      omega
    · rw [if_neg e] at hl
      simp only [e, not_false_eq_true, and_true]
      omega

theorem take_nextT (ts : List (Int × Int)) (k : Nat) (hk : k < ts.length) : ts.take (k + 1) = ts.take k ++ [tAt ts k] := shT.take_next ts k hk

set_option maxHeartbeats 1000000 in
theorem eachOnce (a : Option Addr) (n cap : Nat) (ts : List (Int × Int)) (w : World) (R : Rd shT w a n ts) (hn : n ≤ 100) (hi : ∀ i, i < n → I64 (tAt ts i).1 ∧ I64 (tAt ts i).2) :
    Calls Try.prog 28 #[.slice a n cap] w fun e w' => e = .returned (.bool (decide ((idsOf ts).Nodup))) ∧ Since w w' := by
  obtain ⟨ans, hans⟩ : ∃ ans, Hid (ans = decide ((idsOf ts).Nodup)) := ⟨_, rfl⟩
  rw [← hans.out]
  have hmm := @run_makeMap Try.prog
  have hlen := R.len
  have D0 := Due.made w
  have S0 : Since w (w.alloc (.map #[] 0)) := (Since.refl _).alloc _
  go_enter Try.func28, Try.ntmps28
  go_wp2
  go_loopw [9] (fun v wr => ∃ (k : Nat) (us : List (Int × Int)), k ≤ n ∧ v = .int .i64 k ∧ Hid (OnceOf (ts.take k) us) ∧ Due wr w.heap.size us ∧ Since w wr) (fun v _ => n - (intOf v).toNat)
  case atStart => exact ⟨0, [], by omega, rfl, by rw [List.take_zero]; exact OnceOf.nil, D0, S0⟩
  case round =>
    obtain ⟨k, us, hk, rfl, hO, Dr, Sr⟩ := hrel
    by_cases hlt : k < n
    · obtain ⟨x, rfl, hb, q0, q1⟩ := (R.since Sr).tim k hlt
      have hT := hO.out.step Dr.once (tAt ts k)
      rw [← take_nextT ts k (by omega)] at hT
      obtain ⟨i1, i2⟩ := hi k hlt
      have hul : us.length < 1000000 := by
        have := hO.out.le
        rw [List.length_take] at this
        omega
      generalize tAt ts k = O at q0 q1 hT i1 i2
      replace hT : Hid _ := hT
      have D1 := Dr.since ((Since.refl wr).alloc (.cells #[.int .i64 O.1, .int .i64 O.2] 47))
      have hlt' : (k : Int) < (n : Int) := by omega
      go_wp2_with (at_mapUpdate; refine due_put rfl _ _ _ rfl D1 hul i1 i2 rfl rfl rfl ?_; intro w1 D2 t2; go_frame)
      have S2 : Since w w1 := Since.touch (Sr.trans ((Since.refl wr).alloc (.cells #[.int .i64 O.1, .int .i64 O.2] 47))) t2 (Nat.le_refl _)
      go_roundw
      case rel => exact ⟨k + 1, _, by omega, by go_num, hT, D2, S2⟩
      case measure => simp [intOf]; omega
    · have hkn : k = n := by omega
      subst hkn
      have hE := hO.out
      rw [List.take_of_length_le (by omega)] at hE
      have hres : Hid (ans = ((us.length : Int) == (k : Int))) := by
        unfold Hid
        rw [hans.out]
        by_cases h : us.length = k
        · have hN := hE.eq.1 (by omega)
          simp [hN, h]
        · have hN : ¬ (idsOf ts).Nodup := fun hh => h (by have := hE.eq.2 hh; omega)
          have h2 : ¬ ((us.length : Int) = (k : Int)) := by omega
          simp [hN, h2]
      have hln := fun ty => Dr.run_len ty
      go_wp2
      go_ret
      exact ⟨by rw [hres.out]; rfl, Sr⟩

theorem okC_iff {now : Int} {ts : List (Int × Int)} {n : Nat} (hl : ts.length = n) (h0 : 0 ≤ now ∧ now ≤ 1000000000) (hn : n ≤ 100) (ha : ∀ i, i < n → okT now (tAt ts i)) : okC now ts ↔ sortedFrom ts n 0 ∧ (idsOf ts).Nodup := by
  unfold okC
  rw [rising_iff, all_iff, hl]
  constructor
  · rintro ⟨_, _, _, h2, h3⟩
    refine ⟨fun m _ hm => ?_, h3⟩
    have := h2 m hm
    unfold aheadT at *
    omega
  · rintro ⟨h1, h2⟩
    refine ⟨h0, hn, ha, fun i hi => ?_, h2⟩
    have h3 := h1 i (by omega) hi
    have h4 : (tAt ts i).1 ≠ (tAt ts (i + 1)).1 := (once_iff ts).1 h2 (i + 1) (by omega) i (by omega)
    unfold aheadT at *
    omega

set_option maxHeartbeats 4000000 in
theorem implClockOk (now : Int) (a : Option Addr) (n cap : Nat) (ts : List (Int × Int)) (w : World) (R : Rd shT w a n ts) :
    Calls Try.prog 10 #[.agg #[.int .i64 now, .slice a n cap]] w fun e w' => e = .returned (.bool (decide (okC now ts))) ∧ Since w w' := by
  obtain ⟨ans, hans⟩ : ∃ ans, Hid (ans = decide (okC now ts)) := ⟨_, rfl⟩
  rw [← hans.out]
  have hit := fun x wx => isTick x wx
  have S0 : Since w (w.alloc (.cells #[.int .i64 now, .slice a n cap] 26)) := (Since.refl _).alloc _
  by_cases h0 : ¬ (0 ≤ now ∧ now ≤ 1000000000)
  · have hA : Hid (ans = false) := hans.out.trans (by rw [decide_eq_false_iff_not]; exact fun h => h0 h.1)
    have hd : decide (0 ≤ now ∧ now ≤ 1000000000) = false := by simpa using h0
    go_enter Try.func10, Try.ntmps10
    go_wp2_with (go_at_call 25; refine (hit _ _).mono ?_; rintro _ _ ⟨rfl, rfl⟩)
    go_ret
    exact ⟨by rw [hA.out]; rfl, S0⟩
  replace h0 := Decidable.not_not.1 h0
  have hd : decide (0 ≤ now ∧ now ≤ 1000000000) = true := by simpa using h0
  by_cases hn : ¬ n ≤ 100
  · have hA : Hid (ans = false) := hans.out.trans (by rw [decide_eq_false_iff_not]; exact fun h => hn (by rw [← R.len]; exact h.2.1))
    have hn' : (100 : Int) < (n : Int) := by omega
    go_enter Try.func10, Try.ntmps10
    go_wp2_with (go_at_call 25; refine (hit _ _).mono ?_; rintro _ _ ⟨rfl, rfl⟩)
    go_ret
    exact ⟨by rw [hA.out]; rfl, S0⟩
  replace hn := Decidable.not_not.1 hn
  have hn' : ¬ (100 : Int) < (n : Int) := by omega
  have hlen := R.len
  have C0 := Blk.new w #[.int .i64 now, .slice a n cap] 26
  go_enter Try.func10, Try.ntmps10
  go_wp2_with (go_at_call 25; refine (hit _ _).mono ?_; rintro _ _ ⟨rfl, rfl⟩)
  go_loopw [18] (fun i wr => ∃ (j : Nat), j ≤ n ∧ i = .int .i64 j ∧ Hid (∀ i, i < j → okT now (tAt ts i)) ∧ Since w wr ∧ Blk w.heap.size wr #[.int .i64 now, .slice a n cap]) (fun i _ => n - (intOf i).toNat)
  case atStart => exact ⟨0, by omega, rfl, fun j hj => by omega, S0, C0⟩
  case round =>
    obtain ⟨j, hj, rfl, hok, Sr, Cr⟩ := hrel
    have cC0 := Cr.cell 0
    have cC1 := Cr.cell 1
    simp at cC0 cC1
    by_cases hlt : j < n
    · have hlt' : (j : Int) < (n : Int) := by omega
      obtain ⟨x, rfl, hb, q0, q1⟩ := (R.since Sr).tim j hlt
      generalize hO : tAt ts j = O at q0 q1
      have hbad : ¬ okT now O → ans = false := fun h => hans.out.trans (by
        rw [decide_eq_false_iff_not]
        intro h'
        refine h ?_
        rw [← hO]
        exact h'.2.2.1 _ (tAt_mem (by omega)))
      replace hbad : Hid _ := hbad
      have hY : Since wr (wr.alloc (.cells #[.int .i64 O.1, .int .i64 O.2] 47)) := (Since.refl _).alloc _
      have CY := Cr.since hY
      have SY := Sr.trans hY
      have cY0 : (wr.alloc (.cells #[.int .i64 O.1, .int .i64 O.2] 47)).cell? ⟨w.heap.size, 0, none⟩ = some (.int .i64 now) := CY.cell 0
      by_cases hid : ¬ (0 ≤ O.1 ∧ O.1 ≤ 1000000000)
      · have hidd : decide (0 ≤ O.1 ∧ O.1 ≤ 1000000000) = false := by simpa using hid
        have hA : Hid (ans = false) := hbad.out (fun h => hid h.1)
        go_wp2_with (go_at_call 25; refine (hit _ _).mono ?_; rintro _ _ ⟨rfl, rfl⟩)
        go_ret
        exact ⟨by rw [hA.out]; rfl, SY⟩
      replace hid := Decidable.not_not.1 hid
      have hidd : decide (0 ≤ O.1 ∧ O.1 ≤ 1000000000) = true := by simpa using hid
      by_cases hat : ¬ (0 ≤ O.2 ∧ O.2 ≤ 1000000000)
      · have hatd : decide (0 ≤ O.2 ∧ O.2 ≤ 1000000000) = false := by simpa using hat
        have hA : Hid (ans = false) := hbad.out (fun h => hat (by have := h.2; omega))
        go_wp2_with (go_at_call 25; refine (hit _ _).mono ?_; rintro _ _ ⟨rfl, rfl⟩)
        go_ret
        exact ⟨by rw [hA.out]; rfl, SY⟩
      replace hat := Decidable.not_not.1 hat
      have hatd : decide (0 ≤ O.2 ∧ O.2 ≤ 1000000000) = true := by simpa using hat
      by_cases hle : O.2 ≤ now
      · have hA : Hid (ans = false) := hbad.out (fun h => by have := h.2; omega)
        go_wp2_with (go_at_call 25; refine (hit _ _).mono ?_; rintro _ _ ⟨rfl, rfl⟩)
        go_ret
        exact ⟨by rw [hA.out]; rfl, SY⟩
      · have hok2 : Hid (∀ i, i < j + 1 → okT now (tAt ts i)) := fun i hi => by
          by_cases e : i = j
          · subst e
            rw [hO]
            exact ⟨hid, by omega, hat.2⟩
          · exact hok.out i (by omega)
        go_wp2_with (go_at_call 25; refine (hit _ _).mono ?_; rintro _ _ ⟨rfl, rfl⟩)
        go_roundw
        case rel => exact ⟨j + 1, by omega, by go_num, hok2, SY, CY⟩
        case measure => simp [intOf]; omega
    · have hjn : j = n := by omega
      subst hjn
      have hiff := okC_iff hlen h0 hn hok.out
      have hi : ∀ i, i < j → I64 (tAt ts i).1 ∧ I64 (tAt ts i).2 := fun i hi => by
        have := hok.out i hi
        unfold okT at this
        exact ⟨i64_of (by omega), i64_of (by omega)⟩
      obtain ⟨srt, hsrt⟩ : ∃ srt : Bool, Hid (srt = true ↔ sortedFrom ts j 0) := by
        by_cases h : sortedFrom ts j 0
        · exact ⟨true, by unfold Hid; simp [h]⟩
        · exact ⟨false, by unfold Hid; simp [h]⟩
      have his := isSorted a j cap ts wr (R.since Sr) hn srt hsrt.out
      have heo := fun wx hx => eachOnce a j cap ts wx (R.since hx) hn hi
      have hres : Hid (ans = (srt && decide ((idsOf ts).Nodup))) := by
        unfold Hid
        rw [hans.out, Bool.eq_iff_iff, decide_eq_true_iff, hiff, Bool.and_eq_true, hsrt.out, decide_eq_true_iff]
      clear R hi hok hiff hsrt hit
      generalize decide ((idsOf ts).Nodup) = nd at heo hres
      replace heo : Hid _ := heo
      cases srt
      · go_wp2_with (go_at_call 26; refine his.mono ?_; rintro _ w1 ⟨rfl, g1⟩)
        go_ret
        exact ⟨by rw [hres.out]; rfl, Sr.trans g1⟩
      · go_wp2_with (first | (go_at_call 26; refine his.mono ?_; rintro _ w1 ⟨rfl, g1⟩; have C1 := Cr.since g1; have d1 := C1.cell 1; simp at d1) | (go_at_call 28; refine (heo.out _ (Sr.trans g1)).mono ?_; rintro _ w2 ⟨rfl, g2⟩))
        go_ret
        exact ⟨by rw [hres.out]; simp, (Sr.trans g1).trans g2⟩

end Go.Proofs.Ytgdhdeadbmeejaa
