/-
  Contract of impl's ClockRun.
-/
import Derived.Test.YtcclgcdghnmdfaaRunPure
import Derived.Test.YtcclgcdghnmdfaaTimImpl
import Derived.Test.YtcclgcdghnmdfaaWheelPass
namespace Go.Proofs.Ytcclgcdghnmdfaa
open Go.ChangeShapes Go.WideShapes Go.ChangeAt Go.RowKit Go.Deep Go.Sort Go.Maps
set_option linter.unusedVariables false

theorem Run.touch {w w' : World} {B b N B' g n cap : Nat} {now : Int} {ts : List (Int × Int)} {ns : List Int} (R : Run w B b now ts N) (F : Held shI w B' g n cap ns) (t : Touch g w w') : Run w' B b now ts N := by
  obtain ⟨bm, vs, rows, W, D, P, hS, hN⟩ := R.ex
  obtain ⟨a1, a2, a3⟩ := W.apartI D F
  exact ⟨R.ok, Nat.le_trans R.base t.size, bm, vs, rows, W.touch t (Ne.symm a1) (fun i hi => a3 i hi), D.touch t (Ne.symm a2), P, hS, hN⟩

theorem Run.more {w : World} {B b N M : Nat} {now : Int} {ts : List (Int × Int)} (R : Run w B b now ts N) (h : N ≤ M) : Run w B b now ts M := by
  obtain ⟨bm, vs, rows, W, D, P, hS, hN⟩ := R.ex
  exact ⟨R.ok, R.base, bm, vs, rows, W, D, P, hS, Nat.le_trans hN h⟩

theorem Held.mine {w w' : World} {B B' g n cap : Nat} {ns : List Int} (h : Held shI w B' g n cap ns) (f : Far (Mine B w) w w') : Held shI w' B' g n cap ns := h.far f (fun m => by
  obtain ⟨cur, h3, _⟩ := h.heap
  exact m.2 ⟨cur, h3⟩)

set_option maxHeartbeats 8000000 in
set_option maxRecDepth 10000 in
theorem implRun (go n co Bo : Nat) (os : List (Int × Int × Int)) (w : World) (R : Held shO w Bo go n co os) (hwf : ∀ i, i < n → I64 (oAt os i).2.1) :
    Calls Try.prog 30 #[.slice (some ⟨go, 0, none⟩) n co] w fun e w' => ∃ v m g q c, e = .returned (.tuple #[.agg #[.int .i64 (runC os).1, v], .slice (some ⟨g, 0, none⟩) q c]) ∧ Own shT w' w.heap.size v m (runC os).2.1 ∧ Held shI w' w.heap.size g q c (runC os).2.2 ∧ (if n ≤ 1000 then ∃ g' c', v = .slice (some ⟨g', 0, none⟩) m c' else v = .slice none 0 0 ∧ m = 0) ∧ Since w w' := by
  obtain ⟨r, hr⟩ : ∃ r, Hid (r = runC os) := ⟨_, rfl⟩
  rw [← hr.out]
  have hlen := R.1
  have W0 : Since w ((w.alloc (.cells #[.int .i64 0, .slice none 0 0] 29)).alloc (.cells #[] 3)) := ((Since.refl _).alloc _).alloc _
  have A := (Blk.new w #[.int .i64 0, .slice none 0 0] 29).since ((Since.refl _).alloc (.cells #[] 3))
  have E : Held shI ((w.alloc (.cells #[.int .i64 0, .slice none 0 0] 29)).alloc (.cells #[] 3)) _ _ 0 0 [] := Held.empty (S := shI) _
  simp only [World.size_alloc] at A E
  by_cases hbig : 1000 < n
  · have hre : Hid (r = (0, [], [])) := hr.out.trans (by unfold runC; rw [if_neg (by omega)])
    have hb : (1000 : Int) < (n : Int) := by omega
    go_enter Try.func30, Try.ntmps30
    go_wp2
    refine bodyPost_ret (v := .tuple #[.agg #[.int .i64 0, .slice none 0 0], .slice (some ⟨w.heap.size + 1, 0, none⟩) 0 0]) ?_ rfl ⟨.slice none 0 0, 0, w.heap.size + 1, 0, 0, by rw [hre.out], ?_, ?_, ⟨rfl, rfl⟩, ?_⟩
    · simp [results, go_sem]
    · rw [hre.out]; exact Own.nil _ _
    · rw [hre.out]; exact E.raise (by omega)
    · exact W0
  · have hre : Hid (r = runTo os n) := hr.out.trans (by unfold runC; rw [if_pos (by omega), hlen])
    have hb : ¬ (1000 : Int) < (n : Int) := by omega
    have hbig' : n ≤ 1000 := by omega
    go_enter Try.func30, Try.ntmps30
    go_wp2_with (fail)
    refine (wheelsOf 0 none 0 0 [] _ ⟨rfl, Nat.zero_le _, fun i hi => by omega⟩ Runs.start.ok).mono ?_
    rintro _ w3 ⟨b, bm, vs, rows, rfl, W, D, P, ht, hS, k3⟩
    have hk3 := k3.le
    simp only [World.size_alloc] at W hk3
    have R3 : Run w3 (w.heap.size + 1 + 1) b 0 [] 100 := runOf Runs.start.ok (by omega) W D P ht hS
    clear W D P ht hS
    replace A := A.since k3
    replace E := E.since k3
    replace W0 := W0.trans k3
    clear k3
    go_wp2_with (fail)
    go_loopw [4, 18] (fun o ix wr => ∃ (j ga q ca : Nat), j ≤ n ∧ ix = .int .i64 (j : Int) ∧ o = .slice (some ⟨ga, 0, none⟩) q ca ∧ Run wr (w.heap.size + 1 + 1) b (runTo os j).1 (runTo os j).2.1 (100 + j) ∧ Held shI wr (w.heap.size + 1) ga q ca (runTo os j).2.2 ∧ Blk w.heap.size wr #[.int .i64 0, .slice none 0 0] ∧ Since w wr) (fun _ ix _ => n - (intOf ix).toNat)
    case atStart => exact ⟨0, w.heap.size + 1, 0, 0, by omega, rfl, rfl, R3, E, A, W0⟩
    case round =>
      clear A E W0 R3
      obtain ⟨j, ga, q, ca, hj, rfl, rfl, Rr, Ta, Ar, Gr⟩ := hrel
      by_cases hlt : j < n
      · have hlt' : (j : Int) < (n : Int) := by omega
        have hS0 := runTo_runs os j (by omega)
        have hnx : Hid (runTo os (j + 1) = stepR (runTo os j) (oAt os j)) := runTo_next os j (by omega)
        have hmx : q ≤ 100000 := by have := hS0.off; have h := Ta.1; omega
        obtain ⟨o0, o1, o2⟩ := (R.since Gr).op j hlt
        have hid := hwf j hlt
        clear R hwf
        generalize oAt os j = op at hnx o0 o1 o2 hid
        generalize hs : runTo os j = s at Rr Ta hS0 hnx
        clear hs
        have ka := (Since.refl wr).alloc (.cells #[.int .i64 op.1, .int .i64 op.2.1, .int .i64 op.2.2] 73)
        have V := Blk.new wr #[.int .i64 op.1, .int .i64 op.2.1, .int .i64 op.2.2] 73
        have Ra := Rr.since ka
        have Ta' := Ta.since ka
        have Ar' := Ar.since ka
        have Gr' := Gr.trans ka
        have hbs := Rr.base
        have hal := Ar.lt
        by_cases hk0 : op.1 = 0
        · obtain ⟨d, hd⟩ : ∃ d, Hid (d = setC s.1 s.2.1 op.2.1 op.2.2) := ⟨_, rfl⟩
          have e1 : Hid (runTo os (j + 1) = (s.1, d.1, s.2.2)) := by
            unfold Hid
            rw [hnx.out, hd.out]
            unfold stepR
            rw [if_pos hk0]
          rw [hk0] at o0 ka V Ra Ta' Ar' Gr'
          clear hnx Rr Ta Ar Gr
          have hcall := (setWM Ra (by omega) op.2.1 op.2.2 hid)
          rw [← hd.out] at hcall
          go_wp2_with (fail)
          refine hcall.mono ?_
          rintro _ w4 ⟨rfl, R4, F4⟩
          have T4 := Ta'.mine F4
          replace F4 : Far (fun k => w.heap.size + 1 + 1 ≤ k) _ w4 := F4.mono fun _ h => h.1
          have A4 := Ar'.far F4 (by omega)
          have G4 := F4.before w Gr' (by omega)
          have hsz4 := F4.size
          try simp only [World.size_alloc] at hsz4
          clear hcall Ra Ta' Ar' Gr' F4 V ka
          go_wp2
          go_roundw
          case rel =>
            refine ⟨j + 1, ga, q, ca, by omega, by go_num, rfl, ?_, ?_, A4, G4⟩
            · rw [e1.out]; exact R4.more (by omega)
            · rw [e1.out]; exact T4
          case measure => simp [intOf]; omega
        have hn0 : (op.1 == 0) = false := by simpa using hk0
        have hm0 : op.1 ≠ 0 := hk0
        clear hk0
        by_cases hk0 : op.1 = 1
        · obtain ⟨d, hd⟩ : ∃ d, Hid (d = stopC s.1 s.2.1 op.2.1) := ⟨_, rfl⟩
          have e1 : Hid (runTo os (j + 1) = (s.1, d.1, s.2.2)) := by
            unfold Hid
            rw [hnx.out, hd.out]
            unfold stepR
            rw [if_neg (by omega), if_pos hk0]
          rw [hk0] at o0 ka V Ra Ta' Ar' Gr'
          clear hnx Rr Ta Ar Gr
          have hcall := (stopWM Ra op.2.1 hid)
          rw [← hd.out] at hcall
          go_wp2_with (fail)
          refine hcall.mono ?_
          rintro _ w4 ⟨rfl, R4, F4⟩
          have T4 := Ta'.mine F4
          replace F4 : Far (fun k => w.heap.size + 1 + 1 ≤ k) _ w4 := F4.mono fun _ h => h.1
          have A4 := Ar'.far F4 (by omega)
          have G4 := F4.before w Gr' (by omega)
          have hsz4 := F4.size
          try simp only [World.size_alloc] at hsz4
          clear hcall Ra Ta' Ar' Gr' F4 V ka
          go_wp2
          go_roundw
          case rel =>
            refine ⟨j + 1, ga, q, ca, by omega, by go_num, rfl, ?_, ?_, A4, G4⟩
            · rw [e1.out]; exact R4.more (by omega)
            · rw [e1.out]; exact T4
          case measure => simp [intOf]; omega
        have hn1 : (op.1 == 1) = false := by simpa using hk0
        have hm1 : op.1 ≠ 1 := hk0
        clear hk0
        by_cases hk0 : op.1 = 2
        · obtain ⟨d, hd⟩ : ∃ d, Hid (d = goC s.1 s.2.1 op.2.2) := ⟨_, rfl⟩
          have e1 : Hid (runTo os (j + 1) = (d.1, d.2.1, s.2.2 ++ d.2.2)) := by
            unfold Hid
            rw [hnx.out, hd.out]
            unfold stepR
            rw [if_neg (by omega), if_neg (by omega), if_pos hk0]
          rw [hk0] at o0 ka V Ra Ta' Ar' Gr'
          clear hnx Rr Ta Ar Gr
          have hcall := (passWM Ra (by omega) op.2.2)
          rw [← hd.out] at hcall
          go_wp2_with (fail)
          refine hcall.mono ?_
          rintro _ w4 ⟨gq, qq, cq, rfl, Q4, R4, F4⟩
          have T4 := Ta'.mine F4
          replace F4 : Far (fun k => w.heap.size + 1 + 1 ≤ k) _ w4 := F4.mono fun _ h => h.1
          have A4 := Ar'.far F4 (by omega)
          have G4 := F4.before w Gr' (by omega)
          have hsz4 := F4.size
          try simp only [World.size_alloc] at hsz4
          clear hcall Ra Ta' Ar' Gr' F4 V ka
          have hql : qq ≤ 100 := by rw [← Q4.1, hd.out]; exact Nat.le_trans (go_off _ _ _) hS0.ok.2.1
          have hlo4 := T4.low'
          go_wp2_with (at_builtin; refine app_held laidI rfl _ _ rfl rfl T4 rfl Q4.reads (by unfold maxLen; omega) (by omega) (by omega) ?_)
          intro g7 c7 w7 T7 t7 hat
          have R7 := R4.touch T4 t7
          have A7 := A4.touch t7 (by omega)
          have G7 := G4.touch t7 (by omega)
          clear R4 T4 A4 G4 Q4 t7 hat
          go_wp2
          go_roundw
          case rel =>
            refine ⟨j + 1, g7, q + qq, c7, by omega, by go_num, rfl, ?_, ?_, A7, G7⟩
            · rw [e1.out]; exact R7.more (by omega)
            · rw [e1.out]; exact T7
          case measure => simp [intOf]; omega
        have hn2 : (op.1 == 2) = false := by simpa using hk0
        have hm2 : op.1 ≠ 2 := hk0
        clear hk0
        have e1 : Hid (runTo os (j + 1) = s) := by
          unfold Hid
          rw [hnx.out]
          unfold stepR
          rw [if_neg hm0, if_neg hm1, if_neg hm2]
        clear hm0 hm1 hm2 hnx Rr Ta Ar Gr
        go_wp2
        go_roundw
        case rel =>
          refine ⟨j + 1, ga, q, ca, by omega, by go_num, rfl, ?_, ?_, Ar', Gr'⟩
          · rw [e1.out]; exact Ra.more (by omega)
          · rw [e1.out]; exact Ta'
        case measure => simp [intOf]; omega
      · have hjn : j = n := by omega
        subst hjn
        clear R hwf
        rw [← hre.out] at Rr Ta
        go_wp2_with (fail)
        refine (clockW Rr).mono ?_
        rintro _ w5 ⟨g, m, c, rfl, T5, k5⟩
        replace Ar := Ar.since k5
        replace Ta := Ta.since k5
        replace Gr := Gr.trans k5
        have cA0 := Ar.cell 0
        have cA1 := Ar.cell 1
        simp at cA0 cA1
        have fA0 := Ar.fz 0
        have fA1 := Ar.fz 1
        have hga := Ta.low'
        have hg5 := T5.low'
        have hbs := Rr.base
        go_wp2
        refine bodyPost_ret (v := .tuple #[.agg #[.int .i64 r.1, .slice (some ⟨g, 0, none⟩) m c], .slice (some ⟨ga, 0, none⟩) q ca]) ?_ rfl ⟨.slice (some ⟨g, 0, none⟩) m c, m, ga, q, ca, rfl, ?_, ?_, ⟨g, c, rfl⟩, ?_⟩
        · simp [results, go_sem, cA0, cA1]
        · exact ((T5.other (by omega) _ _).other (by omega) _ _).raise (by omega)
        · exact ((Ta.other (by omega) _ _).other (by omega) _ _).raise (by omega)
        · exact since_put1 (since_put1 Gr (by omega) _ _) (by omega) _ _
end Go.Proofs.Ytcclgcdghnmdfaa
