/-
  Contract of spec's ClockRun.
-/
import Derived.Test.YtgdhdeadbmeejaaRunPure
import Derived.Test.YtgdhdeadbmeejaaClkBox
import Derived.Test.YtgdhdeadbmeejaaTimSpecSet
import Derived.Test.YtgdhdeadbmeejaaTimSpecGo
import Derived.Test.YtgdhdeadbmeejaaWheelPass
namespace Go.Proofs.Ytgdhdeadbmeejaa
open Go.ChangeShapes Go.WideShapes Go.ChangeAt Go.RowKit Go.Deep Go.Sort Go.Maps
set_option linter.unusedVariables false

set_option maxHeartbeats 8000000 in
set_option maxRecDepth 10000 in
theorem specRun (go n co Bo : Nat) (os : List (Int × Int × Int)) (w : World) (R : Held shO w Bo go n co os) :
    Calls Try.prog 31 #[.slice (some ⟨go, 0, none⟩) n co] w fun e w' => ∃ v m g q c, e = .returned (.tuple #[.agg #[.int .i64 (runC os).1, v], .slice (some ⟨g, 0, none⟩) q c]) ∧ Own shT w' w.heap.size v m (runC os).2.1 ∧ Held shI w' w.heap.size g q c (runC os).2.2 ∧ Since w w' := by
  obtain ⟨r, hr⟩ : ∃ r, Hid (r = runC os) := ⟨_, rfl⟩
  rw [← hr.out]
  have hlen := R.1
  have W0 : Since w (((w.alloc (.cells #[.int .i64 0, .slice none 0 0] 26)).alloc (.cells #[.int .i64 0, .slice none 0 0] 26)).alloc (.cells #[] 3)) := (((Since.refl _).alloc _).alloc _).alloc _
  have A := ((Blk.new w #[.int .i64 0, .slice none 0 0] 26).since ((Since.refl _).alloc (.cells #[.int .i64 0, .slice none 0 0] 26))).since ((Since.refl _).alloc (.cells #[] 3))
  have X := (Blk.new (w.alloc (.cells #[.int .i64 0, .slice none 0 0] 26)) #[.int .i64 0, .slice none 0 0] 26).since ((Since.refl _).alloc (.cells #[] 3))
  have E : Held shI (((w.alloc (.cells #[.int .i64 0, .slice none 0 0] 26)).alloc (.cells #[.int .i64 0, .slice none 0 0] 26)).alloc (.cells #[] 3)) _ _ 0 0 [] := Held.empty (S := shI) _
  simp only [World.size_alloc] at A X E
  by_cases hbig : 1000 < n
  · have hre : Hid (r = (0, [], [])) := hr.out.trans (by unfold runC; rw [if_neg (by omega)])
    have hb : (1000 : Int) < (n : Int) := by omega
    go_enter Try.func31, Try.ntmps31
    go_wp2
    refine bodyPost_ret (v := .tuple #[.agg #[.int .i64 0, .slice none 0 0], .slice (some ⟨w.heap.size + 1 + 1, 0, none⟩) 0 0]) ?_ rfl ⟨.slice none 0 0, 0, w.heap.size + 1 + 1, 0, 0, by rw [hre.out], ?_, ?_, ?_⟩
    · simp [results, go_sem]
    · rw [hre.out]; exact Own.nil _ _
    · rw [hre.out]; exact E.raise (by omega)
    · exact W0
  · have hre : Hid (r = runTo os n) := hr.out.trans (by unfold runC; rw [if_pos (by omega), hlen])
    have hb : ¬ (1000 : Int) < (n : Int) := by omega
    have hbig' : n ≤ 1000 := by omega
    have E' := E.raise (B' := w.heap.size + 2) (by omega)
    go_enter Try.func31, Try.ntmps31
    go_wp2_with (fail)
    go_loopw [5, 6] (fun o ix wr => ∃ (j : Nat) (a1 : Option Addr) (m c1 ga q ca : Nat), j ≤ n ∧ ix = .int .i64 (j : Int) ∧ o = .slice (some ⟨ga, 0, none⟩) q ca ∧ Blk (w.heap.size + 1) wr #[.int .i64 (runTo os j).1, .slice a1 m c1] ∧ Own shT wr (w.heap.size + 2) (.slice a1 m c1) m (runTo os j).2.1 ∧ Held shI wr (w.heap.size + 2) ga q ca (runTo os j).2.2 ∧ (a1 = none → c1 = 0) ∧ Blk w.heap.size wr #[.int .i64 0, .slice none 0 0] ∧ Since w wr) (fun _ ix _ => n - (intOf ix).toNat)
    case atStart => exact ⟨0, none, 0, 0, w.heap.size + 1 + 1, 0, 0, by omega, rfl, rfl, X, Own.nil _ _, E', fun _ => rfl, A, W0⟩
    case round =>
      clear A X E E' W0
      obtain ⟨j, a1, m, c1, ga, q, ca, hj, rfl, rfl, Xr, Tf, Ta, hnil, Ar, Gr⟩ := hrel
      by_cases hlt : j < n
      · have hlt' : (j : Int) < (n : Int) := by omega
        have hS0 := runTo_runs os j (by omega)
        have hnx : Hid (runTo os (j + 1) = stepR (runTo os j) (oAt os j)) := runTo_next os j (by omega)
        have hmm : m ≤ 1048576 := by have := hS0.ok.2.1; have h := Tf.1; omega
        have hmx : q ≤ 100000 := by have := hS0.off; have h := Ta.1; omega
        have hop : ∀ x, Since wr x → x.cell? ⟨go, j * 3, none⟩ = some (.int .i64 (oAt os j).1) ∧ x.cell? ⟨go, j * 3 + 1, none⟩ = some (.int .i64 (oAt os j).2.1) ∧ x.cell? ⟨go, j * 3 + 2, none⟩ = some (.int .i64 (oAt os j).2.2) := fun x hx => (R.since (Gr.trans hx)).op j hlt
        clear R
        generalize oAt os j = op at hnx hop
        generalize hs : runTo os j = s at Xr Tf Ta hS0 hnx
        clear hs
        by_cases hk0 : op.1 = 0
        · obtain ⟨d, hd⟩ : ∃ d, Hid (d = setC s.1 s.2.1 op.2.1 op.2.2) := ⟨_, rfl⟩
          have e1 : Hid (runTo os (j + 1) = (s.1, d.1, s.2.2)) := by
            unfold Hid
            rw [hnx.out, hd.out]
            unfold stepR
            rw [if_pos hk0]
          obtain ⟨o0, o1, o2⟩ := hop wr (Since.refl _)
          rw [hk0] at o0
          go_wp2_with (fail)
          refine wp_region_store (wb := wr) 16 (fun i x v => match i with
              | 0 => v = .agg #[.int .i64 s.1, .slice a1 m c1]
              | 1 => v = .slice (some ⟨go, 0, none⟩) n co
              | 2 => v = .int .i64 (j : Int)
              | 3 => v = .pointer (some ⟨go, j * 3, none⟩)
              | 4 => v = .pointer (some ⟨go, j * 3 + 1, none⟩)
              | 5 => v = .int .i64 op.2.1
              | 6 => v = .slice (some ⟨go, 0, none⟩) n co
              | 7 => v = .int .i64 (j : Int)
              | 8 => v = .pointer (some ⟨go, j * 3, none⟩)
              | 9 => v = .pointer (some ⟨go, j * 3 + 2, none⟩)
              | 10 => v = .int .i64 op.2.2
              | 11 => IsAns wr.heap.size s.1 d.1 (.inl d.2) x v
              | 12 => IsAns wr.heap.size s.1 d.1 (.inl d.2) x v
              | 13 => IsClock wr.heap.size s.1 d.1 x v
              | 14 => Beside wr.heap.size (.inl d.2) x v
              | 15 => IsBoxC wr.heap.size x v
              | 16 => True
              | 17 => Beside wr.heap.size (.inl d.2) x v
              | _ => True) (fun vals x => StoredC wr.heap.size 15 13 vals x) (fun v => { tmps := #[Value.slice (some ⟨go, 0, none⟩) n co, undef, Value.pointer (some ⟨w.heap.size, 0, none⟩), Value.slice none 0 0, Value.pointer (some ⟨w.heap.size + 1, 0, none⟩), Value.slice (some ⟨ga, 0, none⟩) q ca, Value.int IntKind.i64 (j : Int), v 15, v 17, u9, u10, u11, u12, Value.agg #[Value.int IntKind.i64 0, Value.slice none 0 0], Value.slice (some ⟨w.heap.size + 1 + 1, 0, none⟩) 0 0, Value.slice (some ⟨go, 0, none⟩) n co, Value.int IntKind.i64 (n : Int), Value.bool false, undef, undef, Value.int IntKind.i64 (j : Int), Value.slice (some ⟨go, 0, none⟩) n co, Value.int IntKind.i64 (n : Int), Value.bool true, u24, u25, Value.slice (some ⟨go, 0, none⟩) n co, Value.int IntKind.i64 (j : Int), Value.pointer (some ⟨go, j * 3, none⟩), Value.pointer (some ⟨go, j * 3, none⟩), Value.int IntKind.i64 0, Value.bool true, Value.bool true, v 12, v 0, v 1, v 2, v 3, v 4, v 5, v 6, v 7, v 8, v 9, v 10, v 11, v 13, v 14, u48, u49, u50, u51, u52, u53, u54, u55, u56, u57, u58, u59, u60, u61, u62, u63, u64, u65, u66, u67, u68, u69, u70, u71, u72, u73, u74, u75, u76, u77, undef, undef], defers := [] }) (by kernel_rfl) (by decide) (by kernel_rfl) (Since.refl _) (fun vals => by kernel_rfl) ?_ ?_ ?_ ?_ ?_ ?_ ?_
          case refine_1 =>
            intro i x x' v h1 h2
            match i, h2 with
            | 11, h2 => exact h2.since h1
            | 12, h2 => exact h2.since h1
            | 13, h2 => exact h2.since h1
            | 14, h2 => exact h2.since h1
            | 15, h2 => exact h2.since h1
            | 17, h2 => exact h2.since h1
            | 0, h2 | 1, h2 | 2, h2 | 3, h2 | 4, h2 | 5, h2 | 6, h2 | 7, h2 | 8, h2 | 9, h2 | 10, h2 | 16, h2 => exact h2
            | n + 18, _ => trivial
          case refine_2 => exact fun _ _ => trivial
          case refine_3 => exact fun _ _ _ h1 h2 => h2.since h1
          case refine_4 => exact fun _ _ _ h h2 => h2.congr (h _ rfl { on := 15, ground := .data } (by simp) rfl) (h _ rfl { on := 13, ground := .data } (by simp) rfl)
          case refine_5 =>
            repeat (first | exact eachBut_nil | refine eachBut_skip ?_ | refine eachBut_cons ?_ ?_)
            all_goals intro vals x hx hv
            all_goals simp [Region.binds] at hv
            · have hb : Beside wr.heap.size (.inl d.2) x (vals 14) := by first | exact hv | exact hv.1 | exact hv.2.1
              simp [does, doesUpon, go_sem, Since.refl]
              exact hb
            · simp [does, doesUpon, go_sem]
              exact ⟨(Since.refl _).alloc _, IsBoxC.new hx.le⟩
            · obtain ⟨c, u, h1, h2, h3⟩ := hv
              simp [does, doesUpon, go_sem, h1, Since.refl]
              exact h3
            · obtain ⟨c, u, h1, h2, h3⟩ := hv
              simp [does, doesUpon, go_sem, h1, Since.refl]
              exact h2
            · have hv2 := hv
              obtain ⟨c, u, h1, h2, h3⟩ := hv
              simp [does, doesUpon, go_sem, Since.refl]
              exact hv2
            · obtain ⟨h0, h5, h10⟩ := hv
              simp [does, doesUpon, go_sem, h0, h5, h10]
              refine (specSet s.1 a1 m c1 s.2.1 op.2.1 op.2.2 x (Tf.since hx).reads hmm hnil).mono ?_
              rintro _ x' ⟨g, m', c', rfl, T', h5⟩
              rw [← hd.out] at T' ⊢
              exact ⟨_, rfl, h5, _, _, rfl, ⟨some ⟨g, 0, none⟩, m', c', rfl, Own.low T' hx.le, fun e => by cases e⟩, rfl⟩
            · obtain ⟨p0, p1, p2⟩ := hop x hx
              simp [does, doesUpon, go_sem, hv, p2, Since.refl]
            · simp [does, doesUpon, go_sem, hv, Since.refl]
            · obtain ⟨h1, h2⟩ := hv
              simp [does, doesUpon, go_sem, h1, h2, hlt, Since.refl]
            · simp [does, doesUpon, go_sem, Since.refl]
            · simp [does, doesUpon, go_sem, Since.refl]
            · obtain ⟨p0, p1, p2⟩ := hop x hx
              simp [does, doesUpon, go_sem, hv, p1, Since.refl]
            · simp [does, doesUpon, go_sem, hv, Since.refl]
            · obtain ⟨h1, h2⟩ := hv
              simp [does, doesUpon, go_sem, h1, h2, hlt, Since.refl]
            · simp [does, doesUpon, go_sem, Since.refl]
            · simp [does, doesUpon, go_sem, Since.refl]
            · have e0 := (Xr.since hx).cell 0
              have e1 := (Xr.since hx).cell 1
              simp at e0 e1
              simp [does, doesUpon, go_sem, e0, e1, Since.refl]
          case refine_6 =>
            intro o ho vals x hx hv
            obtain rfl := Option.some.inj ho
            simp [Region.binds] at hv
            have hpb : IsBoxC wr.heap.size x (vals 15) := by first | exact hv.1 | exact hv.2.1 | exact hv.2.2.1
            have hqb : IsClock wr.heap.size s.1 d.1 x (vals 13) := by first | exact hv.2.1 | exact hv.1 | exact hv.2.2.1
            obtain ⟨b, u0, u1, h9, lb, hb⟩ := hpb
            obtain ⟨a2, m2, c2, h6, T, _⟩ := hqb
            have hc0 := hb.blk.cell 0
            have hc1 := hb.blk.cell 1
            simp at hc0 hc1
            have hf0 := hb.blk.fz 0
            have hf1 := hb.blk.fz 1
            simp [does, doesUpon, go_sem, h9, h6, hc0, hc1, hf0, hf1]
            refine ⟨since_put1 (since_put1 hx lb 0 _) lb 1 _, ?_, ⟨b, _, _, h9, h6, lb, hb.put _ _⟩⟩
            intro j v h2
            match j, h2 with
            | 11, h2 => exact h2.put hb _ _
            | 12, h2 => exact h2.put hb _ _
            | 13, h2 => exact h2.put hb _ _
            | 14, h2 => exact h2.put hb _ _
            | 15, h2 => exact h2.put hb _ _
            | 17, h2 => exact h2.put hb _ _
            | 0, h2 | 1, h2 | 2, h2 | 3, h2 | 4, h2 | 5, h2 | 6, h2 | 7, h2 | 8, h2 | 9, h2 | 10, h2 | 16, h2 => exact h2
            | n + 18, _ => trivial
          intro vals w5 k5 hv hS
          have h0 : vals 0 = _ := hv 0 (by decide)
          have h1 : vals 1 = _ := hv 1 (by decide)
          have h2 : vals 2 = _ := hv 2 (by decide)
          have h3 : vals 3 = _ := hv 3 (by decide)
          have h4 : vals 4 = _ := hv 4 (by decide)
          have h5 : vals 5 = _ := hv 5 (by decide)
          have h6 : vals 6 = _ := hv 6 (by decide)
          have h7 : vals 7 = _ := hv 7 (by decide)
          have h8 : vals 8 = _ := hv 8 (by decide)
          have h9 : vals 9 = _ := hv 9 (by decide)
          have h10 : vals 10 = _ := hv 10 (by decide)
          obtain ⟨t11, u11, h11, _, _⟩ : IsAns wr.heap.size s.1 d.1 (.inl d.2) w5 (vals 11) := hv 11 (by decide)
          obtain ⟨t12, u12, h12, _, _⟩ : IsAns wr.heap.size s.1 d.1 (.inl d.2) w5 (vals 12) := hv 12 (by decide)
          obtain ⟨a', m', c', h13, T5, hnil5⟩ : IsClock wr.heap.size s.1 d.1 w5 (vals 13) := hv 13 (by decide)
          have h14 : vals 14 = .bool d.2 := hv 14 (by decide)
          have h17 : vals 17 = .bool d.2 := hv 17 (by decide)
          obtain ⟨bY, uY, vY, h15, huY, lbY, hbY⟩ := hS
          rw [h13] at huY
          obtain ⟨rfl, rfl⟩ : uY = .int .i64 s.1 ∧ vY = .slice a' m' c' := by simpa [eq_comm] using huY
          clear hv huY
          simp only [h0, h1, h2, h3, h4, h5, h6, h7, h8, h9, h10, h11, h12, h13, h14, h15, h17]
          clear h0 h1 h2 h3 h4 h5 h6 h7 h8 h9 h10 h11 h12 h13 h14 h15 h17 hop o0 o1 o2
          have hAl := Ar.lt
          have hXl := Xr.lt
          have hgl := Ta.lt
          have hga := Ta.low'
          have zr := k5.le
          replace Xr := Xr.since k5
          replace Ta := Ta.since k5
          replace Ar := Ar.since k5
          replace Gr := Gr.trans k5
          have Y := hbY.blk
          have cY0 := Y.cell 0
          have cY1 := Y.cell 1
          have cX0 := Xr.cell 0
          have cX1 := Xr.cell 1
          simp at cY0 cY1 cX0 cX1
          have fX0 := Xr.fz 0
          have fX1 := Xr.fz 1
          have X6 : Blk (w.heap.size + 1) ((w5.setCell ⟨w.heap.size + 1, 0, none⟩ (.int .i64 s.1)).setCell ⟨w.heap.size + 1, 1, none⟩ (.slice a' m' c')) #[.int .i64 s.1, .slice a' m' c'] := (Xr.put 0 _ (by simp)).put 1 _ (by simp)
          have t6 : Touch (w.heap.size + 1) w5 ((w5.setCell ⟨w.heap.size + 1, 0, none⟩ (.int .i64 s.1)).setCell ⟨w.heap.size + 1, 1, none⟩ (.slice a' m' c')) := ((Touch.refl _ w5).put 0 _).put 1 _
          have hT5 : ∀ g, (Value.slice a' m' c').ownBlock = some g → wr.heap.size ≤ g ∧ g < w5.heap.size := fun g e => T5.lt e
          have T6 := (T5.touch t6 (fun e => by have := hT5 _ e; omega)).raise (B' := w.heap.size + 2) (fun g e => by have := hT5 _ e; omega)
          have Ta6 := Ta.touch t6 (by omega)
          have A6 := Ar.touch t6 (by omega)
          have G6 := Gr.touch t6 (by omega)
          clear hd Xr T5 Ta Ar Gr hnx hbY Y t6
          go_wp2
          go_roundw
          case rel =>
            refine ⟨j + 1, a', m', c', ga, q, ca, by omega, by go_num, rfl, ?_, ?_, ?_, hnil5, A6, G6⟩
            · rw [e1.out]; exact X6
            · rw [e1.out]; exact T6
            · rw [e1.out]; exact Ta6
          case measure => simp [intOf]; omega
        have hn0 : (op.1 == 0) = false := by simpa using hk0
        have hm0 : op.1 ≠ 0 := hk0
        clear hk0
        by_cases hk0 : op.1 = 1
        · obtain ⟨d, hd⟩ : ∃ d, Hid (d = stopC s.1 s.2.1 op.2.1) := ⟨_, rfl⟩
          have e1 : Hid (runTo os (j + 1) = (s.1, d.1, s.2.2)) := by
            unfold Hid
            rw [hnx.out, hd.out]
            unfold stepR
            rw [if_neg (by omega), if_pos hk0]
          obtain ⟨o0, o1, o2⟩ := hop wr (Since.refl _)
          rw [hk0] at o0
          go_wp2_with (fail)
          refine wp_region_store (wb := wr) 11 (fun i x v => match i with
              | 0 => v = .agg #[.int .i64 s.1, .slice a1 m c1]
              | 1 => v = .slice (some ⟨go, 0, none⟩) n co
              | 2 => v = .int .i64 (j : Int)
              | 3 => v = .pointer (some ⟨go, j * 3, none⟩)
              | 4 => v = .pointer (some ⟨go, j * 3 + 1, none⟩)
              | 5 => v = .int .i64 op.2.1
              | 6 => IsAns wr.heap.size s.1 d.1 (.inl d.2) x v
              | 7 => IsAns wr.heap.size s.1 d.1 (.inl d.2) x v
              | 8 => IsClock wr.heap.size s.1 d.1 x v
              | 9 => Beside wr.heap.size (.inl d.2) x v
              | 10 => IsBoxC wr.heap.size x v
              | 11 => True
              | 12 => Beside wr.heap.size (.inl d.2) x v
              | _ => True) (fun vals x => StoredC wr.heap.size 10 8 vals x) (fun v => { tmps := #[Value.slice (some ⟨go, 0, none⟩) n co, undef, Value.pointer (some ⟨w.heap.size, 0, none⟩), Value.slice none 0 0, Value.pointer (some ⟨w.heap.size + 1, 0, none⟩), Value.slice (some ⟨ga, 0, none⟩) q ca, Value.int IntKind.i64 (j : Int), u7, u8, v 10, v 12, u11, u12, Value.agg #[Value.int IntKind.i64 0, Value.slice none 0 0], Value.slice (some ⟨w.heap.size + 1 + 1, 0, none⟩) 0 0, Value.slice (some ⟨go, 0, none⟩) n co, Value.int IntKind.i64 (n : Int), Value.bool false, undef, undef, Value.int IntKind.i64 (j : Int), Value.slice (some ⟨go, 0, none⟩) n co, Value.int IntKind.i64 (n : Int), Value.bool true, u24, u25, Value.slice (some ⟨go, 0, none⟩) n co, Value.int IntKind.i64 (j : Int), Value.pointer (some ⟨go, j * 3, none⟩), Value.pointer (some ⟨go, j * 3, none⟩), Value.int IntKind.i64 1, Value.bool false, Value.bool false, u33, u34, u35, u36, u37, u38, u39, u40, u41, u42, u43, u44, u45, u46, u47, u48, Value.bool true, Value.bool true, v 7, v 0, v 1, v 2, v 3, v 4, v 5, v 6, v 8, v 9, u61, u62, u63, u64, u65, u66, u67, u68, u69, u70, u71, u72, u73, u74, u75, u76, u77, undef, undef], defers := [] }) (by kernel_rfl) (by decide) (by kernel_rfl) (Since.refl _) (fun vals => by kernel_rfl) ?_ ?_ ?_ ?_ ?_ ?_ ?_
          case refine_1 =>
            intro i x x' v h1 h2
            match i, h2 with
            | 6, h2 => exact h2.since h1
            | 7, h2 => exact h2.since h1
            | 8, h2 => exact h2.since h1
            | 9, h2 => exact h2.since h1
            | 10, h2 => exact h2.since h1
            | 12, h2 => exact h2.since h1
            | 0, h2 | 1, h2 | 2, h2 | 3, h2 | 4, h2 | 5, h2 | 11, h2 => exact h2
            | n + 13, _ => trivial
          case refine_2 => exact fun _ _ => trivial
          case refine_3 => exact fun _ _ _ h1 h2 => h2.since h1
          case refine_4 => exact fun _ _ _ h h2 => h2.congr (h _ rfl { on := 10, ground := .data } (by simp) rfl) (h _ rfl { on := 8, ground := .data } (by simp) rfl)
          case refine_5 =>
            repeat (first | exact eachBut_nil | refine eachBut_skip ?_ | refine eachBut_cons ?_ ?_)
            all_goals intro vals x hx hv
            all_goals simp [Region.binds] at hv
            · have hb : Beside wr.heap.size (.inl d.2) x (vals 9) := by first | exact hv | exact hv.1 | exact hv.2.1
              simp [does, doesUpon, go_sem, Since.refl]
              exact hb
            · simp [does, doesUpon, go_sem]
              exact ⟨(Since.refl _).alloc _, IsBoxC.new hx.le⟩
            · obtain ⟨c, u, h1, h2, h3⟩ := hv
              simp [does, doesUpon, go_sem, h1, Since.refl]
              exact h3
            · obtain ⟨c, u, h1, h2, h3⟩ := hv
              simp [does, doesUpon, go_sem, h1, Since.refl]
              exact h2
            · have hv2 := hv
              obtain ⟨c, u, h1, h2, h3⟩ := hv
              simp [does, doesUpon, go_sem, Since.refl]
              exact hv2
            · obtain ⟨h0, h5⟩ := hv
              simp [does, doesUpon, go_sem, h0, h5]
              refine (specStop s.1 a1 m c1 s.2.1 op.2.1 x (Tf.since hx).reads hmm hnil).mono ?_
              rintro _ x' ⟨g, m', c', rfl, T', h5⟩
              rw [← hd.out] at T' ⊢
              exact ⟨_, rfl, h5, _, _, rfl, ⟨some ⟨g, 0, none⟩, m', c', rfl, Own.low T' hx.le, fun e => by cases e⟩, rfl⟩
            · obtain ⟨p0, p1, p2⟩ := hop x hx
              simp [does, doesUpon, go_sem, hv, p1, Since.refl]
            · simp [does, doesUpon, go_sem, hv, Since.refl]
            · obtain ⟨h1, h2⟩ := hv
              simp [does, doesUpon, go_sem, h1, h2, hlt, Since.refl]
            · simp [does, doesUpon, go_sem, Since.refl]
            · simp [does, doesUpon, go_sem, Since.refl]
            · have e0 := (Xr.since hx).cell 0
              have e1 := (Xr.since hx).cell 1
              simp at e0 e1
              simp [does, doesUpon, go_sem, e0, e1, Since.refl]
          case refine_6 =>
            intro o ho vals x hx hv
            obtain rfl := Option.some.inj ho
            simp [Region.binds] at hv
            have hpb : IsBoxC wr.heap.size x (vals 10) := by first | exact hv.1 | exact hv.2.1 | exact hv.2.2.1
            have hqb : IsClock wr.heap.size s.1 d.1 x (vals 8) := by first | exact hv.2.1 | exact hv.1 | exact hv.2.2.1
            obtain ⟨b, u0, u1, h9, lb, hb⟩ := hpb
            obtain ⟨a2, m2, c2, h6, T, _⟩ := hqb
            have hc0 := hb.blk.cell 0
            have hc1 := hb.blk.cell 1
            simp at hc0 hc1
            have hf0 := hb.blk.fz 0
            have hf1 := hb.blk.fz 1
            simp [does, doesUpon, go_sem, h9, h6, hc0, hc1, hf0, hf1]
            refine ⟨since_put1 (since_put1 hx lb 0 _) lb 1 _, ?_, ⟨b, _, _, h9, h6, lb, hb.put _ _⟩⟩
            intro j v h2
            match j, h2 with
            | 6, h2 => exact h2.put hb _ _
            | 7, h2 => exact h2.put hb _ _
            | 8, h2 => exact h2.put hb _ _
            | 9, h2 => exact h2.put hb _ _
            | 10, h2 => exact h2.put hb _ _
            | 12, h2 => exact h2.put hb _ _
            | 0, h2 | 1, h2 | 2, h2 | 3, h2 | 4, h2 | 5, h2 | 11, h2 => exact h2
            | n + 13, _ => trivial
          intro vals w5 k5 hv hS
          have h0 : vals 0 = _ := hv 0 (by decide)
          have h1 : vals 1 = _ := hv 1 (by decide)
          have h2 : vals 2 = _ := hv 2 (by decide)
          have h3 : vals 3 = _ := hv 3 (by decide)
          have h4 : vals 4 = _ := hv 4 (by decide)
          have h5 : vals 5 = _ := hv 5 (by decide)
          obtain ⟨t6, u6, h6, _, _⟩ : IsAns wr.heap.size s.1 d.1 (.inl d.2) w5 (vals 6) := hv 6 (by decide)
          obtain ⟨t7, u7, h7, _, _⟩ : IsAns wr.heap.size s.1 d.1 (.inl d.2) w5 (vals 7) := hv 7 (by decide)
          obtain ⟨a', m', c', h8, T5, hnil5⟩ : IsClock wr.heap.size s.1 d.1 w5 (vals 8) := hv 8 (by decide)
          have h9 : vals 9 = .bool d.2 := hv 9 (by decide)
          have h12 : vals 12 = .bool d.2 := hv 12 (by decide)
          obtain ⟨bY, uY, vY, h10, huY, lbY, hbY⟩ := hS
          rw [h8] at huY
          obtain ⟨rfl, rfl⟩ : uY = .int .i64 s.1 ∧ vY = .slice a' m' c' := by simpa [eq_comm] using huY
          clear hv huY
          simp only [h0, h1, h2, h3, h4, h5, h6, h7, h8, h9, h10, h12]
          clear h0 h1 h2 h3 h4 h5 h6 h7 h8 h9 h10 h12 hop o0 o1 o2
          have hAl := Ar.lt
          have hXl := Xr.lt
          have hgl := Ta.lt
          have hga := Ta.low'
          have zr := k5.le
          replace Xr := Xr.since k5
          replace Ta := Ta.since k5
          replace Ar := Ar.since k5
          replace Gr := Gr.trans k5
          have Y := hbY.blk
          have cY0 := Y.cell 0
          have cY1 := Y.cell 1
          have cX0 := Xr.cell 0
          have cX1 := Xr.cell 1
          simp at cY0 cY1 cX0 cX1
          have fX0 := Xr.fz 0
          have fX1 := Xr.fz 1
          have X6 : Blk (w.heap.size + 1) ((w5.setCell ⟨w.heap.size + 1, 0, none⟩ (.int .i64 s.1)).setCell ⟨w.heap.size + 1, 1, none⟩ (.slice a' m' c')) #[.int .i64 s.1, .slice a' m' c'] := (Xr.put 0 _ (by simp)).put 1 _ (by simp)
          have t6 : Touch (w.heap.size + 1) w5 ((w5.setCell ⟨w.heap.size + 1, 0, none⟩ (.int .i64 s.1)).setCell ⟨w.heap.size + 1, 1, none⟩ (.slice a' m' c')) := ((Touch.refl _ w5).put 0 _).put 1 _
          have hT5 : ∀ g, (Value.slice a' m' c').ownBlock = some g → wr.heap.size ≤ g ∧ g < w5.heap.size := fun g e => T5.lt e
          have T6 := (T5.touch t6 (fun e => by have := hT5 _ e; omega)).raise (B' := w.heap.size + 2) (fun g e => by have := hT5 _ e; omega)
          have Ta6 := Ta.touch t6 (by omega)
          have A6 := Ar.touch t6 (by omega)
          have G6 := Gr.touch t6 (by omega)
          clear hd Xr T5 Ta Ar Gr hnx hbY Y t6
          go_wp2
          go_roundw
          case rel =>
            refine ⟨j + 1, a', m', c', ga, q, ca, by omega, by go_num, rfl, ?_, ?_, ?_, hnil5, A6, G6⟩
            · rw [e1.out]; exact X6
            · rw [e1.out]; exact T6
            · rw [e1.out]; exact Ta6
          case measure => simp [intOf]; omega
        have hn1 : (op.1 == 1) = false := by simpa using hk0
        have hm1 : op.1 ≠ 1 := hk0
        clear hk0
        by_cases hk0 : op.1 = 2
        · obtain ⟨d, hd⟩ : ∃ d, Hid (d = goC s.1 s.2.1 op.2.2) := ⟨_, rfl⟩
          have e1 : Hid (runTo os (j + 1) = (d.1, d.2.1, s.2.2 ++ d.2.2)) := by
            unfold Hid
            rw [hnx.out, hd.out]
            unfold stepR
            rw [if_neg (by omega), if_neg (by omega), if_pos hk0]
          obtain ⟨o0, o1, o2⟩ := hop wr (Since.refl _)
          rw [hk0] at o0
          go_wp2_with (fail)
          refine wp_region_store (wb := wr) 11 (fun i x v => match i with
              | 0 => v = .agg #[.int .i64 s.1, .slice a1 m c1]
              | 1 => v = .slice (some ⟨go, 0, none⟩) n co
              | 2 => v = .int .i64 (j : Int)
              | 3 => v = .pointer (some ⟨go, j * 3, none⟩)
              | 4 => v = .pointer (some ⟨go, j * 3 + 2, none⟩)
              | 5 => v = .int .i64 op.2.2
              | 6 => IsAns wr.heap.size d.1 d.2.1 (.inr d.2.2) x v
              | 7 => IsAns wr.heap.size d.1 d.2.1 (.inr d.2.2) x v
              | 8 => IsClock wr.heap.size d.1 d.2.1 x v
              | 9 => Beside wr.heap.size (.inr d.2.2) x v
              | 10 => IsBoxC wr.heap.size x v
              | 11 => True
              | 12 => Beside wr.heap.size (.inr d.2.2) x v
              | _ => True) (fun vals x => StoredC wr.heap.size 10 8 vals x) (fun v => { tmps := #[Value.slice (some ⟨go, 0, none⟩) n co, undef, Value.pointer (some ⟨w.heap.size, 0, none⟩), Value.slice none 0 0, Value.pointer (some ⟨w.heap.size + 1, 0, none⟩), Value.slice (some ⟨ga, 0, none⟩) q ca, Value.int IntKind.i64 (j : Int), u7, u8, u9, u10, v 10, v 12, Value.agg #[Value.int IntKind.i64 0, Value.slice none 0 0], Value.slice (some ⟨w.heap.size + 1 + 1, 0, none⟩) 0 0, Value.slice (some ⟨go, 0, none⟩) n co, Value.int IntKind.i64 (n : Int), Value.bool false, undef, undef, Value.int IntKind.i64 (j : Int), Value.slice (some ⟨go, 0, none⟩) n co, Value.int IntKind.i64 (n : Int), Value.bool true, u24, u25, Value.slice (some ⟨go, 0, none⟩) n co, Value.int IntKind.i64 (j : Int), Value.pointer (some ⟨go, j * 3, none⟩), Value.pointer (some ⟨go, j * 3, none⟩), Value.int IntKind.i64 2, Value.bool false, Value.bool false, u33, u34, u35, u36, u37, u38, u39, u40, u41, u42, u43, u44, u45, u46, u47, u48, Value.bool false, Value.bool false, u51, u52, u53, u54, u55, u56, u57, u58, u59, u60, u61, Value.bool true, Value.bool true, v 7, v 0, v 1, v 2, v 3, v 4, v 5, v 6, v 8, v 9, u74, u75, u76, u77, undef, undef], defers := [] }) (by kernel_rfl) (by decide) (by kernel_rfl) (Since.refl _) (fun vals => by kernel_rfl) ?_ ?_ ?_ ?_ ?_ ?_ ?_
          case refine_1 =>
            intro i x x' v h1 h2
            match i, h2 with
            | 6, h2 => exact h2.since h1
            | 7, h2 => exact h2.since h1
            | 8, h2 => exact h2.since h1
            | 9, h2 => exact h2.since h1
            | 10, h2 => exact h2.since h1
            | 12, h2 => exact h2.since h1
            | 0, h2 | 1, h2 | 2, h2 | 3, h2 | 4, h2 | 5, h2 | 11, h2 => exact h2
            | n + 13, _ => trivial
          case refine_2 => exact fun _ _ => trivial
          case refine_3 => exact fun _ _ _ h1 h2 => h2.since h1
          case refine_4 => exact fun _ _ _ h h2 => h2.congr (h _ rfl { on := 10, ground := .data } (by simp) rfl) (h _ rfl { on := 8, ground := .data } (by simp) rfl)
          case refine_5 =>
            repeat (first | exact eachBut_nil | refine eachBut_skip ?_ | refine eachBut_cons ?_ ?_)
            all_goals intro vals x hx hv
            all_goals simp [Region.binds] at hv
            · have hb : Beside wr.heap.size (.inr d.2.2) x (vals 9) := by first | exact hv | exact hv.1 | exact hv.2.1
              simp [does, doesUpon, go_sem, Since.refl]
              exact hb
            · simp [does, doesUpon, go_sem]
              exact ⟨(Since.refl _).alloc _, IsBoxC.new hx.le⟩
            · obtain ⟨c, u, h1, h2, h3⟩ := hv
              simp [does, doesUpon, go_sem, h1, Since.refl]
              exact h3
            · obtain ⟨c, u, h1, h2, h3⟩ := hv
              simp [does, doesUpon, go_sem, h1, Since.refl]
              exact h2
            · have hv2 := hv
              obtain ⟨c, u, h1, h2, h3⟩ := hv
              simp [does, doesUpon, go_sem, Since.refl]
              exact hv2
            · obtain ⟨h0, h5⟩ := hv
              simp [does, doesUpon, go_sem, h0, h5]
              refine (specGo s.1 a1 m c1 s.2.1 op.2.2 x (Tf.since hx).reads hmm hnil).mono ?_
              rintro _ x' ⟨v', m', g', q', c', rfl, T', Q', h5⟩
              rw [← hd.out] at T' Q' ⊢
              obtain ⟨a', c'', rfl, hn', -⟩ := T'.form
              exact ⟨_, rfl, h5, _, _, rfl, ⟨a', m', c'', rfl, T'.low hx.le, fun e => (hn' e).2⟩, ⟨g', q', c', rfl, Own.low Q' hx.le⟩⟩
            · obtain ⟨p0, p1, p2⟩ := hop x hx
              simp [does, doesUpon, go_sem, hv, p2, Since.refl]
            · simp [does, doesUpon, go_sem, hv, Since.refl]
            · obtain ⟨h1, h2⟩ := hv
              simp [does, doesUpon, go_sem, h1, h2, hlt, Since.refl]
            · simp [does, doesUpon, go_sem, Since.refl]
            · simp [does, doesUpon, go_sem, Since.refl]
            · have e0 := (Xr.since hx).cell 0
              have e1 := (Xr.since hx).cell 1
              simp at e0 e1
              simp [does, doesUpon, go_sem, e0, e1, Since.refl]
          case refine_6 =>
            intro o ho vals x hx hv
            obtain rfl := Option.some.inj ho
            simp [Region.binds] at hv
            have hpb : IsBoxC wr.heap.size x (vals 10) := by first | exact hv.1 | exact hv.2.1 | exact hv.2.2.1
            have hqb : IsClock wr.heap.size d.1 d.2.1 x (vals 8) := by first | exact hv.2.1 | exact hv.1 | exact hv.2.2.1
            obtain ⟨b, u0, u1, h9, lb, hb⟩ := hpb
            obtain ⟨a2, m2, c2, h6, T, _⟩ := hqb
            have hc0 := hb.blk.cell 0
            have hc1 := hb.blk.cell 1
            simp at hc0 hc1
            have hf0 := hb.blk.fz 0
            have hf1 := hb.blk.fz 1
            simp [does, doesUpon, go_sem, h9, h6, hc0, hc1, hf0, hf1]
            refine ⟨since_put1 (since_put1 hx lb 0 _) lb 1 _, ?_, ⟨b, _, _, h9, h6, lb, hb.put _ _⟩⟩
            intro j v h2
            match j, h2 with
            | 6, h2 => exact h2.put hb _ _
            | 7, h2 => exact h2.put hb _ _
            | 8, h2 => exact h2.put hb _ _
            | 9, h2 => exact h2.put hb _ _
            | 10, h2 => exact h2.put hb _ _
            | 12, h2 => exact h2.put hb _ _
            | 0, h2 | 1, h2 | 2, h2 | 3, h2 | 4, h2 | 5, h2 | 11, h2 => exact h2
            | n + 13, _ => trivial
          intro vals w5 k5 hv hS
          have h0 : vals 0 = _ := hv 0 (by decide)
          have h1 : vals 1 = _ := hv 1 (by decide)
          have h2 : vals 2 = _ := hv 2 (by decide)
          have h3 : vals 3 = _ := hv 3 (by decide)
          have h4 : vals 4 = _ := hv 4 (by decide)
          have h5 : vals 5 = _ := hv 5 (by decide)
          obtain ⟨t6, u6, h6, _, _⟩ : IsAns wr.heap.size d.1 d.2.1 (.inr d.2.2) w5 (vals 6) := hv 6 (by decide)
          obtain ⟨t7, u7, h7, _, _⟩ : IsAns wr.heap.size d.1 d.2.1 (.inr d.2.2) w5 (vals 7) := hv 7 (by decide)
          obtain ⟨a', m', c', h8, T5, hnil5⟩ : IsClock wr.heap.size d.1 d.2.1 w5 (vals 8) := hv 8 (by decide)
          obtain ⟨g8, q8, c8, h9, _⟩ : IsInts wr.heap.size d.2.2 w5 (vals 9) := hv 9 (by decide)
          obtain ⟨gl, ql, cl, h12, Q5⟩ : IsInts wr.heap.size d.2.2 w5 (vals 12) := hv 12 (by decide)
          obtain ⟨bY, uY, vY, h10, huY, lbY, hbY⟩ := hS
          rw [h8] at huY
          obtain ⟨rfl, rfl⟩ : uY = .int .i64 d.1 ∧ vY = .slice a' m' c' := by simpa [eq_comm] using huY
          clear hv huY
          simp only [h0, h1, h2, h3, h4, h5, h6, h7, h8, h9, h10, h12]
          clear h0 h1 h2 h3 h4 h5 h6 h7 h8 h9 h10 h12 hop o0 o1 o2
          have hAl := Ar.lt
          have hXl := Xr.lt
          have hgl := Ta.lt
          have hga := Ta.low'
          have zr := k5.le
          replace Xr := Xr.since k5
          replace Ta := Ta.since k5
          replace Ar := Ar.since k5
          replace Gr := Gr.trans k5
          have Y := hbY.blk
          have cY0 := Y.cell 0
          have cY1 := Y.cell 1
          have cX0 := Xr.cell 0
          have cX1 := Xr.cell 1
          simp at cY0 cY1 cX0 cX1
          have fX0 := Xr.fz 0
          have fX1 := Xr.fz 1
          have X6 : Blk (w.heap.size + 1) ((w5.setCell ⟨w.heap.size + 1, 0, none⟩ (.int .i64 d.1)).setCell ⟨w.heap.size + 1, 1, none⟩ (.slice a' m' c')) #[.int .i64 d.1, .slice a' m' c'] := (Xr.put 0 _ (by simp)).put 1 _ (by simp)
          have t6 : Touch (w.heap.size + 1) w5 ((w5.setCell ⟨w.heap.size + 1, 0, none⟩ (.int .i64 d.1)).setCell ⟨w.heap.size + 1, 1, none⟩ (.slice a' m' c')) := ((Touch.refl _ w5).put 0 _).put 1 _
          have hT5 : ∀ g, (Value.slice a' m' c').ownBlock = some g → wr.heap.size ≤ g ∧ g < w5.heap.size := fun g e => T5.lt e
          have T6 := (T5.touch t6 (fun e => by have := hT5 _ e; omega)).raise (B' := w.heap.size + 2) (fun g e => by have := hT5 _ e; omega)
          have Ta6 := Ta.touch t6 (by omega)
          have A6 := Ar.touch t6 (by omega)
          have G6 := Gr.touch t6 (by omega)
          have hlowQ := Q5.low'
          have hltQ := Q5.lt
          have Q6 := Q5.touch t6 (by omega)
          have hql : ql ≤ 100 := by rw [← Q5.1, hd.out]; exact Nat.le_trans (go_off _ _ _) hS0.ok.2.1
          clear hd Xr T5 Ta Ar Gr hnx hbY Y t6 Q5
          go_wp2_with (at_builtin; refine app_held laidI rfl _ _ rfl rfl Ta6 rfl Q6.reads (by unfold maxLen; omega) (by omega) (by simp only [World.size_setCell]; omega) ?_)
          intro g7 c7 w7 T7 t7 hat
          try simp only [World.size_setCell] at hat
          have hl7 := T7.low'
          replace X6 := X6.touch t7 (by omega)
          replace A6 := A6.touch t7 (by omega)
          replace G6 := G6.touch t7 (by omega)
          have hap := Own.apart T6 Ta6 (by decide)
          replace T6 := T6.touch t7 (fun e => hap.elim (fun h => by rw [h] at e; cases e) (fun h => h (by rw [e]; rfl)))
          clear hat Ta6 Q6 hap hT5
          go_wp2
          go_roundw
          case rel =>
            refine ⟨j + 1, a', m', c', g7, q + ql, c7, by omega, by go_num, rfl, ?_, ?_, ?_, hnil5, A6, G6⟩
            · rw [e1.out]; exact X6
            · rw [e1.out]; exact T6
            · rw [e1.out]; exact T7
          case measure => simp [intOf]; omega
        have hn2 : (op.1 == 2) = false := by simpa using hk0
        have hm2 : op.1 ≠ 2 := hk0
        clear hk0
        have e1 : Hid (runTo os (j + 1) = s) := by
          unfold Hid
          rw [hnx.out]
          unfold stepR
          rw [if_neg hm0, if_neg hm1, if_neg hm2]
        obtain ⟨o0, o1, o2⟩ := hop wr (Since.refl _)
        clear hop hm0 hm1 hm2 hnx
        go_wp2
        go_roundw
        case rel =>
          refine ⟨j + 1, a1, m, c1, ga, q, ca, by omega, by go_num, rfl, ?_, ?_, ?_, hnil, Ar, Gr⟩
          · rw [e1.out]; exact Xr
          · rw [e1.out]; exact Tf
          · rw [e1.out]; exact Ta
        case measure => simp [intOf]; omega
      · have hjn : j = n := by omega
        subst hjn
        clear R
        have cA0 := Ar.cell 0
        have cA1 := Ar.cell 1
        have cX0 := Xr.cell 0
        have cX1 := Xr.cell 1
        simp at cA0 cA1 cX0 cX1
        have fA0 := Ar.fz 0
        have fA1 := Ar.fz 1
        have hga := Ta.low'
        rw [← hre.out] at Tf Ta cX0
        go_wp2
        refine bodyPost_ret (v := .tuple #[.agg #[.int .i64 r.1, .slice a1 m c1], .slice (some ⟨ga, 0, none⟩) q ca]) ?_ rfl ⟨.slice a1 m c1, m, ga, q, ca, rfl, ?_, ?_, ?_⟩
        · simp [results, go_sem, cA0, cA1]
        · exact ((Tf.touch (((Touch.refl w.heap.size wr).put 0 _).put 1 _) (fun e => by have := (Tf.lt e).1; omega))).raise (fun g e => by have := (Tf.lt e).1; omega)
        · exact ((Ta.other (by omega) _ _).other (by omega) _ _).raise (by omega)
        · exact since_put1 (since_put1 Gr (by omega) _ _) (by omega) _ _
end Go.Proofs.Ytgdhdeadbmeejaa
