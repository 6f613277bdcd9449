/-
  Contract of spec's NetRun.
-/
import Derived.Test.YthjdcgckonckoaaNetRunI
namespace Go.Proofs.Ythjdcgckonckoaa
open Go.ChangeShapes Go.WideShapes Go.ChangeAt Go.RowKit
set_option linter.unusedVariables false

set_option maxHeartbeats 4000000 in
set_option maxRecDepth 10000 in
theorem specNetRunAny (a : Option Addr) (n cap : Nat) (ss : List ByteArray) (go no : Nat) (os : List Op4) (hn : n ≤ 1048576) (hol : os.length = no) (w : World) (T0 : Reads w a n ss) (hnil : a = none → cap = 0)
    (hops : ∀ wx, Since w wx → ∀ i, i < no → wx.cell? ⟨go, i * 4, none⟩ = some (.int .i64 (opAt os i).k) ∧ wx.cell? ⟨go, i * 4 + 1, none⟩ = some (.int .i64 (opAt os i).a) ∧ wx.cell? ⟨go, i * 4 + 2, none⟩ = some (.int .i64 (opAt os i).h) ∧ wx.cell? ⟨go, i * 4 + 3, none⟩ = some (.int .i64 (opAt os i).t)) (co : Nat) :
    Calls Try.prog 7 #[.agg #[.slice a n cap], .slice (some ⟨go, 0, none⟩) no co] w fun e w' => ∃ v, e = .returned v ∧ Since w w' ∧ IsRan w.heap.size (netRun ss os) w' v := by
  have hss := T0.len
  have W0 : Since w (((w.alloc (.cells #[.slice a n cap] 26)).alloc (.cells #[.slice none 0 0] 26)).alloc (.cells #[] 9)) := (((Since.refl _).alloc _).alloc _).alloc _
  have N := ((Rec1.new w (.slice a n cap) 26).since ((Since.refl _).alloc (.cells #[.slice none 0 0] 26))).since ((Since.refl _).alloc (.cells #[] 9))
  have A := (Rec1.new (w.alloc (.cells #[.slice a n cap] 26)) (.slice none 0 0) 26).since ((Since.refl _).alloc (.cells #[] 9))
  have E := empty_texts ((w.alloc (.cells #[.slice a n cap] 26)).alloc (.cells #[.slice none 0 0] 26))
  simp only [World.size_alloc] at A E
  obtain ⟨r, hr⟩ : ∃ r, Hid (r = netRun ss os) := ⟨_, rfl⟩
  rw [← hr.out]
  go_enter Try.func7, Try.ntmps7
  go_wp2_with (fail)
  refine (specCopy a n cap ss hn hnil _ (T0.since W0)).mono ?_
  rintro _ w1 ⟨g, c0, rfl, T, g1⟩
  have G := W0.trans g1
  replace A := A.since g1
  replace E := E.since g1
  have hlow := T.low
  simp only [World.size_alloc] at hlow
  have hhi := T.lt
  have X := Rec1.new w1 (.slice (some ⟨g, 0, none⟩) n c0) 26
  have kX := (Since.refl w1).alloc (.cells #[.slice (some ⟨g, 0, none⟩) n c0] 26)
  replace G := G.trans kX
  replace A := A.since kX
  replace E := (E.since kX).raise (B' := w.heap.size + 2) (by omega)
  replace T := (T.since kX).raise (B' := w.heap.size + 2) (by omega)
  have hXl := X.lt
  have hel := E.lt
  have hew : w.heap.size + 1 + 1 < w1.heap.size := by omega
  clear W0 N g1 kX T0
  by_cases h1000 : (1000 : Int) < (no : Int)
  · obtain rfl : r = (ss, []) := by
      rw [hr.out]
      unfold netRun
      rw [if_pos (by omega)]
    have cA := A.c0
    have fA := A.fz 0
    go_wp2
    refine bodyPost_ret (v := .tuple #[.agg #[.slice (some ⟨g, 0, none⟩) n c0], .slice (some ⟨w.heap.size + 1 + 1, 0, none⟩) 0 0]) ?_ rfl ⟨_, rfl, since_put1 G (by omega) 0 _, g, n, c0, w.heap.size + 1 + 1, 0, 0, rfl, by omega, (T.other (by omega) 0 _).mono (by omega), (E.other (by omega) 0 _).mono (by omega)⟩
    simp [results, go_sem, cA]
  have hr1 : Hid (r = runTo ss os no) := by
    refine hr.out.trans ?_
    unfold netRun
    rw [if_neg (by omega), hol]
  clear hr hol
  go_wp2_with (fail)
  go_loopw [6, 8] (fun al ix wr => ∃ (j gf m c ga ma ca : Nat), j ≤ no ∧ ix = .int .i64 (j : Int) ∧ al = .slice (some ⟨ga, 0, none⟩) ma ca ∧ gf ≠ ga ∧ gf ≠ w1.heap.size ∧ ga ≠ w1.heap.size ∧ w.heap.size + 2 ≤ gf ∧ w.heap.size + 2 ≤ ga ∧ Rec1 w1.heap.size wr (.slice (some ⟨gf, 0, none⟩) m c) ∧ Texts wr (w.heap.size + 2) gf m c (runTo ss os j).1 ∧ Texts wr (w.heap.size + 2) ga ma ca (runTo ss os j).2 ∧ Rec1 (w.heap.size + 1) wr (.slice none 0 0) ∧ Since w wr) (fun _ ix _ => no - (intOf ix).toNat)
  case atStart => exact ⟨0, g, n, c0, w.heap.size + 1 + 1, 0, 0, by omega, rfl, rfl, by omega, by omega, by omega, by omega, by omega, X, T, E, A, G⟩
  case round =>
    obtain ⟨j, gf, m, c, ga, ma, ca, hj, rfl, rfl, hne, hfX, haX, hlf, hla, Xr, Tf, Ta, Ar, Gr⟩ := hrel
    by_cases hlt : j < no
    · have hlt' : (j : Int) < (no : Int) := by omega
      have hmm : m ≤ 1048576 := by
        rw [← Tf.len]
        exact run_len ss os (by omega) j
      have hmx := came_len ss os j
      rw [Ta.len] at hmx
      obtain ⟨dr, hdr⟩ : ∃ dr, Hid (dr = netDo (runTo ss os j).1 (opAt os j).k (opAt os j).a (opAt os j).h (opAt os j).t) := ⟨_, rfl⟩
      have e1 : Hid (runTo ss os (j + 1) = (dr.1, if dr.2.2 = true then (runTo ss os j).2 ++ [dr.2.1] else (runTo ss os j).2)) := by
        unfold Hid
        rw [hdr.out]
        rfl
      have hop := fun wx h => hops wx h j hlt
      generalize hop0 : opAt os j = op at hop hdr
      clear hop0
      have hXr := Xr.lt
      go_wp2_with (fail)
      refine wp_region_store (wb := wr) 11 (fun i x v => match i with
          | 0 => v = .agg #[.slice (some ⟨gf, 0, none⟩) m c]
          | 1 => v = .slice (some ⟨go, 0, none⟩) no co
          | 2 => v = .int .i64 (j : Int)
          | 3 => v = .pointer (some ⟨go, j * 4, none⟩)
          | 4 => v = .agg #[.int .i64 op.k, .int .i64 op.a, .int .i64 op.h, .int .i64 op.t]
          | 5 => IsDone wr.heap.size dr x v
          | 6 => IsDone wr.heap.size dr x v
          | 7 => SomeNet wr.heap.size dr.1 x v
          | 8 => v = .string dr.2.1
          | 9 => v = .bool dr.2.2
          | 10 => IsBox wr.heap.size x v
          | 11 => True
          | 12 => v = .string dr.2.1
          | 13 => v = .bool dr.2.2
          | _ => True) (fun vals x => Stored wr.heap.size 10 7 vals x) (fun v => { tmps := #[Value.agg #[Value.slice a n cap], Value.slice (some ⟨go, 0, none⟩) no co, Value.pointer (some ⟨w.heap.size, 0, none⟩), undef, Value.pointer (some ⟨w.heap.size + 1, 0, none⟩), Value.slice none 0 0, Value.slice (some ⟨ga, 0, none⟩) ma ca, Value.pointer (some ⟨w1.heap.size, 0, none⟩), Value.int IntKind.i64 (j : Int), v 10, v 12, v 13, Value.slice (some ⟨w.heap.size + 1 + 1, 0, none⟩) 0 0, Value.agg #[Value.slice a n cap], Value.agg #[Value.slice (some ⟨g, 0, none⟩) n c0], Value.slice (some ⟨go, 0, none⟩) no co, Value.int IntKind.i64 (no : Int), Value.bool (decide (1000 < (no : Int))), undef, undef, Value.int IntKind.i64 (j : Int), Value.slice (some ⟨go, 0, none⟩) no co, Value.int IntKind.i64 (no : Int), Value.bool true, u24, u25, v 6, v 0, v 1, v 2, v 3, v 4, v 5, v 7, v 8, v 9, u36, u37, u38, u39, u40, u41, undef, undef], defers := [] }) (by kernel_rfl) (by decide) (by kernel_rfl) (Since.refl _) (fun vals => by kernel_rfl) ?_ ?_ ?_ ?_ ?_ ?_ ?_
      case refine_1 =>
        intro i x x' v h1 h2
        match i, h2 with
        | 5, h2 => exact h2.since h1
        | 6, h2 => exact h2.since h1
        | 7, h2 => exact h2.since h1
        | 10, h2 => exact h2.since h1
        | 0, h2 | 1, h2 | 2, h2 | 3, h2 | 4, h2 | 8, h2 | 9, h2 | 11, h2 | 12, h2 | 13, h2 => exact h2
        | n + 14, _ => trivial
      case refine_2 => exact fun _ _ => trivial
      case refine_3 => exact fun _ _ _ h1 h2 => h2.since h1
      case refine_4 => exact fun _ _ _ h h2 => h2.congr (h _ rfl { on := 10, ground := .data } (by simp) rfl) (h _ rfl { on := 7, ground := .data } (by simp) rfl)
      case refine_5 =>
        repeat (first | exact eachBut_nil | refine eachBut_skip ?_ | refine eachBut_cons ?_ ?_)
        all_goals intro vals x hx hv
        all_goals simp [Region.binds] at hv
        · simp [does, doesUpon, go_sem, hv, Since.refl]
        · simp [does, doesUpon, go_sem, hv, Since.refl]
        · simp [does, doesUpon, go_sem]
          exact ⟨(Since.refl _).alloc _, IsBox.new hx.le⟩
        · obtain ⟨g, m, c, h1, T⟩ := hv
          simp [does, doesUpon, go_sem, h1, Since.refl]
        · obtain ⟨g, m, c, h1, T⟩ := hv
          simp [does, doesUpon, go_sem, h1, Since.refl]
        · obtain ⟨g, m, c, h1, T⟩ := hv
          simp [does, doesUpon, go_sem, h1, Since.refl]
          exact ⟨g, m, c, rfl, T⟩
        · obtain ⟨g, m, c, h1, T⟩ := hv
          simp [does, doesUpon, go_sem, h1, Since.refl]
          exact ⟨g, m, c, rfl, T⟩
        · obtain ⟨h0, h4⟩ := hv
          simp [does, doesUpon, go_sem, h0, h4]
          refine (specNetDo _ gf m c _ op.k op.a op.h op.t hmm _ (Tf.since hx)).mono ?_
          rintro _ x' ⟨g, m, c, rfl, T', h5⟩
          rw [← hdr.out] at T' ⊢
          exact ⟨_, rfl, h5, g, m, c, rfl, T'.mono hx.le⟩
        · obtain ⟨o0, o1, o2, o3⟩ := hop x (Gr.trans hx)
          simp [does, doesUpon, go_sem, hv, o0, o1, o2, o3, Since.refl]
        · obtain ⟨h1, h2⟩ := hv
          simp [does, doesUpon, go_sem, h1, h2, hlt, Since.refl]
        · simp [does, doesUpon, go_sem, Since.refl]
        · simp [does, doesUpon, go_sem, Since.refl]
        · simp [does, doesUpon, go_sem, (Xr.since hx).c0, Since.refl]
      case refine_6 =>
        intro o ho vals x hx hv
        obtain rfl := Option.some.inj ho
        simp [Region.binds] at hv
        have hpb : IsBox wr.heap.size x (vals 10) := by first | exact hv.1 | exact hv.2.1 | exact hv.2.2.1
        have hqb : SomeNet wr.heap.size dr.1 x (vals 7) := by first | exact hv.2.1 | exact hv.1 | exact hv.2.2.1
        obtain ⟨b, u, h9, lb, hb⟩ := hpb
        obtain ⟨g, m, c, h6, T⟩ := hqb
        have hc := (Rec1.of_heap hb).c0
        have hf := (Rec1.of_heap hb).fz 0
        simp [does, doesUpon, go_sem, h9, h6, hc, hf]
        refine ⟨since_put1 hx lb 0 _, ?_, ⟨b, _, h9, h6, lb, box_put hb⟩⟩
        intro j v h2
        match j, h2 with
        | 5, h2 => exact h2.put hb
        | 6, h2 => exact h2.put hb
        | 7, h2 => exact h2.put hb
        | 10, h2 => exact h2.put hb
        | 0, h2 | 1, h2 | 2, h2 | 3, h2 | 4, h2 | 8, h2 | 9, h2 | 11, h2 | 12, h2 | 13, h2 => exact h2
        | n + 14, _ => trivial
      intro vals w5 k5 hv hS
      have h0 : vals 0 = _ := hv 0 (by decide)
      have h1 : vals 1 = _ := hv 1 (by decide)
      have h2 : vals 2 = _ := hv 2 (by decide)
      have h3 : vals 3 = _ := hv 3 (by decide)
      have h4 : vals 4 = _ := hv 4 (by decide)
      have h5 : IsDone wr.heap.size dr w5 (vals 5) := hv 5 (by decide)
      obtain ⟨ga1, ma1, ca1, h5, _⟩ := h5
      have h6 : IsDone wr.heap.size dr w5 (vals 6) := hv 6 (by decide)
      obtain ⟨ga2, ma2, ca2, h6, _⟩ := h6
      have h7 : SomeNet wr.heap.size dr.1 w5 (vals 7) := hv 7 (by decide)
      obtain ⟨g', m', c', h7, T5⟩ := h7
      have h8 : vals 8 = _ := hv 8 (by decide)
      have h9 : vals 9 = _ := hv 9 (by decide)
      have h12 : vals 12 = _ := hv 12 (by decide)
      have h13 : vals 13 = _ := hv 13 (by decide)
      obtain ⟨bY, uY, h10, huY, lbY, hbY⟩ := hS
      rw [h7] at huY
      obtain rfl : uY = .slice (some ⟨g', 0, none⟩) m' c' := by simpa using huY.symm
      clear hv huY
      simp only [h0, h1, h2, h3, h4, h5, h6, h7, h8, h9, h10, h12, h13]
      clear h0 h1 h2 h3 h4 h5 h6 h7 h8 h9 h10 h12 h13 hop
      have hgl := Ta.lt
      have hAl := Ar.lt
      replace Xr := Xr.since k5
      replace Ta := Ta.since k5
      replace Ar := Ar.since k5
      replace Gr := Gr.trans k5
      have Y := Rec1.of_heap hbY
      have cY := Y.c0
      have cX := Xr.c0
      have fX := Xr.fz 0
      have hl5 := T5.low
      have hu5 := T5.lt
      have zr := k5.le
      -- the store into the net's own variable
      have X6 := Xr.put (.slice (some ⟨g', 0, none⟩) m' c')
      have T6 := (T5.other (b := w1.heap.size) (by omega) 0 (.slice (some ⟨g', 0, none⟩) m' c')).raise (B' := w.heap.size + 2) (by omega)
      have Ta6 := Ta.other (b := w1.heap.size) haX 0 (.slice (some ⟨g', 0, none⟩) m' c')
      have A6 := Ar.other (a := w1.heap.size) (by omega) 0 (.slice (some ⟨g', 0, none⟩) m' c')
      have G6 := since_put1 Gr (b := w1.heap.size) (by omega) 0 (.slice (some ⟨g', 0, none⟩) m' c')
      obtain ⟨d1, d2, d3⟩ := dr
      clear hdr Xr T5 Ta Ar Gr
      cases d3
      · go_wp2
        go_roundw
        case rel =>
          refine ⟨j + 1, g', m', c', ga, ma, ca, by omega, by go_num, rfl, by omega, by omega, haX, by omega, hla, X6, ?_, ?_, A6, G6⟩
          · rw [e1.out]; exact T6
          · rw [e1.out]; exact Ta6
        case measure => simp [intOf]; omega
      · have hu6 := T6.lt
        have ha6 := Ta6.lt
        have hx6 := X6.lt
        go_wp2_with (at_builtin; refine app_texts2 rfl _ _ rfl rfl (Ta6.since ((Since.refl _).alloc _)) rfl (one_reads' _ _ _ (by simp)) (by omega) (by simp; omega) ?_)
        intro ga' ca' w7 T7 t7 hw7
        have k7 := (Since.refl (w5.setCell ⟨w1.heap.size, 0, none⟩ (.slice (some ⟨g', 0, none⟩) m' c'))).alloc (.cells #[.string d2] 9)
        try simp only [World.size_setCell] at hw7 hu6 ha6 hx6
        have hl7 := T7.low
        replace X6 := (X6.since k7).touch t7 (by omega)
        replace T6 := (T6.since k7).touch t7 (by omega)
        replace A6 := (A6.since k7).touch t7 (by omega)
        replace G6 := (G6.trans k7).touch t7 (by omega)
        have hn7 : g' ≠ ga' ∧ ga' ≠ w1.heap.size := by omega
        clear hw7
        go_wp2
        go_roundw
        case rel =>
          refine ⟨j + 1, g', m', c', ga', ma + 1, ca', by omega, by go_num, rfl, hn7.1, by omega, hn7.2, by omega, hl7, X6, ?_, ?_, A6, G6⟩
          · rw [e1.out]; exact T6
          · rw [e1.out]; exact T7
        case measure => simp [intOf]; omega
    · have hjn : j = no := by omega
      subst hjn
      obtain rfl := hr1.out
      have cA2 := Ar.c0
      have fA2 := Ar.fz 0
      have cX2 := Xr.c0
      go_wp2
      refine bodyPost_ret (v := .tuple #[.agg #[.slice (some ⟨gf, 0, none⟩) m c], .slice (some ⟨ga, 0, none⟩) ma ca]) ?_ rfl ⟨_, rfl, since_put1 Gr (by omega) 0 _, gf, m, c, ga, ma, ca, rfl, hne, (Tf.other (by omega) 0 _).mono (by omega), (Ta.other (by omega) 0 _).mono (by omega)⟩
      simp [results, go_sem, cA2]

theorem specNetRun (g0 n cap : Nat) (ss : List ByteArray) (B0 go no : Nat) (os : List Op4) (hn : n ≤ 1048576) (hol : os.length = no) (w : World) (T0 : Texts w B0 g0 n cap ss)
    (hops : ∀ wx, Since w wx → ∀ i, i < no → wx.cell? ⟨go, i * 4, none⟩ = some (.int .i64 (opAt os i).k) ∧ wx.cell? ⟨go, i * 4 + 1, none⟩ = some (.int .i64 (opAt os i).a) ∧ wx.cell? ⟨go, i * 4 + 2, none⟩ = some (.int .i64 (opAt os i).h) ∧ wx.cell? ⟨go, i * 4 + 3, none⟩ = some (.int .i64 (opAt os i).t)) (co : Nat) :
    Calls Try.prog 7 #[.agg #[.slice (some ⟨g0, 0, none⟩) n cap], .slice (some ⟨go, 0, none⟩) no co] w fun e w' => ∃ v, e = .returned v ∧ Since w w' ∧ IsRan w.heap.size (netRun ss os) w' v :=
  specNetRunAny _ n cap ss go no os hn hol w T0.reads (by simp) hops co
end Go.Proofs.Ythjdcgckonckoaa
