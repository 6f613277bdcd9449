/-
  Contract of impl's NetRun.
-/
import Derived.Test.YthjdcgckonckoaaNetRun
namespace Go.Proofs.Ythjdcgckonckoaa
open Go.ChangeShapes Go.WideShapes Go.ChangeAt Go.RowKit
set_option linter.unusedVariables false

/-- The two lists that NetRun answers. -/
def IsRan (B : Nat) (r : List ByteArray × List ByteArray) (x : World) (v : Value) : Prop := ∃ g m c ga ma ca, v = .tuple #[.agg #[.slice (some ⟨g, 0, none⟩) m c], .slice (some ⟨ga, 0, none⟩) ma ca] ∧ g ≠ ga ∧ Texts x B g m c r.1 ∧ Texts x B ga ma ca r.2

set_option maxHeartbeats 2000000 in
set_option maxRecDepth 10000 in
theorem implNetRun (a : Option Addr) (n cap : Nat) (ss : List ByteArray) (go no : Nat) (os : List Op4) (hn : n ≤ 1048576) (hsm : ∀ i, i < n → (txt ss i).size ≤ 1048576) (hol : os.length = no) (w : World) (R : Reads w a n ss)
    (hops : ∀ wx, Since w wx → ∀ i, i < no → wx.cell? ⟨go, i * 4, none⟩ = some (.int .i64 (opAt os i).k) ∧ wx.cell? ⟨go, i * 4 + 1, none⟩ = some (.int .i64 (opAt os i).a) ∧ wx.cell? ⟨go, i * 4 + 2, none⟩ = some (.int .i64 (opAt os i).h) ∧ wx.cell? ⟨go, i * 4 + 3, none⟩ = some (.int .i64 (opAt os i).t))
    (hok : ∀ wx, Since w wx → Calls Try.prog 8 #[.agg #[.slice a n cap]] wx fun e w' => e = .returned (.bool (netOk ss)) ∧ Since wx w') (co : Nat) :
    Calls Try.prog 6 #[.agg #[.slice a n cap], .slice (some ⟨go, 0, none⟩) no co] w fun e w' => ∃ v, e = .returned v ∧ Since w w' ∧ IsRan w.heap.size (netRun ss os) w' v := by
  have G : Since w ((w.alloc (.cells #[.slice a n cap] 26)).alloc (.cells #[.slice none 0 0] 26)) := ((Since.refl _).alloc _).alloc _
  have N := (Rec1.new w (.slice a n cap) 26).since ((Since.refl _).alloc (.cells #[.slice none 0 0] 26))
  have A := Rec1.new (w.alloc (.cells #[.slice a n cap] 26)) (.slice none 0 0) 26
  simp only [World.size_alloc] at A
  obtain ⟨r, hr⟩ : ∃ r, Hid (r = netRun ss os) := ⟨_, rfl⟩
  rw [← hr.out]
  go_enter Try.func6, Try.ntmps6
  go_wp2_with (fail)
  refine (freshTexts a n cap ss hn hsm _ (R.since G)).mono ?_
  rintro _ w1 ⟨g, rfl, T, g1⟩
  replace G := G.trans g1
  replace N := N.since g1
  replace A := A.since g1
  have hlow := T.low
  simp only [World.size_alloc] at hlow
  have cN := N.c0
  go_wp2_with (fail)
  refine (hok _ G).mono ?_
  rintro _ w3 ⟨rfl, k3⟩
  replace G := G.trans k3
  replace A := A.since k3
  replace T := (T.since k3).raise (B' := w.heap.size) (by omega)
  have hgl := T.lt
  clear R hok N cN g1 k3 hsm
  have hAl := A.lt
  have cA0 := A.c0
  have fA0 := A.fz 0
  have E := (empty_texts w3).raise (B' := w.heap.size) G.le
  have kE := (Since.refl w3).alloc (.cells #[] 9)
  have GE := G.trans kE
  have AE := A.since kE
  have TE := T.since kE
  have kS := (Since.refl (w3.setCell ⟨w.heap.size + 1, 0, none⟩ (.slice (some ⟨g, 0, none⟩) n n))).alloc (.cells #[] 9)
  have GS := (since_put1 G (b := w.heap.size + 1) (by omega) 0 (.slice (some ⟨g, 0, none⟩) n n)).trans kS
  have cS := ((A.put (.slice (some ⟨g, 0, none⟩) n n)).since kS).c0
  have early : r = (ss, []) → IsRan w.heap.size r ((w3.setCell ⟨w.heap.size + 1, 0, none⟩ (.slice (some ⟨g, 0, none⟩) n n)).alloc (.cells #[] 9)) (.tuple #[.agg #[.slice (some ⟨g, 0, none⟩) n n], .slice (some ⟨w3.heap.size, 0, none⟩) 0 0]) := fun h => by
    subst h
    have E2 := empty_texts (w3.setCell ⟨w.heap.size + 1, 0, none⟩ (.slice (some ⟨g, 0, none⟩) n n))
    rw [World.size_setCell] at E2
    exact ⟨g, n, n, w3.heap.size, 0, 0, rfl, by omega, (T.other (by omega) 0 _).since kS, E2.raise (by omega)⟩
  replace early : Hid _ := early
  cases hb : netOk ss
  · have hr0 : r = (ss, []) := by
      rw [hr.out]
      unfold netRun
      split
      · rfl
      · exact run_not ss os hb _
    have hE := early.out hr0
    clear early hr
    go_wp2
    refine bodyPost_ret (v := .tuple #[.agg #[.slice (some ⟨g, 0, none⟩) n n], .slice (some ⟨w3.heap.size, 0, none⟩) 0 0]) ?_ rfl ⟨_, rfl, GS, hE⟩
    simp [results, go_sem, cS]
  by_cases h1000 : (1000 : Int) < (no : Int)
  · have hr0 : r = (ss, []) := by
      rw [hr.out]
      unfold netRun
      rw [if_pos (by omega)]
    have hE := early.out hr0
    clear early hr
    go_wp2
    refine bodyPost_ret (v := .tuple #[.agg #[.slice (some ⟨g, 0, none⟩) n n], .slice (some ⟨w3.heap.size, 0, none⟩) 0 0]) ?_ rfl ⟨_, rfl, GS, hE⟩
    simp [results, go_sem, cS]
  have hr1 : Hid (r = runTo ss os no) := by
    refine hr.out.trans ?_
    unfold netRun
    rw [if_neg (by omega), hol]
  clear early hr hol
  go_wp2
  go_loopw [6, 7, 30] (fun fl al ix wr => ∃ (j gf m c ga ma ca : Nat), j ≤ no ∧ ix = .int .i64 (j : Int) ∧ fl = .slice (some ⟨gf, 0, none⟩) m c ∧ al = .slice (some ⟨ga, 0, none⟩) ma ca ∧ gf ≠ ga ∧ w.heap.size + 2 ≤ gf ∧ w.heap.size + 2 ≤ ga ∧ Texts wr (w.heap.size + 2) gf m c (runTo ss os j).1 ∧ Texts wr (w.heap.size + 2) ga ma ca (runTo ss os j).2 ∧ Rec1 (w.heap.size + 1) wr (.slice none 0 0) ∧ Since w wr) (fun _ _ ix _ => no - (intOf ix).toNat)
  case atStart => exact ⟨0, g, n, n, w3.heap.size, 0, 0, by omega, rfl, rfl, rfl, by omega, by omega, by omega, TE.raise (by omega), E.raise (by omega), AE, GE⟩
  case round =>
    obtain ⟨j, gf, m, c, ga, ma, ca, hj, rfl, rfl, rfl, hne, hlf, hla, Tf, Ta, Ar, Gr⟩ := hrel
    by_cases hlt : j < no
    · obtain ⟨q0, q1, q2, q3⟩ := hops wr Gr j hlt
      have hlt' : (j : Int) < (no : Int) := by omega
      have O := Blk.new wr #[.int .i64 (opAt os j).k, .int .i64 (opAt os j).a, .int .i64 (opAt os j).h, .int .i64 (opAt os j).t] 34
      have kO := (Since.refl wr).alloc (.cells #[.int .i64 (opAt os j).k, .int .i64 (opAt os j).a, .int .i64 (opAt os j).h, .int .i64 (opAt os j).t] 34)
      have zr := Gr.le
      have hd := doOp (w.heap.size + 2) gf m c (runTo ss os j).1 (opAt os j).k (opAt os j).a (opAt os j).h (opAt os j).t (run_ok ss os hb j) _ (by have := Ar.lt; simp; omega) (Tf.since kO)
      have e1 : Hid (runTo ss os (j + 1) = ((netDo (runTo ss os j).1 (opAt os j).k (opAt os j).a (opAt os j).h (opAt os j).t).1, if (netDo (runTo ss os j).1 (opAt os j).k (opAt os j).a (opAt os j).h (opAt os j).t).2.2 = true then (runTo ss os j).2 ++ [(netDo (runTo ss os j).1 (opAt os j).k (opAt os j).a (opAt os j).h (opAt os j).t).2.1] else (runTo ss os j).2)) := rfl
      have hal := Ta.lt
      have hmx := came_len ss os j
      rw [Ta.len] at hmx
      replace Ta := Ta.since kO
      replace Ar := Ar.since kO
      replace Gr := Gr.trans kO
      have hAr := Ar.lt
      simp only [World.size_alloc] at hAr
      generalize netDo (runTo ss os j).1 (opAt os j).k (opAt os j).a (opAt os j).h (opAt os j).t = dr at hd e1
      obtain ⟨d1, d2, d3⟩ := dr
      generalize opAt os j = op at *
      cases d3
      · go_wp2_with (go_at_call 19; refine hd.mono ?_; rintro _ w5 ⟨g', m', c', rfl, hw5, T5, t5⟩; replace hw5 : Hid _ := hw5; have z5 := t5.le; simp only [World.size_alloc] at z5; replace Ta := Ta.touch t5 (Ne.symm hne); replace Ar := Ar.touch t5 (by omega); replace Gr := Gr.touch t5 (by omega))
        have hg5 : g' ≠ ga := by
          have := hw5.out
          simp only [World.size_alloc] at this
          omega
        have hl5 := T5.low
        go_roundw
        case rel =>
          refine ⟨j + 1, g', m', c', ga, ma, ca, by omega, by go_num, rfl, rfl, hg5, hl5, hla, ?_, ?_, Ar, Gr⟩
          · rw [e1.out]; exact T5
          · rw [e1.out]; exact Ta
        case measure => simp [intOf]; omega
      · go_wp2_with (first | (go_at_call 19; refine hd.mono ?_; rintro _ w5 ⟨g', m', c', rfl, hw5, T5, t5⟩; replace hw5 : Hid _ := hw5; have z5 := t5.le; simp only [World.size_alloc] at z5; replace Ta := Ta.touch t5 (Ne.symm hne); replace Ar := Ar.touch t5 (by omega); replace Gr := Gr.touch t5 (by omega)) | (at_builtin; refine app_texts2 rfl _ _ rfl rfl (Ta.since ((Since.refl _).alloc _)) rfl (one_reads _ _) (by omega) (by simp; omega) ?_))
        intro ga' ca' w6 T6 t6 hw6
        have hg5 : g' ≠ ga ∧ g' < w5.heap.size := by
          have := hw5.out
          simp only [World.size_alloc] at this
          exact ⟨by omega, T5.lt⟩
        have hl5 := T5.low
        have k6 := (Since.refl w5).alloc (.cells #[.string d2] 9)
        have hg6 : g' ≠ ga' := by
          try simp only [World.size_alloc] at hw6
          omega
        replace T5 := (T5.since k6).touch t6 hg5.1
        replace Ar := (Ar.since k6).touch t6 (by omega)
        replace Gr := (Gr.trans k6).touch t6 (by omega)
        have hl6 := T6.low
        replace hw6 : Hid _ := hw6
        go_wp2
        go_roundw
        case rel =>
          refine ⟨j + 1, g', m', c', ga', ma + 1, ca', by omega, by go_num, rfl, rfl, hg6, hl5, hl6, ?_, ?_, Ar, Gr⟩
          · rw [e1.out]; exact T5
          · rw [e1.out]; exact T6
        case measure => simp [intOf]; omega
    · have hjn : j = no := by omega
      subst hjn
      obtain rfl := hr1.out
      have cA2 := Ar.c0
      have fA2 := Ar.fz 0
      go_wp2
      refine bodyPost_ret (v := .tuple #[.agg #[.slice (some ⟨gf, 0, none⟩) m c], .slice (some ⟨ga, 0, none⟩) ma ca]) ?_ rfl ⟨_, rfl, since_put1 Gr (by omega) 0 _, gf, m, c, ga, ma, ca, rfl, hne, (Tf.other (by omega) 0 _).mono (by omega), (Ta.other (by omega) 0 _).mono (by omega)⟩
      simp [results, go_sem, cA2]
end Go.Proofs.Ythjdcgckonckoaa
