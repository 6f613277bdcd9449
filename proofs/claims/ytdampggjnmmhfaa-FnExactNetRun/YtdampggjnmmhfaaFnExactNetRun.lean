/-
  Proved: at every net and every list of ops impl.NetRun answers as spec.NetRun, writes into no argument, and its answer owns its memory (the law FnExactNetRun returns true, and its arguments read as before); no condition (of arguments of more than 1048576 texts, bytes and ops the law asks nothing).
-/
import Derived.Test.YtdampggjnmmhfaaRows
import Derived.Test.YtdampggjnmmhfaaNet
import Derived.Test.YtdampggjnmmhfaaNetRunS
import Derived.Test.YtdampggjnmmhfaaOpsLaw
import Derived.Test.YtdampggjnmmhfaaOpenNet
import Derived.WalkKit
import Derived.ProofKit
import Derived.OpenShut
import Derived.ShutString
import Derived.ChangeOld
import Derived.Below
import Derived.Carry
namespace Go.Proofs.Ytdampggjnmmhfaa.fnExactNetRun
open Go.ChangeShapes Go.WideShapes Go.ChangeAt Go.RowKit
open Go.ChangeMaps (open_string shut_string)
set_option linter.unusedVariables false

theorem own : ownKnob Try.prog.godebug = none := by kernel_rfl
theorem laidOut : laidOutB Try.prog = true := by kernel_rfl

set_option maxHeartbeats 4000000 in
theorem walk (a0 : Option Addr) (n0 c0 : Nat) (s0 : List ByteArray) (a1 : Option Addr) (n1 c1 : Nat) (o1 : List Op4) (w : World) (R0 : Reads w a0 n0 s0) (z0 : ∀ i, i < n0 → (txt s0 i).size ≤ maxLen) (R1 : OpsRead w a1 n1 o1) :
    Calls Try.prog 6 #[.agg #[.slice a0 n0 c0], .slice a1 n1 c1] w fun e w' => e = .returned (.bool true) ∧ Below w.heap.size w w' := by
  have G := (Since.refl w).alloc (.cells #[.slice a0 n0 c0] 24)
  have A := Rec1.new w (.slice a0 n0 c0) 24
  have hsz := szNet a0 n0 c0 s0 1048576 (by omega) (by omega) _ (R0.since G) z0
  obtain ⟨r, hr⟩ : ∃ r, Hid (r = netRun s0 o1) := ⟨_, rfl⟩
  have hss := R0.len
  have hos := R1.len
  have hom := R1.most
  go_enter Try.func6, Try.ntmps6
  go_wp2_with (go_at_call 8; refine hsz.mono ?_; rintro _ w1 ⟨q, rfl, hq, hb, g1⟩; replace hb : Hid _ := hb; have z_A := g1.le; simp only [World.size_alloc] at z_A; replace G := G.trans g1; replace A := A.since g1; have cA := A.c0)
  · go_ret
    exact ⟨rfl, G⟩
  refine (szOps a1 n1 c1 q (by omega) (by omega) hom _).mono ?_
  rintro _ _ ⟨q2, rfl, hb2, rfl⟩
  replace hb2 : Hid _ := hb2
  go_wp2_with (fail)
  · go_ret
    exact ⟨rfl, G⟩
  obtain ⟨hn, hs⟩ := hb.out (by omega)
  have hno := hb2.out (by omega)
  have hs' : ∀ i, i < n0 → (txt s0 i).size ≤ 1048576 := fun i hi => by have := hs i hi; omega
  clear hsz hb hs z0 hb2
  replace hs' : Hid _ := hs'
  have hr1 : r.1.length ≤ 1048576 ∧ r.2.length ≤ 1000 := by
    rw [hr.out]
    unfold netRun
    split
    · exact ⟨by show s0.length ≤ _; omega, by simp⟩
    · exact ⟨run_len s0 o1 (by omega) _, Nat.le_trans (came_len s0 o1 _) (by omega)⟩
  replace hr1 : Hid _ := hr1
  refine (toNet a0 n0 c0 s0 (by omega) _ (R0.since G)).mono ?_
  rintro _ w2 ⟨g2, rfl, T2, k2⟩
  have z_k2 := k2.le
  try simp only [World.size_alloc] at z_k2
  replace G := G.trans k2
  replace A := A.since k2
  have lo_T2 := T2.low
  try simp only [World.size_alloc] at lo_T2
  have hi_T2 := T2.lt
  replace cA := A.c0
  go_wp2_with (fail)
  refine (toOps a1 n1 c1 o1 (by omega) _ (R1.since G)).mono ?_
  rintro _ w3 ⟨go2, rfl, O2, k3⟩
  have z_k3 := k3.le
  try simp only [World.size_alloc] at z_k3
  replace G := G.trans k3
  replace A := A.since k3
  replace T2 := T2.since k3
  have lo_O2 := O2.low
  try simp only [World.size_alloc] at lo_O2
  have hi_O2 := O2.lt
  replace cA := A.c0
  go_wp2_with (fail)
  refine (specNetRun g2 n0 n0 s0 _ go2 n1 o1 (by omega) hos _ T2 (fun wx h i hi => (O2.since h).cell i hi) n1).mono ?_
  rintro _ w4 ⟨v_w, rfl, k4, g_w, m_w, c_w, h_w, n_w, e_w, rfl, ne_w, T_w, U_w⟩
  rw [← hr.out] at T_w U_w
  have l_w := T_w.len
  have u_w := U_w.len
  have q_w : m_w ≤ 1048576 ∧ n_w ≤ 1000 := by have := hr1.out; omega
  have z_k4 := k4.le
  try simp only [World.size_alloc] at z_k4
  replace G := G.trans k4
  replace A := A.since k4
  replace T2 := T2.since k4
  replace O2 := O2.since k4
  have lo_T_w := T_w.low
  try simp only [World.size_alloc] at lo_T_w
  have hi_T_w := T_w.lt
  have lo_U_w := U_w.low
  try simp only [World.size_alloc] at lo_U_w
  have hi_U_w := U_w.lt
  have V := Rec1.new w4 (.slice (some ⟨g_w, 0, none⟩) m_w c_w) 27
  have k_V := (Since.refl w4).alloc (.cells #[.slice (some ⟨g_w, 0, none⟩) m_w c_w] 27)
  have z_k_V := k_V.le
  try simp only [World.size_alloc] at z_k_V
  replace G := G.trans k_V
  replace A := A.since k_V
  replace T2 := T2.since k_V
  replace O2 := O2.since k_V
  replace T_w := T_w.since k_V
  replace U_w := U_w.since k_V
  replace cA := A.c0
  have cV := V.c0
  go_wp2_with (fail)
  refine (toNet a0 n0 c0 s0 (by omega) _ (R0.since G)).mono ?_
  rintro _ w5 ⟨gx, rfl, Tx, k5⟩
  have z_k5 := k5.le
  try simp only [World.size_alloc] at z_k5
  replace G := G.trans k5
  replace A := A.since k5
  replace V := V.since k5
  replace T2 := T2.since k5
  replace O2 := O2.since k5
  replace T_w := T_w.since k5
  replace U_w := U_w.since k5
  have lo_Tx := Tx.low
  try simp only [World.size_alloc] at lo_Tx
  have hi_Tx := Tx.lt
  have X := Rec1.new w5 (.slice (some ⟨gx, 0, none⟩) n0 n0) 27
  have k_X := (Since.refl w5).alloc (.cells #[.slice (some ⟨gx, 0, none⟩) n0 n0] 27)
  have z_k_X := k_X.le
  try simp only [World.size_alloc] at z_k_X
  replace G := G.trans k_X
  replace A := A.since k_X
  replace V := V.since k_X
  replace T2 := T2.since k_X
  replace O2 := O2.since k_X
  replace T_w := T_w.since k_X
  replace U_w := U_w.since k_X
  replace Tx := Tx.since k_X
  replace cA := A.c0
  replace cV := V.c0
  have cX := X.c0
  go_wp2_with (fail)
  refine (toOps a1 n1 c1 o1 (by omega) _ (R1.since G)).mono ?_
  rintro _ w6 ⟨gox, rfl, Ox, k6⟩
  have z_k6 := k6.le
  try simp only [World.size_alloc] at z_k6
  replace G := G.trans k6
  replace A := A.since k6
  replace V := V.since k6
  replace X := X.since k6
  replace T2 := T2.since k6
  replace O2 := O2.since k6
  replace T_w := T_w.since k6
  replace U_w := U_w.since k6
  replace Tx := Tx.since k6
  have lo_Ox := Ox.low
  try simp only [World.size_alloc] at lo_Ox
  have hi_Ox := Ox.lt
  replace cA := A.c0
  replace cV := V.c0
  replace cX := X.c0
  go_wp2_with (fail)
  refine (implNetRun _ n0 n0 s0 gox n1 o1 (by omega) hs'.out hos _ Tx.reads (fun wx h i hi => (Ox.since h).cell i hi) (fun wx h => implNetOk gx n0 n0 s0 _ wx (Tx.since h)) n1).mono ?_
  rintro _ w7 ⟨v_g, rfl, k7, g_g, m_g, c_g, h_g, n_g, e_g, rfl, ne_g, T_g, U_g⟩
  rw [← hr.out] at T_g U_g
  have l_g := T_g.len
  have u_g := U_g.len
  have q_g : m_g ≤ 1048576 ∧ n_g ≤ 1000 := by have := hr1.out; omega
  have z_k7 := k7.le
  try simp only [World.size_alloc] at z_k7
  replace G := G.trans k7
  replace A := A.since k7
  replace V := V.since k7
  replace X := X.since k7
  replace T2 := T2.since k7
  replace O2 := O2.since k7
  replace T_w := T_w.since k7
  replace U_w := U_w.since k7
  replace Tx := Tx.since k7
  replace Ox := Ox.since k7
  have lo_T_g := T_g.low
  try simp only [World.size_alloc] at lo_T_g
  have hi_T_g := T_g.lt
  have lo_U_g := U_g.low
  try simp only [World.size_alloc] at lo_U_g
  have hi_U_g := U_g.lt
  have Y := Rec1.new w7 (.slice (some ⟨g_g, 0, none⟩) m_g c_g) 27
  have k_Y := (Since.refl w7).alloc (.cells #[.slice (some ⟨g_g, 0, none⟩) m_g c_g] 27)
  have z_k_Y := k_Y.le
  try simp only [World.size_alloc] at z_k_Y
  replace G := G.trans k_Y
  replace A := A.since k_Y
  replace V := V.since k_Y
  replace X := X.since k_Y
  replace T2 := T2.since k_Y
  replace O2 := O2.since k_Y
  replace T_w := T_w.since k_Y
  replace U_w := U_w.since k_Y
  replace Tx := Tx.since k_Y
  replace Ox := Ox.since k_Y
  replace T_g := T_g.since k_Y
  replace U_g := U_g.since k_Y
  replace cA := A.c0
  replace cV := V.c0
  replace cX := X.c0
  have cY := Y.c0
  go_wp2_with (fail)
  refine (eqNet _ _ m_g m_w c_g c_w _ _ _ T_g.reads T_w.reads).mono ?_
  rw [decide_eq_true rfl]
  rintro _ w8 ⟨rfl, k8⟩
  have z_k8 := k8.le
  try simp only [World.size_alloc] at z_k8
  replace G := G.trans k8
  replace A := A.since k8
  replace V := V.since k8
  replace X := X.since k8
  replace Y := Y.since k8
  replace T2 := T2.since k8
  replace O2 := O2.since k8
  replace T_w := T_w.since k8
  replace U_w := U_w.since k8
  replace Tx := Tx.since k8
  replace Ox := Ox.since k8
  replace T_g := T_g.since k8
  replace U_g := U_g.since k8
  replace cA := A.c0
  replace cV := V.c0
  replace cX := X.c0
  replace cY := Y.c0
  go_wp2_with (fail)
  refine (eqTexts _ _ n_g n_w e_g e_w _ _ _ U_g.reads U_w.reads).mono ?_
  rw [decide_eq_true rfl]
  rintro _ w9 ⟨rfl, k9⟩
  have z_k9 := k9.le
  try simp only [World.size_alloc] at z_k9
  replace G := G.trans k9
  replace A := A.since k9
  replace V := V.since k9
  replace X := X.since k9
  replace Y := Y.since k9
  replace T2 := T2.since k9
  replace O2 := O2.since k9
  replace T_w := T_w.since k9
  replace U_w := U_w.since k9
  replace Tx := Tx.since k9
  replace Ox := Ox.since k9
  replace T_g := T_g.since k9
  replace U_g := U_g.since k9
  replace cA := A.c0
  replace cV := V.c0
  replace cX := X.c0
  replace cY := Y.c0
  go_wp2_with (fail)
  refine wp_region_each (wb := w9) (fun i x v => match i with
      | 0 => v = .agg #[.slice (some ⟨gx, 0, none⟩) n0 n0]
      | 1 => v = .agg #[.slice a0 n0 c0]
      | 2 => IsNet 0 n0 n0 s0 x v
      | 3 => v = .bool true
      | 4 => v = .bool false
      | _ => True) (fun v => { tmps := #[Value.agg #[Value.slice a0 n0 c0], Value.slice a1 n1 c1, Value.pointer (some ⟨w.heap.size, 0, none⟩), undef, Value.bool false, Value.int IntKind.i64 q2, Value.pointer (some ⟨w4.heap.size, 0, none⟩), Value.slice (some ⟨h_w, 0, none⟩) n_w e_w, Value.pointer (some ⟨w5.heap.size, 0, none⟩), Value.slice (some ⟨gox, 0, none⟩) n1 n1, Value.pointer (some ⟨w7.heap.size, 0, none⟩), Value.slice (some ⟨h_g, 0, none⟩) n_g e_g, undef, undef, undef, undef, undef, Value.agg #[Value.slice a0 n0 c0], Value.int IntKind.i64 1048576, Value.int IntKind.i64 q, Value.int IntKind.i64 q, Value.bool (decide (q < 0)), Value.slice a1 n1 c1, Value.int IntKind.i64 q, Value.int IntKind.i64 q2, Value.int IntKind.i64 q2, Value.bool (decide (q2 < 0)), Value.tuple #[Value.agg #[Value.slice (some ⟨g_w, 0, none⟩) m_w c_w], Value.slice (some ⟨h_w, 0, none⟩) n_w e_w], Value.agg #[Value.slice a0 n0 c0], Value.agg #[Value.slice (some ⟨g2, 0, none⟩) n0 n0], Value.slice a1 n1 c1, Value.slice (some ⟨go2, 0, none⟩) n1 n1, Value.tuple #[Value.agg #[Value.slice (some ⟨g_w, 0, none⟩) m_w c_w], Value.slice (some ⟨h_w, 0, none⟩) n_w e_w], Value.agg #[Value.slice (some ⟨g_w, 0, none⟩) m_w c_w], Value.slice (some ⟨h_w, 0, none⟩) n_w e_w, Value.agg #[Value.slice a0 n0 c0], Value.agg #[Value.slice (some ⟨gx, 0, none⟩) n0 n0], Value.slice a1 n1 c1, Value.slice (some ⟨gox, 0, none⟩) n1 n1, Value.tuple #[Value.agg #[Value.slice (some ⟨g_g, 0, none⟩) m_g c_g], Value.slice (some ⟨h_g, 0, none⟩) n_g e_g], Value.agg #[Value.slice (some ⟨gx, 0, none⟩) n0 n0], Value.slice (some ⟨gox, 0, none⟩) n1 n1, Value.tuple #[Value.agg #[Value.slice (some ⟨g_g, 0, none⟩) m_g c_g], Value.slice (some ⟨h_g, 0, none⟩) n_g e_g], Value.agg #[Value.slice (some ⟨g_g, 0, none⟩) m_g c_g], Value.slice (some ⟨h_g, 0, none⟩) n_g e_g, Value.agg #[Value.slice (some ⟨g_g, 0, none⟩) m_g c_g], Value.agg #[Value.slice (some ⟨g_w, 0, none⟩) m_w c_w], Value.bool true, Value.bool false, Value.bool false, Value.slice (some ⟨h_g, 0, none⟩) n_g e_g, Value.slice (some ⟨h_w, 0, none⟩) n_w e_w, Value.bool true, Value.bool false, Value.bool false, v 0, v 1, v 2, v 3, v 4, undef, undef, undef, undef, undef, undef, undef, undef, undef, undef, undef, undef, undef, undef, undef, undef, undef, undef, undef, undef, undef, undef, undef, undef, undef, undef, undef, undef, undef, undef, undef, undef, undef, undef, undef, undef, undef, undef, undef, undef, undef, undef, undef, undef, undef, undef, undef, undef, undef, undef, undef, undef, undef, undef, undef, undef, undef, undef, undef, undef, undef, undef, undef, undef, undef, undef, undef, undef, undef, undef, undef, undef, undef, undef, undef], defers := [] }) (by kernel_rfl) (by kernel_rfl) (Since.refl _) ?_ (fun vals => by kernel_rfl) ?_ ?_
  case refine_1 =>
    intro j x x' v h1 h2
    match j, h2 with
    | 2, h2 => exact h2.since h1
    | 0, h2 | 1, h2 | 3, h2 | 4, h2 => exact h2
    | n + 5, _ => trivial
  case refine_2 =>
    repeat (first | exact eachDoes_nil | refine eachDoes_cons ?_ ?_)
    all_goals intro vals x hx hv
    all_goals simp [Region.binds] at hv
    · simp [does, doesUpon, go_sem, hv, Since.refl]
    · obtain ⟨h0, g, h2, T⟩ := hv
      simp [does, doesUpon, go_sem, h0, h2]
      refine (eqNet _ _ n0 n0 n0 n0 s0 s0 _ (Tx.since hx).reads T.reads).mono ?_
      rintro _ x' ⟨rfl, h1⟩
      simp [h1]
    · simp [does, doesUpon, go_sem, hv]
      refine (toNet a0 n0 c0 s0 (by omega) _ (R0.since (G.trans hx))).mono ?_
      rintro _ x' ⟨g, rfl, T, h1⟩
      exact ⟨_, rfl, h1, g, rfl, T.mono (Nat.zero_le _)⟩
    · simp [does, doesUpon, go_sem, (A.since hx).c0, Since.refl]
    · simp [does, doesUpon, go_sem, (X.since hx).c0, Since.refl]
  intro vals w10 k10 hv
  have h4 : vals 4 = _ := hv 4 (by decide)
  clear hv
  simp only [h4]
  clear h4
  have z_k10 := k10.le
  try simp only [World.size_alloc] at z_k10
  replace G := G.trans k10
  replace A := A.since k10
  replace V := V.since k10
  replace X := X.since k10
  replace Y := Y.since k10
  replace T2 := T2.since k10
  replace O2 := O2.since k10
  replace T_w := T_w.since k10
  replace U_w := U_w.since k10
  replace Tx := Tx.since k10
  replace Ox := Ox.since k10
  replace T_g := T_g.since k10
  replace U_g := U_g.since k10
  replace cA := A.c0
  replace cV := V.c0
  replace cX := X.c0
  replace cY := Y.c0
  go_wp2_with (fail)
  refine (toOps a1 n1 c1 o1 (by omega) _ (R1.since G)).mono ?_
  rintro _ w11 ⟨go3, rfl, O3, k11⟩
  have z_k11 := k11.le
  try simp only [World.size_alloc] at z_k11
  replace G := G.trans k11
  replace A := A.since k11
  replace V := V.since k11
  replace X := X.since k11
  replace Y := Y.since k11
  replace T2 := T2.since k11
  replace O2 := O2.since k11
  replace T_w := T_w.since k11
  replace U_w := U_w.since k11
  replace Tx := Tx.since k11
  replace Ox := Ox.since k11
  replace T_g := T_g.since k11
  replace U_g := U_g.since k11
  have lo_O3 := O3.low
  try simp only [World.size_alloc] at lo_O3
  have hi_O3 := O3.lt
  replace cA := A.c0
  replace cV := V.c0
  replace cX := X.c0
  replace cY := Y.c0
  go_wp2_with (fail)
  refine (eqOps _ _ gox go3 n1 o1 (by omega) _ Ox O3).mono ?_
  rintro _ w12 ⟨rfl, k12⟩
  have z_k12 := k12.le
  try simp only [World.size_alloc] at z_k12
  replace G := G.trans k12
  replace A := A.since k12
  replace V := V.since k12
  replace X := X.since k12
  replace Y := Y.since k12
  replace T2 := T2.since k12
  replace O2 := O2.since k12
  replace T_w := T_w.since k12
  replace U_w := U_w.since k12
  replace Tx := Tx.since k12
  replace Ox := Ox.since k12
  replace T_g := T_g.since k12
  replace U_g := U_g.since k12
  replace O3 := O3.since k12
  replace cA := A.c0
  replace cV := V.c0
  replace cX := X.c0
  replace cY := Y.c0
  go_wp2_with (fail)
  refine (markNet _ gx n0 n0 s0 1 (by omega) (by omega) _ Tx).mono ?_
  rintro _ w13 ⟨rfl, t13, ms, hM, Tx1⟩
  clear hM
  have z_t13 := t13.le
  try simp only [World.size_alloc] at z_t13
  replace G := G.touch t13 (by omega)
  replace A := A.touch t13 (by omega)
  replace V := V.touch t13 (by omega)
  replace X := X.touch t13 (by omega)
  replace Y := Y.touch t13 (by omega)
  replace T2 := T2.touch t13 (by omega)
  replace O2 := O2.touch t13 (by omega)
  replace T_w := T_w.touch t13 (by omega)
  replace U_w := U_w.touch t13 (by omega)
  replace Ox := Ox.touch t13 (by omega)
  replace T_g := T_g.touch t13 (by omega)
  replace U_g := U_g.touch t13 (by omega)
  replace O3 := O3.touch t13 (by omega)
  clear Tx
  have Tx := Tx1
  clear Tx1
  replace cA := A.c0
  replace cV := V.c0
  replace cX := X.c0
  replace cY := Y.c0
  go_wp2_with (fail)
  refine (markOps _ gox n1 o1 (1 + n0) (by omega) (by omega) _ Ox).mono ?_
  rintro _ w14 ⟨rfl, t14⟩
  clear Ox
  have z_t14 := t14.le
  try simp only [World.size_alloc] at z_t14
  replace G := G.touch t14 (by omega)
  replace A := A.touch t14 (by omega)
  replace V := V.touch t14 (by omega)
  replace X := X.touch t14 (by omega)
  replace Y := Y.touch t14 (by omega)
  replace T2 := T2.touch t14 (by omega)
  replace O2 := O2.touch t14 (by omega)
  replace T_w := T_w.touch t14 (by omega)
  replace U_w := U_w.touch t14 (by omega)
  replace Tx := Tx.touch t14 (by omega)
  replace T_g := T_g.touch t14 (by omega)
  replace U_g := U_g.touch t14 (by omega)
  replace O3 := O3.touch t14 (by omega)
  replace cA := A.c0
  replace cV := V.c0
  replace cX := X.c0
  replace cY := Y.c0
  have hq1 : ¬ (1 : Int) + (n0 : Int) + 4 * (n1 : Int) < 0 := by omega
  go_wp2_with (fail)
  refine (eqNet _ _ m_g m_w c_g c_w _ _ _ T_g.reads T_w.reads).mono ?_
  rw [decide_eq_true rfl]
  rintro _ w15 ⟨rfl, k15⟩
  have z_k15 := k15.le
  try simp only [World.size_alloc] at z_k15
  replace G := G.trans k15
  replace A := A.since k15
  replace V := V.since k15
  replace X := X.since k15
  replace Y := Y.since k15
  replace T2 := T2.since k15
  replace O2 := O2.since k15
  replace T_w := T_w.since k15
  replace U_w := U_w.since k15
  replace Tx := Tx.since k15
  replace T_g := T_g.since k15
  replace U_g := U_g.since k15
  replace O3 := O3.since k15
  replace cA := A.c0
  replace cV := V.c0
  replace cX := X.c0
  replace cY := Y.c0
  go_wp2_with (fail)
  refine (eqTexts _ _ n_g n_w e_g e_w _ _ _ U_g.reads U_w.reads).mono ?_
  rw [decide_eq_true rfl]
  rintro _ w16 ⟨rfl, k16⟩
  have z_k16 := k16.le
  try simp only [World.size_alloc] at z_k16
  replace G := G.trans k16
  replace A := A.since k16
  replace V := V.since k16
  replace X := X.since k16
  replace Y := Y.since k16
  replace T2 := T2.since k16
  replace O2 := O2.since k16
  replace T_w := T_w.since k16
  replace U_w := U_w.since k16
  replace Tx := Tx.since k16
  replace T_g := T_g.since k16
  replace U_g := U_g.since k16
  replace O3 := O3.since k16
  replace cA := A.c0
  replace cV := V.c0
  replace cX := X.c0
  replace cY := Y.c0
  go_wp2_with (fail)
  refine (markNet _ g_g m_g c_g _ 1 (by omega) (by omega) _ T_g).mono ?_
  rintro _ w17 ⟨rfl, t17, mg, hM, Tg1⟩
  replace hM : Hid _ := hM
  have z_t17 := t17.le
  try simp only [World.size_alloc] at z_t17
  replace G := G.touch t17 (by omega)
  replace A := A.touch t17 (by omega)
  replace V := V.touch t17 (by omega)
  replace X := X.touch t17 (by omega)
  replace Y := Y.touch t17 (by omega)
  replace T2 := T2.touch t17 (by omega)
  replace O2 := O2.touch t17 (by omega)
  replace T_w := T_w.touch t17 (by omega)
  replace U_w := U_w.touch t17 (by omega)
  replace Tx := Tx.touch t17 (by omega)
  replace U_g := U_g.touch t17 (by omega)
  replace O3 := O3.touch t17 (by omega)
  clear T_g
  have T_g := Tg1
  clear Tg1
  replace cA := A.c0
  replace cV := V.c0
  replace cX := X.c0
  replace cY := Y.c0
  go_wp2_with (fail)
  refine (markTexts _ h_g n_g e_g _ (1 + m_g) (by omega) (by omega) _ U_g).mono ?_
  rintro _ w18 ⟨rfl, t18, mu, hU, Ug1⟩
  replace hU : Hid _ := hU
  have z_t18 := t18.le
  try simp only [World.size_alloc] at z_t18
  replace G := G.touch t18 (by omega)
  replace A := A.touch t18 (by omega)
  replace V := V.touch t18 (by omega)
  replace X := X.touch t18 (by omega)
  replace Y := Y.touch t18 (by omega)
  replace T2 := T2.touch t18 (by omega)
  replace O2 := O2.touch t18 (by omega)
  replace T_w := T_w.touch t18 (by omega)
  replace U_w := U_w.touch t18 (by omega)
  replace Tx := Tx.touch t18 (by omega)
  replace T_g := T_g.touch t18 (by omega)
  replace O3 := O3.touch t18 (by omega)
  clear U_g
  have U_g := Ug1
  clear Ug1
  replace cA := A.c0
  replace cV := V.c0
  replace cX := X.c0
  replace cY := Y.c0
  have hq2 : ¬ (1 : Int) + (m_g : Int) < 0 := by omega
  have hq3 : ¬ (1 : Int) + (m_g : Int) + (n_g : Int) < 0 := by omega
  go_wp2_with (fail)
  refine (heldNet _ m_g c_g mg 1 (by omega) (by omega) _ T_g.reads hM.out).mono ?_
  rintro _ w19 ⟨rfl, k19⟩
  have z_k19 := k19.le
  try simp only [World.size_alloc] at z_k19
  replace G := G.trans k19
  replace A := A.since k19
  replace V := V.since k19
  replace X := X.since k19
  replace Y := Y.since k19
  replace T2 := T2.since k19
  replace O2 := O2.since k19
  replace T_w := T_w.since k19
  replace U_w := U_w.since k19
  replace Tx := Tx.since k19
  replace T_g := T_g.since k19
  replace U_g := U_g.since k19
  replace O3 := O3.since k19
  replace cA := A.c0
  replace cV := V.c0
  replace cX := X.c0
  replace cY := Y.c0
  go_wp2_with (fail)
  refine (heldTexts _ n_g e_g mu (1 + m_g) (by omega) (by omega) _ U_g.reads hU.out).mono ?_
  rintro _ w20 ⟨rfl, k20⟩
  have z_k20 := k20.le
  try simp only [World.size_alloc] at z_k20
  replace G := G.trans k20
  replace A := A.since k20
  replace V := V.since k20
  replace X := X.since k20
  replace Y := Y.since k20
  replace T2 := T2.since k20
  replace O2 := O2.since k20
  replace T_w := T_w.since k20
  replace U_w := U_w.since k20
  replace Tx := Tx.since k20
  replace T_g := T_g.since k20
  replace U_g := U_g.since k20
  replace O3 := O3.since k20
  replace cA := A.c0
  replace cV := V.c0
  replace cX := X.c0
  replace cY := Y.c0
  go_wp2_with (fail)
  refine (toNet a0 n0 c0 s0 (by omega) _ (R0.since G)).mono ?_
  rintro _ w21 ⟨g4, rfl, T4, k21⟩
  have z_k21 := k21.le
  try simp only [World.size_alloc] at z_k21
  replace G := G.trans k21
  replace A := A.since k21
  replace V := V.since k21
  replace X := X.since k21
  replace Y := Y.since k21
  replace T2 := T2.since k21
  replace O2 := O2.since k21
  replace T_w := T_w.since k21
  replace U_w := U_w.since k21
  replace Tx := Tx.since k21
  replace T_g := T_g.since k21
  replace U_g := U_g.since k21
  replace O3 := O3.since k21
  have lo_T4 := T4.low
  try simp only [World.size_alloc] at lo_T4
  have hi_T4 := T4.lt
  replace cA := A.c0
  replace cV := V.c0
  replace cY := Y.c0
  go_wp2_with (fail)
  refine (toOps a1 n1 c1 o1 (by omega) _ (R1.since G)).mono ?_
  rintro _ w22 ⟨go4, rfl, O4, k22⟩
  have z_k22 := k22.le
  try simp only [World.size_alloc] at z_k22
  replace G := G.trans k22
  replace A := A.since k22
  replace V := V.since k22
  replace X := X.since k22
  replace Y := Y.since k22
  replace T2 := T2.since k22
  replace O2 := O2.since k22
  replace T_w := T_w.since k22
  replace U_w := U_w.since k22
  replace Tx := Tx.since k22
  replace T_g := T_g.since k22
  replace U_g := U_g.since k22
  replace O3 := O3.since k22
  replace T4 := T4.since k22
  have lo_O4 := O4.low
  try simp only [World.size_alloc] at lo_O4
  have hi_O4 := O4.lt
  replace cA := A.c0
  replace cV := V.c0
  replace cY := Y.c0
  go_wp2_with (fail)
  refine (implNetRun _ n0 n0 s0 go4 n1 o1 (by omega) hs'.out hos _ T4.reads (fun wx h i hi => (O4.since h).cell i hi) (fun wx h => implNetOk g4 n0 n0 s0 _ wx (T4.since h)) n1).mono ?_
  rintro _ w23 ⟨v_h, rfl, k23, g_h, m_h, c_h, h_h, n_h, e_h, rfl, ne_h, T_h, U_h⟩
  rw [← hr.out] at T_h U_h
  have l_h := T_h.len
  have u_h := U_h.len
  have q_h : m_h ≤ 1048576 ∧ n_h ≤ 1000 := by have := hr1.out; omega
  have z_k23 := k23.le
  try simp only [World.size_alloc] at z_k23
  replace G := G.trans k23
  replace A := A.since k23
  replace V := V.since k23
  replace X := X.since k23
  replace Y := Y.since k23
  replace T2 := T2.since k23
  replace O2 := O2.since k23
  replace T_w := T_w.since k23
  replace U_w := U_w.since k23
  replace Tx := Tx.since k23
  replace T_g := T_g.since k23
  replace U_g := U_g.since k23
  replace O3 := O3.since k23
  replace T4 := T4.since k23
  replace O4 := O4.since k23
  have lo_T_h := T_h.low
  try simp only [World.size_alloc] at lo_T_h
  have hi_T_h := T_h.lt
  have lo_U_h := U_h.low
  try simp only [World.size_alloc] at lo_U_h
  have hi_U_h := U_h.lt
  have Z := Rec1.new w23 (.slice (some ⟨g_h, 0, none⟩) m_h c_h) 27
  have k_Z := (Since.refl w23).alloc (.cells #[.slice (some ⟨g_h, 0, none⟩) m_h c_h] 27)
  have z_k_Z := k_Z.le
  try simp only [World.size_alloc] at z_k_Z
  replace G := G.trans k_Z
  replace A := A.since k_Z
  replace V := V.since k_Z
  replace X := X.since k_Z
  replace Y := Y.since k_Z
  replace T2 := T2.since k_Z
  replace O2 := O2.since k_Z
  replace T_w := T_w.since k_Z
  replace U_w := U_w.since k_Z
  replace Tx := Tx.since k_Z
  replace T_g := T_g.since k_Z
  replace U_g := U_g.since k_Z
  replace O3 := O3.since k_Z
  replace T4 := T4.since k_Z
  replace O4 := O4.since k_Z
  replace T_h := T_h.since k_Z
  replace U_h := U_h.since k_Z
  replace cA := A.c0
  replace cV := V.c0
  replace cY := Y.c0
  have cZ := Z.c0
  go_wp2_with (fail)
  refine (eqNet _ _ m_h m_w c_h c_w _ _ _ T_h.reads T_w.reads).mono ?_
  rw [decide_eq_true rfl]
  rintro _ w24 ⟨rfl, k24⟩
  have z_k24 := k24.le
  try simp only [World.size_alloc] at z_k24
  replace G := G.trans k24
  replace A := A.since k24
  replace V := V.since k24
  replace X := X.since k24
  replace Y := Y.since k24
  replace Z := Z.since k24
  replace T2 := T2.since k24
  replace O2 := O2.since k24
  replace T_w := T_w.since k24
  replace U_w := U_w.since k24
  replace Tx := Tx.since k24
  replace T_g := T_g.since k24
  replace U_g := U_g.since k24
  replace O3 := O3.since k24
  replace T4 := T4.since k24
  replace O4 := O4.since k24
  replace T_h := T_h.since k24
  replace U_h := U_h.since k24
  replace cA := A.c0
  replace cV := V.c0
  replace cY := Y.c0
  replace cZ := Z.c0
  go_wp2_with (fail)
  refine (eqTexts _ _ n_h n_w e_h e_w _ _ _ U_h.reads U_w.reads).mono ?_
  rw [decide_eq_true rfl]
  rintro _ w25 ⟨rfl, k25⟩
  have z_k25 := k25.le
  try simp only [World.size_alloc] at z_k25
  replace G := G.trans k25
  replace A := A.since k25
  replace V := V.since k25
  replace X := X.since k25
  replace Y := Y.since k25
  replace Z := Z.since k25
  replace T2 := T2.since k25
  replace O2 := O2.since k25
  replace T_w := T_w.since k25
  replace U_w := U_w.since k25
  replace Tx := Tx.since k25
  replace T_g := T_g.since k25
  replace U_g := U_g.since k25
  replace O3 := O3.since k25
  replace T4 := T4.since k25
  replace O4 := O4.since k25
  replace T_h := T_h.since k25
  replace U_h := U_h.since k25
  replace cA := A.c0
  replace cV := V.c0
  replace cY := Y.c0
  replace cZ := Z.c0
  go_wp2_with (fail)
  refine (heldNet _ m_g c_g mg 1 (by omega) (by omega) _ T_g.reads hM.out).mono ?_
  rintro _ w26 ⟨rfl, k26⟩
  have z_k26 := k26.le
  try simp only [World.size_alloc] at z_k26
  replace G := G.trans k26
  replace A := A.since k26
  replace V := V.since k26
  replace X := X.since k26
  replace Y := Y.since k26
  replace Z := Z.since k26
  replace T2 := T2.since k26
  replace O2 := O2.since k26
  replace T_w := T_w.since k26
  replace U_w := U_w.since k26
  replace Tx := Tx.since k26
  replace T_g := T_g.since k26
  replace U_g := U_g.since k26
  replace O3 := O3.since k26
  replace T4 := T4.since k26
  replace O4 := O4.since k26
  replace T_h := T_h.since k26
  replace U_h := U_h.since k26
  replace cA := A.c0
  replace cV := V.c0
  replace cX := X.c0
  replace cY := Y.c0
  go_wp2_with (fail)
  refine (heldTexts _ n_g e_g mu (1 + m_g) (by omega) (by omega) _ U_g.reads hU.out).mono ?_
  rintro _ w27 ⟨rfl, k27⟩
  have z_k27 := k27.le
  try simp only [World.size_alloc] at z_k27
  replace G := G.trans k27
  replace A := A.since k27
  replace V := V.since k27
  replace X := X.since k27
  replace Y := Y.since k27
  replace Z := Z.since k27
  replace T2 := T2.since k27
  replace O2 := O2.since k27
  replace T_w := T_w.since k27
  replace U_w := U_w.since k27
  replace Tx := Tx.since k27
  replace T_g := T_g.since k27
  replace U_g := U_g.since k27
  replace O3 := O3.since k27
  replace T4 := T4.since k27
  replace O4 := O4.since k27
  replace T_h := T_h.since k27
  replace U_h := U_h.since k27
  replace cA := A.c0
  replace cV := V.c0
  replace cX := X.c0
  replace cY := Y.c0
  go_wp2_with (fail)
  go_ret
  exact ⟨rfl, G⟩

set_option maxRecDepth 100000 in
theorem lifted (os : Os) (started : os.Started) (H : Type) (enc : TypeId × Value → H) :
    ReturnsInHanded {} Try.checked os 6 .any (Rows.fnExactNetRunSpec.pre6 enc Try.prog Try.f6 Rows.fnExactNetRunRow.domain false) (Rows.fnExactNetRunSpec.post enc Try.prog Try.f6 false true false false) := by
  refine returnsInHanded_of_change (C := Try.checked) own started (by kernel_rfl) Try.func6
    (ChangeSpec.witness6 (enc := enc) (C := Try.checked) false ⟨#[], #[.agg #[.slice none 0 0], .slice none 0 0], []⟩ 8 (by kernel_rfl) (by kernel_rfl) (by kernel_rfl) (by kernel_rfl)) ?_
  intro W base args ds gs before hval0 hW hcnd _
  have hval : ∀ (j : Nat) t v, Try.f6.params[j]? = some t → args[j]? = some v → Value.okWide Try.prog W .any base t v := hval0
  have hW' := hW
  obtain ⟨p, q, hA0, hV, rfl, hfz, hnd⟩ := hW
  have hA : DataW.TrodAll enc Try.prog W 0 (fun _ => true) true Try.f6.params.toList args.toList ds p := hA0
  rw [Try.params6] at hA hval
  obtain ⟨v0, vs0, d0, ds0, p0, q0, hargs, rfl, rfl, h0, r0⟩ := trodAll_cons hA
  obtain ⟨v1, vs1, d1, ds1, p1, q1, rfl, rfl, rfl, h1, r1⟩ := trodAll_cons r0
  obtain ⟨rfl, rfl, rfl⟩ := trodAll_nil r1
  obtain rfl : args = #[v0, v1] := by cases args; simp_all
  obtain ⟨rfl, rfl⟩ := trodVars_none hV
  have e0 := h0
  have lt0 : ∀ x ∈ p0, x.block < W.heap.size := by obtain ⟨m, hm⟩ := e0; exact DataW.trod_lt m _ _ _ hm
  have e1 := h1
  have lt1 : ∀ x ∈ p1, x.block < W.heap.size := by obtain ⟨m, hm⟩ := e1; exact DataW.trod_lt m _ _ _ hm
  obtain ⟨a0, n0, c0, s0, rfl, R0, z0⟩ := open_net (hval 0 24 v0 rfl rfl) h0
  obtain ⟨a1, n1, c1, o1, rfl, R1⟩ := open_netops (hval 1 41 v1 rfl rfl) h1
  clear hA0 hval0
  refine (walk a0 n0 c0 s0 a1 n1 c1 o1 W R0 z0 R1).mono fun e W' ⟨he, bel⟩ => ?_
  subst he
  exact ⟨_, rfl, _, _, _, [], _, [], hW', trodAll_mk1 (shut_bool Try.underlying4 _), (trodAll_cons_mk (Below.trod laidOut (by kernel_rfl) (of_decide_eq_true (by kernel_rfl)) e0 bel lt0) (trodAll_cons_mk (Below.trod laidOut (by kernel_rfl) (of_decide_eq_true (by kernel_rfl)) e1 bel lt1) trodAll_mk0)), rfl, bel.frame _, fun h => by cases h⟩

theorem over : Rows.fnExactNetRunRow.holds Try.pinned (OpenSpec.ofChange Rows.fnExactNetRunSpec) :=
  OpenClaim.holds_of_wide 6 Try.f6 rfl rfl rfl rfl rfl rfl rfl ⟨rfl, rfl, rfl, rfl, rfl⟩ rfl rfl rfl rfl rfl (by kernel_rfl) Try.func6 (by kernel_rfl)
    (of_decide_eq_true (by kernel_rfl)) (by unfold Func.isWrapper; first | (rw [if_pos (by decide +kernel)]; kernel_rfl) | (rw [if_neg (by decide +kernel)]; exact ⟨rfl, rfl⟩))
    (fun os started H enc _ => lifted os started H enc)

theorem proved : Rows.FnExactNetRunSaid := over
end Go.Proofs.Ytdampggjnmmhfaa.fnExactNetRun

namespace Go.Proofs.Ytdampggjnmmhfaa
theorem fnExactNetRun_holds : Rows.FnExactNetRunSaid := fnExactNetRun.proved
#print axioms fnExactNetRun_holds
end Go.Proofs.Ytdampggjnmmhfaa
