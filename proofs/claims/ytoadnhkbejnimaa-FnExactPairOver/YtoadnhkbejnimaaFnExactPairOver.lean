/-
  Proved: at every argument impl.PairOver answers as spec.PairOver, and writes into no argument (the law FnExactPairOver returns true, and its arguments read as before); no condition.
-/
import Derived.Test.YtoadnhkbejnimaaRows
import Derived.Test.YtoadnhkbejnimaaPairTo
import Derived.Test.YtoadnhkbejnimaaPairEq
import Derived.Test.YtoadnhkbejnimaaOver12
import Derived.Test.YtoadnhkbejnimaaSegLaws
import Derived.WalkKit
import Derived.ProofKit
import Derived.OpenShut
import Derived.ShutString
import Derived.ChangeOld
import Derived.Below
import Derived.Carry
namespace Go.Proofs.Ytoadnhkbejnimaa.fnExactPairOver
open Go.ChangeShapes Go.WideShapes Go.ChangeAt Go.RowKit
open Go.ChangeMaps (open_string shut_string)
set_option linter.unusedVariables false

theorem own : ownKnob Try.prog.godebug = none := by kernel_rfl
theorem laidOut : laidOutB Try.prog = true := by kernel_rfl

/-- A pair copied. -/
def toP (p : Pr) (g1 g2 g3 g4 : Nat) : Pr := { p with a := { p.a with pa := some ⟨g1, 0, none⟩, pc := p.a.pn }, b := { p.b with pa := some ⟨g2, 0, none⟩, pc := p.b.pn }, ba := some ⟨g3, 0, none⟩, bc := p.bn, aa := some ⟨g4, 0, none⟩, ac := p.an }

/-- The copy's lists. -/
structure IsTo (p : Pr) (pa pb : List (Int × ByteArray)) (xb xa : List Sg) (w : World) (g1 g2 g3 g4 : Nat) : Prop where
  ha : Held shP w 0 g1 p.a.pn p.a.pn pa
  hb : Held shP w 0 g2 p.b.pn p.b.pn pb
  hc : Held shG w 0 g3 p.bn p.bn xb
  hd : Held shG w 0 g4 p.an p.an xa

theorem IsTo.since {p : Pr} {pa pb : List (Int × ByteArray)} {xb xa : List Sg} {w x : World} {g1 g2 g3 g4 : Nat} (h : IsTo p pa pb xb xa w g1 g2 g3 g4) (s : Since w x) : IsTo p pa pb xb xa x g1 g2 g3 g4 := ⟨h.ha.since s, h.hb.since s, h.hc.since s, h.hd.since s⟩

theorem IsTo.touch {p : Pr} {pa pb : List (Int × ByteArray)} {xb xa : List Sg} {w x : World} {g1 g2 g3 g4 b : Nat} (h : IsTo p pa pb xb xa w g1 g2 g3 g4) (t : Touch b w x) (q : g1 ≠ b ∧ g2 ≠ b ∧ g3 ≠ b ∧ g4 ≠ b) : IsTo p pa pb xb xa x g1 g2 g3 g4 := ⟨h.ha.touch t (by omega), h.hb.touch t (by omega), h.hc.touch t (by omega), h.hd.touch t (by omega)⟩

theorem IsTo.lt {p : Pr} {pa pb : List (Int × ByteArray)} {xb xa : List Sg} {w : World} {g1 g2 g3 g4 : Nat} (h : IsTo p pa pb xb xa w g1 g2 g3 g4) : g1 < w.heap.size ∧ g2 < w.heap.size ∧ g3 < w.heap.size ∧ g4 < w.heap.size := ⟨h.ha.lt, h.hb.lt, h.hc.lt, h.hd.lt⟩

theorem over_to (p : Pr) (g1 g2 g3 g4 : Nat) : overB (toP p g1 g2 g3 g4) = overB p := rfl

theorem toIs (p : Pr) (pa pb : List (Int × ByteArray)) (xb xa : List Sg) (hn : p.a.pn ≤ 1048576 ∧ p.b.pn ≤ 1048576 ∧ p.bn ≤ 1048576 ∧ p.an ≤ 1048576) (w : World) (u : WfPr w p pa pb xb xa) :
    Calls Try.prog 12 #[.agg (prCells p)] w fun e w' => ∃ g1 g2 g3 g4, e = .returned (.agg (prCells (toP p g1 g2 g3 g4))) ∧ IsTo p pa pb xb xa w' g1 g2 g3 g4 ∧ Since w w' := by
  refine (toPr p pa pb xb xa hn w u).mono ?_
  rintro e w' ⟨g1, g2, g3, g4, rfl, h1, h2, h3, h4, s⟩
  exact ⟨g1, g2, g3, g4, rfl, ⟨h1.raise (Nat.zero_le _), h2.raise (Nat.zero_le _), h3.raise (Nat.zero_le _), h4.raise (Nat.zero_le _)⟩, s⟩

theorem wf_since {p : Pr} {pa pb : List (Int × ByteArray)} {xb xa : List Sg} {w x : World} (u : WfPr w p pa pb xb xa) (s : Since w x) : WfPr x p pa pb xb xa := ⟨u.ra.since s, u.wa, u.rb.since s, u.wb, u.lb.since s, u.tb, u.la.since s, u.ta, u.s1, u.s2, u.s3, u.s4⟩

theorem eqTo (p : Pr) (pa pb : List (Int × ByteArray)) (xb xa : List Sg) (hn : p.a.pn ≤ 1048576 ∧ p.b.pn ≤ 1048576 ∧ p.bn ≤ 1048576 ∧ p.an ≤ 1048576) (w : World) (g1 g2 g3 g4 k1 k2 k3 k4 : Nat) (h : IsTo p pa pb xb xa w g1 g2 g3 g4) (k : IsTo p pa pb xb xa w k1 k2 k3 k4) :
    Calls Try.prog 7 #[.agg (prCells (toP p g1 g2 g3 g4)), .agg (prCells (toP p k1 k2 k3 k4))] w fun e w' => e = .returned (.bool true) ∧ Since w w' := by
  obtain ⟨n1, n2, n3, n4⟩ := hn
  exact eqPr (toP p g1 g2 g3 g4) { p.a with pa := some ⟨k1, 0, none⟩, pc := p.a.pn } { p.b with pa := some ⟨k2, 0, none⟩, pc := p.b.pn } (some ⟨k3, 0, none⟩) p.bn (some ⟨k4, 0, none⟩) p.an w
    (fun wx s => eqConn { p.a with pa := some ⟨g1, 0, none⟩, pc := p.a.pn } (some ⟨k1, 0, none⟩) p.a.pn pa n1 wx (h.ha.since s).reads (k.ha.since s).reads)
    (fun wx s => eqConn { p.b with pa := some ⟨g2, 0, none⟩, pc := p.b.pn } (some ⟨k2, 0, none⟩) p.b.pn pb n2 wx (h.hb.since s).reads (k.hb.since s).reads)
    (fun wx s => eqSegs _ _ g3 k3 p.bn p.bn p.bn xb n3 wx (h.hc.since s) (k.hc.since s))
    (fun wx s => eqSegs _ _ g4 k4 p.an p.an p.an xa n4 wx (h.hd.since s) (k.hd.since s))

set_option maxHeartbeats 16000000 in
set_option maxRecDepth 20000 in
theorem walk (p0 : Pr) (pa0 pb0 : List (Int × ByteArray)) (xb0 xa0 : List Sg) (w : World) (u0 : WfPr w p0 pa0 pb0 xb0 xa0) :
    Calls Try.prog 4 #[.agg (prCells p0)] w fun e w' => e = .returned (.bool true) ∧ Below w.heap.size w w' := by
  have A := Blk.new w (prCells p0) 52
  have G := (Since.refl w).alloc (.cells (prCells p0) 52)
  have hS := fun wx ux => szPr p0 pa0 pb0 xb0 xa0 wx ux
  go_enter Try.func4, Try.ntmps4
  go_upto_region 2 with (fail)
  generalize w.alloc (.cells (prCells p0) 52) = w1 at A G ⊢
  have hG1 := G.size
  have hA1 := A.lt
  refine wp_region_lit ?_
  refine load_big lpr_big (pr_size _) A rfl _ rfl rfl ?_
  refine move_step rfl _ rfl ?_
  refine call_step rfl 10 #[.agg (prCells p0), .int .i64 1048576] (by kernel_rfl) (hS _ (wf_since u0 G)) ?_
  rintro _ qw1 ⟨⟨r, rfl, hb⟩, qg2⟩
  refine ⟨_, rfl, ?_⟩
  replace A := A.since qg2
  replace G := G.trans qg2
  have qg2_s := qg2.size
  replace hb : Hid _ := hb
  refine step_val (w' := qw1) rfl (.int .i64 r) (by kernel_rfl) ?_
  refine wpList_frame (a' := { tmps := #[.agg (prCells p0), .pointer (some ⟨w.heap.size, 0, none⟩), .bool false, .int .i64 r, undef, undef, undef, .agg (prCells p0), .int .i64 1048576, .int .i64 r, undef, undef, undef, undef, undef, undef, undef, undef, undef, undef, undef, undef, undef, undef, undef, undef, undef], defers := [] }) (by kernel_rfl) ?_
  clear hS
  rcases Int.lt_or_le r 0 with hr | hr
  · go_wp2_with (fail)
    go_ret
    exact ⟨rfl, G⟩
  have hn := hb.out hr
  clear hb
  have hT := fun wx ux => toIs p0 pa0 pb0 xb0 xa0 hn wx ux
  have hi := fun g1 g2 g3 g4 wx => implOver (toP p0 g1 g2 g3 g4) wx
  have hs := fun g1 g2 g3 g4 wx => specOver (toP p0 g1 g2 g3 g4) wx
  simp only [over_to] at hi hs
  generalize overB p0 = V at hi hs
  have kE := fun wx g1 g2 g3 g4 k1 k2 k3 k4 hx kx => eqTo p0 pa0 pb0 xb0 xa0 hn wx g1 g2 g3 g4 k1 k2 k3 k4 hx kx
  replace hn : Hid _ := hn
  go_upto_region 5 with (fail)
  refine wp_region_lit ?_
  refine load_big lpr_big (pr_size _) A rfl _ rfl rfl ?_
  refine call_step rfl 12 #[.agg (prCells p0)] (by kernel_rfl) (hT _ (wf_since u0 G)) ?_
  rintro _ qw3 ⟨g11, g12, g13, g14, rfl, H1, qg4⟩
  refine ⟨_, rfl, ?_⟩
  replace A := A.since qg4
  replace G := G.trans qg4
  have qg4_s := qg4.size
  have H1_l := H1.lt
  refine call_step rfl 11 #[.agg (prCells (toP p0 g11 g12 g13 g14))] (by kernel_rfl) (hs g11 g12 g13 g14 _) ?_
  rintro _ qw5 ⟨rfl, qg6⟩
  refine ⟨_, rfl, ?_⟩
  replace A := A.since qg6
  replace H1 := H1.since qg6
  replace G := G.trans qg6
  have qg6_s := qg6.size
  refine step_val (w' := qw5) rfl (.bool V) (by kernel_rfl) ?_
  refine wpList_frame (a' := { tmps := #[.agg (prCells p0), .pointer (some ⟨w.heap.size, 0, none⟩), .bool false, .int .i64 r, .bool V, undef, undef, .agg (prCells p0), .int .i64 1048576, .int .i64 r, .int .i64 r, .bool (decide (r < 0)), .agg (prCells p0), .agg (prCells (toP p0 g11 g12 g13 g14)), .bool V, undef, undef, undef, undef, undef, undef, undef, undef, undef, undef, undef, undef], defers := [] }) (by kernel_rfl) ?_
  go_upto_region 6 with (fail)
  refine wp_region_lit ?_
  refine load_big lpr_big (pr_size _) A rfl _ rfl rfl ?_
  refine call_step rfl 12 #[.agg (prCells p0)] (by kernel_rfl) (hT _ (wf_since u0 G)) ?_
  rintro _ qw7 ⟨g21, g22, g23, g24, rfl, H2, qg8⟩
  refine ⟨_, rfl, ?_⟩
  replace A := A.since qg8
  replace H1 := H1.since qg8
  replace G := G.trans qg8
  have qg8_s := qg8.size
  have H2_l := H2.lt
  refine step_val (w' := qw7.alloc (.cells (prCells prZero) 36)) rfl (.pointer (some ⟨qw7.heap.size, 0, none⟩)) (by kernel_rfl) ?_
  have qB10 := Blk.new qw7 (prCells prZero) 36
  have qg11 := (Since.refl qw7).alloc (.cells (prCells prZero) 36)
  replace A := A.since qg11
  replace H1 := H1.since qg11
  replace H2 := H2.since qg11
  replace G := G.trans qg11
  generalize qw7.alloc (.cells (prCells prZero) 36) = qw9 at A H1 H2 G qB10 qg11 ⊢
  have qB10_l := qB10.lt
  have qg11_s := qg11.size
  refine wpList_frame (a' := { tmps := #[.agg (prCells p0), .pointer (some ⟨w.heap.size, 0, none⟩), .bool false, .int .i64 r, .bool V, .pointer (some ⟨qw7.heap.size, 0, none⟩), undef, .agg (prCells p0), .int .i64 1048576, .int .i64 r, .int .i64 r, .bool (decide (r < 0)), .agg (prCells p0), .agg (prCells (toP p0 g11 g12 g13 g14)), .bool V, .agg (prCells p0), .agg (prCells (toP p0 g21 g22 g23 g24)), undef, undef, undef, undef, undef, undef, undef, undef, undef, undef], defers := [] }) (by kernel_rfl) ?_
  refine store_big pr_big (pr_size _) (pr_size _) (pr_one _) qB10 rfl _ _ rfl rfl rfl ?_
  intro qw12 qt13 qB14
  clear qB10
  replace A := A.touch qt13 (by omega)
  replace H1 := H1.touch qt13 (by omega)
  replace H2 := H2.touch qt13 (by omega)
  replace G := since_touch G qt13 (by omega)
  have qt13_s := qt13.size
  refine wpList_frame (a' := { tmps := #[.agg (prCells p0), .pointer (some ⟨w.heap.size, 0, none⟩), .bool false, .int .i64 r, .bool V, .pointer (some ⟨qw7.heap.size, 0, none⟩), undef, .agg (prCells p0), .int .i64 1048576, .int .i64 r, .int .i64 r, .bool (decide (r < 0)), .agg (prCells p0), .agg (prCells (toP p0 g11 g12 g13 g14)), .bool V, .agg (prCells p0), .agg (prCells (toP p0 g21 g22 g23 g24)), undef, undef, undef, undef, undef, undef, undef, undef, undef, undef], defers := [] }) (by kernel_rfl) ?_
  go_upto_region 7 with (fail)
  refine wp_region_lit ?_
  refine load_big pr_big (pr_size _) qB14 rfl _ rfl rfl ?_
  refine call_step rfl 13 #[.agg (prCells (toP p0 g21 g22 g23 g24))] (by kernel_rfl) (hi g21 g22 g23 g24 _) ?_
  rintro _ qw15 ⟨rfl, qg16⟩
  refine ⟨_, rfl, ?_⟩
  replace A := A.since qg16
  replace qB14 := qB14.since qg16
  replace H1 := H1.since qg16
  replace H2 := H2.since qg16
  replace G := G.trans qg16
  have qg16_s := qg16.size
  refine step_val (w' := qw15) rfl (.bool V) (by kernel_rfl) ?_
  refine wpList_frame (a' := { tmps := #[.agg (prCells p0), .pointer (some ⟨w.heap.size, 0, none⟩), .bool false, .int .i64 r, .bool V, .pointer (some ⟨qw7.heap.size, 0, none⟩), .bool V, .agg (prCells p0), .int .i64 1048576, .int .i64 r, .int .i64 r, .bool (decide (r < 0)), .agg (prCells p0), .agg (prCells (toP p0 g11 g12 g13 g14)), .bool V, .agg (prCells p0), .agg (prCells (toP p0 g21 g22 g23 g24)), .agg (prCells (toP p0 g21 g22 g23 g24)), .bool V, undef, undef, undef, undef, undef, undef, undef, undef], defers := [] }) (by kernel_rfl) ?_
  go_upto_region 8 with (fail)
  refine wp_region_lit ?_
  refine move_step rfl _ rfl ?_
  refine move_step rfl _ rfl ?_
  refine want_neq (by kernel_rfl) V _ _ _ rfl rfl rfl ?_
  refine wpList_frame (a' := { tmps := #[.agg (prCells p0), .pointer (some ⟨w.heap.size, 0, none⟩), .bool false, .int .i64 r, .bool V, .pointer (some ⟨qw7.heap.size, 0, none⟩), .bool V, .agg (prCells p0), .int .i64 1048576, .int .i64 r, .int .i64 r, .bool (decide (r < 0)), .agg (prCells p0), .agg (prCells (toP p0 g11 g12 g13 g14)), .bool V, .agg (prCells p0), .agg (prCells (toP p0 g21 g22 g23 g24)), .agg (prCells (toP p0 g21 g22 g23 g24)), .bool V, .bool V, .bool V, .bool false, undef, undef, undef, undef, undef], defers := [] }) (by kernel_rfl) ?_
  go_upto_region 10 with (fail)
  refine wp_region_each (wb := qw15) (fun i x v => match i with
      | 0 => v = .agg (prCells (toP p0 g21 g22 g23 g24))
      | 1 => v = .agg (prCells p0)
      | 2 => ∃ k1 k2 k3 k4, v = .agg (prCells (toP p0 k1 k2 k3 k4)) ∧ IsTo p0 pa0 pb0 xb0 xa0 x k1 k2 k3 k4
      | 3 => v = .bool true
      | 4 => v = .bool false
      | _ => True) (fun v => { tmps := #[.agg (prCells p0), .pointer (some ⟨w.heap.size, 0, none⟩), .bool false, .int .i64 r, .bool V, .pointer (some ⟨qw7.heap.size, 0, none⟩), .bool V, .agg (prCells p0), .int .i64 1048576, .int .i64 r, .int .i64 r, .bool (decide (r < 0)), .agg (prCells p0), .agg (prCells (toP p0 g11 g12 g13 g14)), .bool V, .agg (prCells p0), .agg (prCells (toP p0 g21 g22 g23 g24)), .agg (prCells (toP p0 g21 g22 g23 g24)), .bool V, .bool V, .bool V, .bool false, v 0, v 1, v 2, v 3, v 4], defers := [] }) (by kernel_rfl) (by kernel_rfl) (Since.refl _) ?_ (fun vals => by kernel_rfl) ?_ ?_
  case refine_1 =>
    intro j x x' v h1 h2
    match j, h2 with
    | 2, h2 =>
      obtain ⟨k1, k2, k3, k4, e, T⟩ := h2
      exact ⟨k1, k2, k3, k4, e, T.since h1⟩
    | 0, h2 | 1, h2 | 3, h2 | 4, h2 => exact h2
    | n + 5, _ => trivial
  case refine_2 =>
    repeat (first | exact eachDoes_nil | refine eachDoes_cons ?_ ?_)
    all_goals intro vals x hx hv
    all_goals simp [Region.binds] at hv
    · simp [does, doesUpon, go_sem, hv, Since.refl]
    · obtain ⟨h0, k1, k2, k3, k4, h2, T⟩ := hv
      simp [does, doesUpon, go_sem, h0, h2]
      refine (kE _ _ _ _ _ _ _ _ _ (H2.since hx) T).mono ?_
      rintro _ x' ⟨rfl, h1⟩
      simp [h1]
    · simp [does, doesUpon, go_sem, hv]
      refine (hT _ (wf_since u0 (G.trans hx))).mono ?_
      rintro _ x' ⟨k1, k2, k3, k4, rfl, T, h1⟩
      exact ⟨_, rfl, h1, k1, k2, k3, k4, rfl, T⟩
    · exact does_load lpr_big (pr_size _) (A.since hx) _ rfl rfl ⟨Since.refl _, rfl⟩
    · exact does_load pr_big (pr_size _) (qB14.since hx) _ rfl rfl ⟨Since.refl _, rfl⟩
  case refine_3 =>
    intro qv19 qw17 qh18 hv
    have hv0 : qv19 0 = _ := hv 0 (by decide)
    have hv1 : qv19 1 = _ := hv 1 (by decide)
    obtain ⟨k1, k2, k3, k4, hv2, -⟩ := hv 2 (by decide)
    have hv3 : qv19 3 = _ := hv 3 (by decide)
    have hv4 : qv19 4 = _ := hv 4 (by decide)
    clear hv
    simp only [hv0, hv1, hv2, hv3, hv4]
    clear hv0 hv1 hv2 hv3 hv4
    replace G := G.trans qh18
    go_wp2_with (fail)
    go_ret
    exact ⟨rfl, G⟩

set_option maxRecDepth 100000 in
theorem lifted (os : Os) (started : os.Started) (H : Type) (enc : TypeId × Value → H) :
    ReturnsInHanded {} Try.checked os 4 .any (Rows.fnExactPairOverSpec.pre6 enc Try.prog Try.f4 Rows.fnExactPairOverRow.domain false) (Rows.fnExactPairOverSpec.post enc Try.prog Try.f4 false true false false) := by
  refine returnsInHanded_of_change (C := Try.checked) own started (by kernel_rfl) Try.func4
    (ChangeSpec.witness6 (enc := enc) (C := Try.checked) false ⟨#[], #[.agg (prCells prZero)], []⟩ 8 (by kernel_rfl) (by kernel_rfl) (by kernel_rfl) (by kernel_rfl)) ?_
  intro W base args ds gs before hval0 hW hcnd _
  have hval : ∀ (j : Nat) t v, Try.f4.params[j]? = some t → args[j]? = some v → Value.okWide Try.prog W .any base t v := hval0
  have hW' := hW
  obtain ⟨p, q, hA0, hV, rfl, hfz, hnd⟩ := hW
  have hA : DataW.TrodAll enc Try.prog W 0 (fun _ => true) true Try.f4.params.toList args.toList ds p := hA0
  rw [Try.params4] at hA hval
  obtain ⟨v0, vs0, d0, ds0, p0, q0, hargs, rfl, rfl, h0, r0⟩ := trodAll_cons hA
  obtain ⟨rfl, rfl, rfl⟩ := trodAll_nil r0
  obtain rfl : args = #[v0] := by cases args; simp_all
  obtain ⟨rfl, rfl⟩ := trodVars_none hV
  have e0 := h0
  have lt0 : ∀ x ∈ p0, x.block < W.heap.size := by obtain ⟨m, hm⟩ := e0; exact DataW.trod_lt m _ _ _ hm
  obtain ⟨qv0, pav0, pbv0, xbv0, xav0, rfl, u0⟩ := open_pair (hval 0 52 v0 rfl rfl) h0
  clear hA0 hval0
  refine (walk qv0 pav0 pbv0 xbv0 xav0 W u0).mono fun e W' ⟨he, bel⟩ => ?_
  subst he
  exact ⟨_, rfl, _, _, _, [], _, [], hW', trodAll_mk1 (shut_bool Try.underlying4 _), (trodAll_cons_mk (Below.trod laidOut (by kernel_rfl) (of_decide_eq_true (by kernel_rfl)) e0 bel lt0) trodAll_mk0), rfl, bel.frame _, fun h => by cases h⟩

theorem over : Rows.fnExactPairOverRow.holds Try.pinned (OpenSpec.ofChange Rows.fnExactPairOverSpec) :=
  OpenClaim.holds_of_wide 4 Try.f4 rfl rfl rfl rfl rfl rfl rfl ⟨rfl, rfl, rfl, rfl, rfl⟩ rfl rfl rfl rfl rfl (by kernel_rfl) Try.func4 (by kernel_rfl)
    (of_decide_eq_true (by kernel_rfl)) (by unfold Func.isWrapper; first | (rw [if_pos (by decide +kernel)]; kernel_rfl) | (rw [if_neg (by decide +kernel)]; exact ⟨rfl, rfl⟩))
    (fun os started H enc _ => lifted os started H enc)

theorem proved : Rows.FnExactPairOverSaid := over
end Go.Proofs.Ytoadnhkbejnimaa.fnExactPairOver

namespace Go.Proofs.Ytoadnhkbejnimaa
theorem fnExactPairOver_holds : Rows.FnExactPairOverSaid := fnExactPairOver.proved
#print axioms fnExactPairOver_holds
end Go.Proofs.Ytoadnhkbejnimaa
