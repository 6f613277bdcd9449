/-
  The laws' szPair and toPair.
-/
import Derived.Test.YtoadnhkbejnimaaOpenPair
import Derived.Test.YtoadnhkbejnimaaLaw11
import Derived.Test.YtoadnhkbejnimaaStep
import Derived.Great.BuildSlice
import Derived.Deep.DeepCutAuto
namespace Go.Proofs.Ytoadnhkbejnimaa
open Go.ChangeShapes Go.WideShapes Go.ChangeAt Go.RowKit
set_option linter.unusedVariables false
set_option maxRecDepth 10000

theorem szInL (q : Int) (d : ByteArray) (r : Int) (a : Option Addr) (n cap : Nat) (ps : List (Int × ByteArray)) (left : Int) (h0 : 0 ≤ left) (hl : left ≤ 1048576) (w : World) (R : Rd shP w a n ps) (hsm : ∀ i, i < n → (pAt ps i).2.size ≤ maxLen) (hd : d.size ≤ maxLen) :
    Calls Try.prog 44 #[inVal q d (.slice a n cap) r, .int .i64 left] w fun e w' => (∃ r : Int, e = .returned (.int .i64 r) ∧ r ≤ left ∧ (0 ≤ r → (d.size : Int) ≤ left ∧ (n : Int) ≤ left ∧ ∀ i, i < n → ((pAt ps i).2.size : Int) ≤ left)) ∧ Since w w' := by
  unfold inVal
  unfold maxLen at hd
  have hsub : IntKind.i64.wrap (left - (d.size : Int)) = left - (d.size : Int) := by rw [IntWalk.i64_left]; exact IntWalk.wrap64_in _ ⟨by omega, by omega⟩
  have G : Since w (w.alloc (.cells #[.int .u32 q, .string d, .slice a n cap, .int .i64 r] 45)) := (Since.refl _).alloc _
  by_cases h : left - (d.size : Int) < 0
  · clear R hsm
    go_enter Try.func44, Try.ntmps44
    go_wp2
    go_ret
    exact ⟨⟨-1, rfl, by omega, by omega⟩, G⟩
  · have hs := szParts a n cap ps (left - (d.size : Int)) (by omega) (by omega) _ (R.since G) hsm
    clear R hsm
    go_enter Try.func44, Try.ntmps44
    go_wp2_with (go_at_call 57; refine hs.mono ?_; rintro _ w1 ⟨⟨r, rfl, hr1, hr2⟩, g1⟩; replace hr2 : Hid _ := hr2)
    · go_ret
      exact ⟨⟨-1, rfl, by omega, by omega⟩, G.trans g1⟩
    · go_ret
      refine ⟨⟨r, rfl, by omega, fun h0 => ?_⟩, G.trans g1⟩
      obtain ⟨h1, h2⟩ := hr2.out h0
      exact ⟨by omega, by omega, fun i hi => by have := h2 i hi; omega⟩

set_option maxHeartbeats 2000000 in
theorem szConnL (c : Cn) (ps : List (Int × ByteArray)) (l : Int) (h0 : 0 ≤ l) (hl : l ≤ 1048576) (hd : c.oD.size ≤ maxLen) (he : c.iD.size ≤ maxLen) (w : World) (R : Rd shP w c.pa c.pn ps) (hsm : ∀ i, i < c.pn → (pAt ps i).2.size ≤ maxLen) :
    Calls Try.prog 22 #[cnVal c, .int .i64 l] w fun e w' => (∃ r : Int, e = .returned (.int .i64 r) ∧ r ≤ l ∧ (0 ≤ r → (c.oD.size : Int) ≤ l ∧ (c.iD.size : Int) ≤ l ∧ (c.pn : Int) ≤ l ∧ ∀ i, i < c.pn → ((pAt ps i).2.size : Int) ≤ l)) ∧ Since w w' := by
  have k1 := fun wx => szOut c.oF c.oD c.oR l ⟨h0, hl⟩ (by unfold maxLen at hd; omega) wx
  unfold outVal at k1
  unfold cnVal
  have A := Blk.new w (cnCells c) 49
  have G := (Since.refl w).alloc (.cells (cnCells c) 49)
  by_cases h1 : (c.oD.size : Int) ≤ l
  · rw [if_pos h1] at k1
    have k2 := fun wx Rx => szInL c.iN c.iD c.iR c.pa c.pn c.pc ps (l - c.oD.size) (by omega) (by omega) wx Rx hsm he
    unfold inVal at k2
    have hp : ¬ l - (c.oD.size : Int) < 0 := by omega
    obtain ⟨q, hq⟩ : ∃ q : Int, Hid (q = l - c.oD.size) := ⟨_, rfl⟩
    rw [← hq.out] at k1 k2 hp
    have hql : q ≤ l := by rw [hq.out]; omega
    go_enter Try.func22, Try.ntmps22
    go_upto_region 1 with (fail)
    generalize w.alloc (.cells (cnCells c) 49) = x0 at A G ⊢
    have a_oF : x0.cell? ⟨w.heap.size, 8, none⟩ = some (.int .u32 c.oF) := A.cell 8
    have a_oD : x0.cell? ⟨w.heap.size, 9, none⟩ = some (.string c.oD) := A.cell 9
    have a_oR : x0.cell? ⟨w.heap.size, 10, none⟩ = some (.int .i64 c.oR) := A.cell 10
    go_wp2_with (fail)
    refine (k1 _).mono ?_
    rintro _ x1 ⟨rfl, g1⟩
    replace A := A.since g1
    replace G := G.trans g1
    have d_iN : x1.cell? ⟨w.heap.size, 11, none⟩ = some (.int .u32 c.iN) := A.cell 11
    have d_iD : x1.cell? ⟨w.heap.size, 12, none⟩ = some (.string c.iD) := A.cell 12
    have d_iP : x1.cell? ⟨w.heap.size, 13, none⟩ = some (.slice c.pa c.pn c.pc) := A.cell 13
    have d_iR : x1.cell? ⟨w.heap.size, 14, none⟩ = some (.int .i64 c.iR) := A.cell 14
    go_wp2_with (fail)
    refine (k2 _ (R.since G)).mono ?_
    rintro _ x2 ⟨⟨r, rfl, hrl, hr⟩, g2⟩
    by_cases hr0 : r < 0
    · go_wp2_with (fail)
      go_ret
      exact ⟨⟨_, rfl, by omega, fun h => by omega⟩, G.trans g2⟩
    · go_wp2_with (fail)
      go_ret
      refine ⟨⟨_, rfl, by omega, fun h => ?_⟩, G.trans g2⟩
      obtain ⟨e1, e2, e3⟩ := hr (by omega)
      exact ⟨h1, by omega, by omega, fun i hi => by have := e3 i hi; omega⟩
  · rw [if_neg h1] at k1
    go_enter Try.func22, Try.ntmps22
    go_upto_region 1 with (fail)
    generalize w.alloc (.cells (cnCells c) 49) = x0 at A G ⊢
    have a_oF : x0.cell? ⟨w.heap.size, 8, none⟩ = some (.int .u32 c.oF) := A.cell 8
    have a_oD : x0.cell? ⟨w.heap.size, 9, none⟩ = some (.string c.oD) := A.cell 9
    have a_oR : x0.cell? ⟨w.heap.size, 10, none⟩ = some (.int .i64 c.oR) := A.cell 10
    go_wp2_with (fail)
    refine (k1 _).mono ?_
    rintro _ x1 ⟨rfl, g1⟩
    go_wp2_with (fail)
    go_ret
    exact ⟨⟨_, rfl, by omega, fun h => by omega⟩, G.trans g1⟩

theorem pr_seta (p : Pr) (x : Cn) : setMany (prCells p) 0 (cnCells x).toList = prCells { p with a := x } := by kernel_rfl

theorem pr_setb (p : Pr) (x : Cn) : setMany (prCells p) 37 (cnCells x).toList = prCells { p with b := x } := by kernel_rfl

theorem results_pr {fn : Func} {t : Tmp} {b : Nat} {w : World} {p : Pr} (h : fn.results = #[.cell t 36]) (tmps : Array Value) (hp : tmps.getD t undef = .pointer (some ⟨b, 0, none⟩)) (B : Blk b w (prCells p)) : (results fn tmps).run Try.prog w = .ok (.agg (prCells p)) w := by
  have e := ret_pr B
  have hq : tmps[t]?.getD undef = .pointer (some ⟨b, 0, none⟩) := by simpa using hp
  simp [results, h, hq, asAddr, e]

set_option maxRecDepth 20000 in
theorem pr_zero_l : Try.zeroCells36 = prCells prZero := by kernel_rfl

set_option maxRecDepth 20000 in
set_option maxHeartbeats 8000000 in
theorem szPr (p : Pr) (pa pb : List (Int × ByteArray)) (xb xa : List Sg) (w : World) (u : WfPr w p pa pb xb xa) :
    Calls Try.prog 10 #[.agg (prCells p), .int .i64 1048576] w fun e w' => (∃ r : Int, e = .returned (.int .i64 r) ∧ (0 ≤ r → p.a.pn ≤ 1048576 ∧ p.b.pn ≤ 1048576 ∧ p.bn ≤ 1048576 ∧ p.an ≤ 1048576)) ∧ Since w w' := by
  have k1 := fun l (h0 : 0 ≤ l) (hl : l ≤ 1048576) wx Rx => szConnL p.a pa l h0 hl u.wa.v_oD u.wa.v_iD wx Rx (fun i hi => (u.wa.parts i hi).2)
  have k2 := fun l (h0 : 0 ≤ l) (hl : l ≤ 1048576) wx Rx => szConnL p.b pb l h0 hl u.wb.v_oD u.wb.v_iD wx Rx (fun i hi => (u.wb.parts i hi).2)
  have k3 := fun l (h0 : 0 ≤ l) (hl : l ≤ 1048576) wx Rx => szSegs p.ba p.bn p.bc xb l h0 hl wx Rx u.tb
  have k4 := fun l (h0 : 0 ≤ l) (hl : l ≤ 1048576) wx Rx => szSegs p.aa p.an p.ac xa l h0 hl wx Rx u.ta
  unfold cnVal at k1 k2
  have A := Blk.new w (prCells p) 52
  have G := (Since.refl w).alloc (.cells (prCells p) 52)
  have t1 := u.s1
  have t2 := u.s2
  have t3 := u.s3
  have t4 := u.s4
  unfold maxLen at t1 t2 t3 t4
  go_enter Try.func10, Try.ntmps10
  go_upto_region 1 with (fail)
  generalize w.alloc (.cells (prCells p) 52) = x0 at A G ⊢
  refine wp_region_lit ?_
  refine step_val (w' := x0) rfl (.pointer (some ⟨w.heap.size, 0, none⟩)) (by kernel_rfl) ?_
  refine load_pa lcn_big A rfl _ rfl rfl ?_
  refine move_step rfl _ rfl ?_
  refine call_step rfl 22 #[.agg (cnCells p.a), .int .i64 1048576] (by kernel_rfl) (k1 1048576 (by omega) (by omega) _ (u.ra.since G)) ?_
  rintro _ qw1 ⟨⟨r0, rfl, hal, ha⟩, qg2⟩
  refine ⟨_, rfl, ?_⟩
  replace A := A.since qg2
  replace G := G.trans qg2
  have qg2_s := qg2.size
  replace ha : Hid _ := ha
  refine wpList_frame (a' := { tmps := #[.agg (prCells p), .int .i64 1048576, .pointer (some ⟨w.heap.size, 0, none⟩), undef, .int .i64 0, .pointer (some ⟨w.heap.size, 0, none⟩), .agg (cnCells p.a), .int .i64 1048576, .int .i64 r0, undef, undef, undef, undef, undef, undef, undef, undef, undef, undef, undef, undef, undef, undef, undef, undef, undef, undef, undef, undef, undef, undef, undef, undef, undef, undef, undef, undef, undef, undef, undef, undef, undef, undef, undef, undef, undef, undef, undef, undef, undef, undef, undef, undef, undef, undef, undef, undef, undef], defers := [] }) (by kernel_rfl) ?_
  refine step_val (w' := qw1) rfl (.int .i64 r0) (by kernel_rfl) ?_
  refine wpList_frame (a' := { tmps := #[.agg (prCells p), .int .i64 r0, .pointer (some ⟨w.heap.size, 0, none⟩), undef, .int .i64 0, .pointer (some ⟨w.heap.size, 0, none⟩), .agg (cnCells p.a), .int .i64 1048576, .int .i64 r0, undef, undef, undef, undef, undef, undef, undef, undef, undef, undef, undef, undef, undef, undef, undef, undef, undef, undef, undef, undef, undef, undef, undef, undef, undef, undef, undef, undef, undef, undef, undef, undef, undef, undef, undef, undef, undef, undef, undef, undef, undef, undef, undef, undef, undef, undef, undef, undef, undef], defers := [] }) (by kernel_rfl) ?_
  rcases Int.lt_or_le r0 0 with hr | hr0
  · go_wp2_with (fail)
    go_ret
    exact ⟨⟨_, rfl, fun h => by omega⟩, G⟩
  go_upto_region 4 with (fail)
  refine wp_region_lit ?_
  refine step_val (w' := qw1) rfl (.pointer (some ⟨w.heap.size, 37, none⟩)) (by kernel_rfl) ?_
  refine load_pb lcn_big A rfl _ rfl rfl ?_
  refine move_step rfl _ rfl ?_
  refine call_step rfl 22 #[.agg (cnCells p.b), .int .i64 r0] (by kernel_rfl) (k2 r0 (by omega) (by omega) _ (u.rb.since G)) ?_
  rintro _ qw3 ⟨⟨r1, rfl, hbl, hb⟩, qg4⟩
  refine ⟨_, rfl, ?_⟩
  replace A := A.since qg4
  replace G := G.trans qg4
  have qg4_s := qg4.size
  replace hb : Hid _ := hb
  refine wpList_frame (a' := { tmps := #[.agg (prCells p), .int .i64 r0, .pointer (some ⟨w.heap.size, 0, none⟩), undef, .int .i64 0, .pointer (some ⟨w.heap.size, 0, none⟩), .agg (cnCells p.a), .int .i64 1048576, .int .i64 r0, .int .i64 r0, .bool (decide (r0 < 0)), .pointer (some ⟨w.heap.size, 37, none⟩), .agg (cnCells p.b), .int .i64 r0, .int .i64 r1, undef, undef, undef, undef, undef, undef, undef, undef, undef, undef, undef, undef, undef, undef, undef, undef, undef, undef, undef, undef, undef, undef, undef, undef, undef, undef, undef, undef, undef, undef, undef, undef, undef, undef, undef, undef, undef, undef, undef, undef, undef, undef, undef], defers := [] }) (by kernel_rfl) ?_
  refine step_val (w' := qw3) rfl (.int .i64 r1) (by kernel_rfl) ?_
  refine wpList_frame (a' := { tmps := #[.agg (prCells p), .int .i64 r1, .pointer (some ⟨w.heap.size, 0, none⟩), undef, .int .i64 0, .pointer (some ⟨w.heap.size, 0, none⟩), .agg (cnCells p.a), .int .i64 1048576, .int .i64 r0, .int .i64 r0, .bool (decide (r0 < 0)), .pointer (some ⟨w.heap.size, 37, none⟩), .agg (cnCells p.b), .int .i64 r0, .int .i64 r1, undef, undef, undef, undef, undef, undef, undef, undef, undef, undef, undef, undef, undef, undef, undef, undef, undef, undef, undef, undef, undef, undef, undef, undef, undef, undef, undef, undef, undef, undef, undef, undef, undef, undef, undef, undef, undef, undef, undef, undef, undef, undef, undef], defers := [] }) (by kernel_rfl) ?_
  rcases Int.lt_or_le r1 0 with hr | hr1
  · go_wp2_with (fail)
    go_ret
    exact ⟨⟨_, rfl, fun h => by omega⟩, G⟩
  go_upto_region 7 with (fail)
  refine wp_region_lit ?_
  refine step_val (w' := qw3) rfl (.pointer (some ⟨w.heap.size, 77, none⟩)) (by kernel_rfl) ?_
  refine load_cell rfl _ _ rfl _ rfl (.slice p.ba p.bn p.bc) (show qw3.cell? ⟨w.heap.size, 77, none⟩ = some (.slice p.ba p.bn p.bc) from (A.cell 77).trans (pr_tl _ 3 _ rfl)) (by kernel_rfl) ?_
  refine move_step rfl _ rfl ?_
  refine call_step rfl 23 #[.slice p.ba p.bn p.bc, .int .i64 r1] (by kernel_rfl) (k3 r1 (by omega) (by omega) _ (u.lb.since G)) ?_
  rintro _ qw5 ⟨⟨r2, rfl, hcl, hc⟩, qg6⟩
  refine ⟨_, rfl, ?_⟩
  replace A := A.since qg6
  replace G := G.trans qg6
  have qg6_s := qg6.size
  replace hc : Hid _ := hc
  refine wpList_frame (a' := { tmps := #[.agg (prCells p), .int .i64 r1, .pointer (some ⟨w.heap.size, 0, none⟩), undef, .int .i64 0, .pointer (some ⟨w.heap.size, 0, none⟩), .agg (cnCells p.a), .int .i64 1048576, .int .i64 r0, .int .i64 r0, .bool (decide (r0 < 0)), .pointer (some ⟨w.heap.size, 37, none⟩), .agg (cnCells p.b), .int .i64 r0, .int .i64 r1, .int .i64 r1, .bool (decide (r1 < 0)), .pointer (some ⟨w.heap.size, 77, none⟩), .slice p.ba p.bn p.bc, .int .i64 r1, .int .i64 r2, undef, undef, undef, undef, undef, undef, undef, undef, undef, undef, undef, undef, undef, undef, undef, undef, undef, undef, undef, undef, undef, undef, undef, undef, undef, undef, undef, undef, undef, undef, undef, undef, undef, undef, undef, undef, undef], defers := [] }) (by kernel_rfl) ?_
  refine step_val (w' := qw5) rfl (.int .i64 r2) (by kernel_rfl) ?_
  refine wpList_frame (a' := { tmps := #[.agg (prCells p), .int .i64 r2, .pointer (some ⟨w.heap.size, 0, none⟩), undef, .int .i64 0, .pointer (some ⟨w.heap.size, 0, none⟩), .agg (cnCells p.a), .int .i64 1048576, .int .i64 r0, .int .i64 r0, .bool (decide (r0 < 0)), .pointer (some ⟨w.heap.size, 37, none⟩), .agg (cnCells p.b), .int .i64 r0, .int .i64 r1, .int .i64 r1, .bool (decide (r1 < 0)), .pointer (some ⟨w.heap.size, 77, none⟩), .slice p.ba p.bn p.bc, .int .i64 r1, .int .i64 r2, undef, undef, undef, undef, undef, undef, undef, undef, undef, undef, undef, undef, undef, undef, undef, undef, undef, undef, undef, undef, undef, undef, undef, undef, undef, undef, undef, undef, undef, undef, undef, undef, undef, undef, undef, undef, undef], defers := [] }) (by kernel_rfl) ?_
  rcases Int.lt_or_le r2 0 with hr | hr2
  · go_wp2_with (fail)
    go_ret
    exact ⟨⟨_, rfl, fun h => by omega⟩, G⟩
  go_upto_region 10 with (fail)
  refine wp_region_lit ?_
  refine step_val (w' := qw5) rfl (.pointer (some ⟨w.heap.size, 78, none⟩)) (by kernel_rfl) ?_
  refine load_cell rfl _ _ rfl _ rfl (.slice p.aa p.an p.ac) (show qw5.cell? ⟨w.heap.size, 78, none⟩ = some (.slice p.aa p.an p.ac) from (A.cell 78).trans (pr_tl _ 4 _ rfl)) (by kernel_rfl) ?_
  refine move_step rfl _ rfl ?_
  refine call_step rfl 23 #[.slice p.aa p.an p.ac, .int .i64 r2] (by kernel_rfl) (k4 r2 (by omega) (by omega) _ (u.la.since G)) ?_
  rintro _ qw7 ⟨⟨r3, rfl, hdl, hd⟩, qg8⟩
  refine ⟨_, rfl, ?_⟩
  replace A := A.since qg8
  replace G := G.trans qg8
  have qg8_s := qg8.size
  replace hd : Hid _ := hd
  refine wpList_frame (a' := { tmps := #[.agg (prCells p), .int .i64 r2, .pointer (some ⟨w.heap.size, 0, none⟩), undef, .int .i64 0, .pointer (some ⟨w.heap.size, 0, none⟩), .agg (cnCells p.a), .int .i64 1048576, .int .i64 r0, .int .i64 r0, .bool (decide (r0 < 0)), .pointer (some ⟨w.heap.size, 37, none⟩), .agg (cnCells p.b), .int .i64 r0, .int .i64 r1, .int .i64 r1, .bool (decide (r1 < 0)), .pointer (some ⟨w.heap.size, 77, none⟩), .slice p.ba p.bn p.bc, .int .i64 r1, .int .i64 r2, .int .i64 r2, .bool (decide (r2 < 0)), .pointer (some ⟨w.heap.size, 78, none⟩), .slice p.aa p.an p.ac, .int .i64 r2, .int .i64 r3, undef, undef, undef, undef, undef, undef, undef, undef, undef, undef, undef, undef, undef, undef, undef, undef, undef, undef, undef, undef, undef, undef, undef, undef, undef, undef, undef, undef, undef, undef, undef], defers := [] }) (by kernel_rfl) ?_
  refine step_val (w' := qw7) rfl (.int .i64 r3) (by kernel_rfl) ?_
  refine wpList_frame (a' := { tmps := #[.agg (prCells p), .int .i64 r3, .pointer (some ⟨w.heap.size, 0, none⟩), undef, .int .i64 0, .pointer (some ⟨w.heap.size, 0, none⟩), .agg (cnCells p.a), .int .i64 1048576, .int .i64 r0, .int .i64 r0, .bool (decide (r0 < 0)), .pointer (some ⟨w.heap.size, 37, none⟩), .agg (cnCells p.b), .int .i64 r0, .int .i64 r1, .int .i64 r1, .bool (decide (r1 < 0)), .pointer (some ⟨w.heap.size, 77, none⟩), .slice p.ba p.bn p.bc, .int .i64 r1, .int .i64 r2, .int .i64 r2, .bool (decide (r2 < 0)), .pointer (some ⟨w.heap.size, 78, none⟩), .slice p.aa p.an p.ac, .int .i64 r2, .int .i64 r3, undef, undef, undef, undef, undef, undef, undef, undef, undef, undef, undef, undef, undef, undef, undef, undef, undef, undef, undef, undef, undef, undef, undef, undef, undef, undef, undef, undef, undef, undef, undef], defers := [] }) (by kernel_rfl) ?_
  rcases Int.lt_or_le r3 0 with hr | hr3
  · go_wp2_with (fail)
    go_ret
    exact ⟨⟨_, rfl, fun h => by omega⟩, G⟩
  go_upto_region 13 with (fail)
  obtain ⟨s0, hs0⟩ : ∃ q, Hid (q = r3 - (p.wA.size : Int)) := ⟨_, rfl⟩
  have hws0 : IntKind.i64.wrap (r3 - (p.wA.size : Int)) = s0 := by rw [hs0.out, IntWalk.i64_left]; exact IntWalk.wrap64_in _ ⟨by omega, by omega⟩
  have hls0 : s0 ≤ 1048576 := by have := hs0.out; omega
  replace hws0 : Hid _ := hws0
  refine wp_region_lit ?_
  refine move_step rfl _ rfl ?_
  refine step_val (w' := qw7) rfl (.pointer (some ⟨w.heap.size, 80, none⟩)) (by kernel_rfl) ?_
  refine load_cell rfl _ _ rfl _ rfl (.string p.wA) (show qw7.cell? ⟨w.heap.size, 80, none⟩ = some (.string p.wA) from (A.cell 80).trans (pr_tl _ 6 _ rfl)) (by kernel_rfl) ?_
  refine step_val (w' := qw7) rfl (.int .i64 (p.wA.size : Int)) (by simp [go_sem]) ?_
  refine wpList_frame (a' := { tmps := #[.agg (prCells p), .int .i64 r3, .pointer (some ⟨w.heap.size, 0, none⟩), undef, .int .i64 0, .pointer (some ⟨w.heap.size, 0, none⟩), .agg (cnCells p.a), .int .i64 1048576, .int .i64 r0, .int .i64 r0, .bool (decide (r0 < 0)), .pointer (some ⟨w.heap.size, 37, none⟩), .agg (cnCells p.b), .int .i64 r0, .int .i64 r1, .int .i64 r1, .bool (decide (r1 < 0)), .pointer (some ⟨w.heap.size, 77, none⟩), .slice p.ba p.bn p.bc, .int .i64 r1, .int .i64 r2, .int .i64 r2, .bool (decide (r2 < 0)), .pointer (some ⟨w.heap.size, 78, none⟩), .slice p.aa p.an p.ac, .int .i64 r2, .int .i64 r3, .int .i64 r3, .bool (decide (r3 < 0)), .int .i64 r3, .pointer (some ⟨w.heap.size, 80, none⟩), .string p.wA, .int .i64 (p.wA.size : Int), undef, undef, undef, undef, undef, undef, undef, undef, undef, undef, undef, undef, undef, undef, undef, undef, undef, undef, undef, undef, undef, undef, undef, undef, undef], defers := [] }) (by kernel_rfl) ?_
  refine step_val (w' := qw7) rfl (.int .i64 s0) (by rw [← hws0.out]; kernel_rfl) ?_
  refine step_val (w' := qw7) rfl (.int .i64 s0) (by kernel_rfl) ?_
  refine wpList_frame (a' := { tmps := #[.agg (prCells p), .int .i64 s0, .pointer (some ⟨w.heap.size, 0, none⟩), undef, .int .i64 0, .pointer (some ⟨w.heap.size, 0, none⟩), .agg (cnCells p.a), .int .i64 1048576, .int .i64 r0, .int .i64 r0, .bool (decide (r0 < 0)), .pointer (some ⟨w.heap.size, 37, none⟩), .agg (cnCells p.b), .int .i64 r0, .int .i64 r1, .int .i64 r1, .bool (decide (r1 < 0)), .pointer (some ⟨w.heap.size, 77, none⟩), .slice p.ba p.bn p.bc, .int .i64 r1, .int .i64 r2, .int .i64 r2, .bool (decide (r2 < 0)), .pointer (some ⟨w.heap.size, 78, none⟩), .slice p.aa p.an p.ac, .int .i64 r2, .int .i64 r3, .int .i64 r3, .bool (decide (r3 < 0)), .int .i64 r3, .pointer (some ⟨w.heap.size, 80, none⟩), .string p.wA, .int .i64 (p.wA.size : Int), .int .i64 s0, undef, undef, undef, undef, undef, undef, undef, undef, undef, undef, undef, undef, undef, undef, undef, undef, undef, undef, undef, undef, undef, undef, undef, undef], defers := [] }) (by kernel_rfl) ?_
  rcases Int.lt_or_le s0 0 with hr | hrs0
  · go_wp2_with (fail)
    go_ret
    exact ⟨⟨_, rfl, fun h => by omega⟩, G⟩
  go_upto_region 16 with (fail)
  obtain ⟨s1, hs1⟩ : ∃ q, Hid (q = s0 - (p.wB.size : Int)) := ⟨_, rfl⟩
  have hws1 : IntKind.i64.wrap (s0 - (p.wB.size : Int)) = s1 := by rw [hs1.out, IntWalk.i64_left]; exact IntWalk.wrap64_in _ ⟨by omega, by omega⟩
  have hls1 : s1 ≤ 1048576 := by have := hs1.out; omega
  replace hws1 : Hid _ := hws1
  refine wp_region_lit ?_
  refine move_step rfl _ rfl ?_
  refine step_val (w' := qw7) rfl (.pointer (some ⟨w.heap.size, 81, none⟩)) (by kernel_rfl) ?_
  refine load_cell rfl _ _ rfl _ rfl (.string p.wB) (show qw7.cell? ⟨w.heap.size, 81, none⟩ = some (.string p.wB) from (A.cell 81).trans (pr_tl _ 7 _ rfl)) (by kernel_rfl) ?_
  refine step_val (w' := qw7) rfl (.int .i64 (p.wB.size : Int)) (by simp [go_sem]) ?_
  refine wpList_frame (a' := { tmps := #[.agg (prCells p), .int .i64 s0, .pointer (some ⟨w.heap.size, 0, none⟩), undef, .int .i64 0, .pointer (some ⟨w.heap.size, 0, none⟩), .agg (cnCells p.a), .int .i64 1048576, .int .i64 r0, .int .i64 r0, .bool (decide (r0 < 0)), .pointer (some ⟨w.heap.size, 37, none⟩), .agg (cnCells p.b), .int .i64 r0, .int .i64 r1, .int .i64 r1, .bool (decide (r1 < 0)), .pointer (some ⟨w.heap.size, 77, none⟩), .slice p.ba p.bn p.bc, .int .i64 r1, .int .i64 r2, .int .i64 r2, .bool (decide (r2 < 0)), .pointer (some ⟨w.heap.size, 78, none⟩), .slice p.aa p.an p.ac, .int .i64 r2, .int .i64 r3, .int .i64 r3, .bool (decide (r3 < 0)), .int .i64 r3, .pointer (some ⟨w.heap.size, 80, none⟩), .string p.wA, .int .i64 (p.wA.size : Int), .int .i64 s0, .int .i64 s0, .bool (decide (s0 < 0)), .int .i64 s0, .pointer (some ⟨w.heap.size, 81, none⟩), .string p.wB, .int .i64 (p.wB.size : Int), undef, undef, undef, undef, undef, undef, undef, undef, undef, undef, undef, undef, undef, undef, undef, undef, undef, undef], defers := [] }) (by kernel_rfl) ?_
  refine step_val (w' := qw7) rfl (.int .i64 s1) (by rw [← hws1.out]; kernel_rfl) ?_
  refine step_val (w' := qw7) rfl (.int .i64 s1) (by kernel_rfl) ?_
  refine wpList_frame (a' := { tmps := #[.agg (prCells p), .int .i64 s1, .pointer (some ⟨w.heap.size, 0, none⟩), undef, .int .i64 0, .pointer (some ⟨w.heap.size, 0, none⟩), .agg (cnCells p.a), .int .i64 1048576, .int .i64 r0, .int .i64 r0, .bool (decide (r0 < 0)), .pointer (some ⟨w.heap.size, 37, none⟩), .agg (cnCells p.b), .int .i64 r0, .int .i64 r1, .int .i64 r1, .bool (decide (r1 < 0)), .pointer (some ⟨w.heap.size, 77, none⟩), .slice p.ba p.bn p.bc, .int .i64 r1, .int .i64 r2, .int .i64 r2, .bool (decide (r2 < 0)), .pointer (some ⟨w.heap.size, 78, none⟩), .slice p.aa p.an p.ac, .int .i64 r2, .int .i64 r3, .int .i64 r3, .bool (decide (r3 < 0)), .int .i64 r3, .pointer (some ⟨w.heap.size, 80, none⟩), .string p.wA, .int .i64 (p.wA.size : Int), .int .i64 s0, .int .i64 s0, .bool (decide (s0 < 0)), .int .i64 s0, .pointer (some ⟨w.heap.size, 81, none⟩), .string p.wB, .int .i64 (p.wB.size : Int), .int .i64 s1, undef, undef, undef, undef, undef, undef, undef, undef, undef, undef, undef, undef, undef, undef, undef, undef, undef], defers := [] }) (by kernel_rfl) ?_
  rcases Int.lt_or_le s1 0 with hr | hrs1
  · go_wp2_with (fail)
    go_ret
    exact ⟨⟨_, rfl, fun h => by omega⟩, G⟩
  go_upto_region 19 with (fail)
  obtain ⟨s2, hs2⟩ : ∃ q, Hid (q = s1 - (p.gA.size : Int)) := ⟨_, rfl⟩
  have hws2 : IntKind.i64.wrap (s1 - (p.gA.size : Int)) = s2 := by rw [hs2.out, IntWalk.i64_left]; exact IntWalk.wrap64_in _ ⟨by omega, by omega⟩
  have hls2 : s2 ≤ 1048576 := by have := hs2.out; omega
  replace hws2 : Hid _ := hws2
  refine wp_region_lit ?_
  refine move_step rfl _ rfl ?_
  refine step_val (w' := qw7) rfl (.pointer (some ⟨w.heap.size, 82, none⟩)) (by kernel_rfl) ?_
  refine load_cell rfl _ _ rfl _ rfl (.string p.gA) (show qw7.cell? ⟨w.heap.size, 82, none⟩ = some (.string p.gA) from (A.cell 82).trans (pr_tl _ 8 _ rfl)) (by kernel_rfl) ?_
  refine step_val (w' := qw7) rfl (.int .i64 (p.gA.size : Int)) (by simp [go_sem]) ?_
  refine wpList_frame (a' := { tmps := #[.agg (prCells p), .int .i64 s1, .pointer (some ⟨w.heap.size, 0, none⟩), undef, .int .i64 0, .pointer (some ⟨w.heap.size, 0, none⟩), .agg (cnCells p.a), .int .i64 1048576, .int .i64 r0, .int .i64 r0, .bool (decide (r0 < 0)), .pointer (some ⟨w.heap.size, 37, none⟩), .agg (cnCells p.b), .int .i64 r0, .int .i64 r1, .int .i64 r1, .bool (decide (r1 < 0)), .pointer (some ⟨w.heap.size, 77, none⟩), .slice p.ba p.bn p.bc, .int .i64 r1, .int .i64 r2, .int .i64 r2, .bool (decide (r2 < 0)), .pointer (some ⟨w.heap.size, 78, none⟩), .slice p.aa p.an p.ac, .int .i64 r2, .int .i64 r3, .int .i64 r3, .bool (decide (r3 < 0)), .int .i64 r3, .pointer (some ⟨w.heap.size, 80, none⟩), .string p.wA, .int .i64 (p.wA.size : Int), .int .i64 s0, .int .i64 s0, .bool (decide (s0 < 0)), .int .i64 s0, .pointer (some ⟨w.heap.size, 81, none⟩), .string p.wB, .int .i64 (p.wB.size : Int), .int .i64 s1, .int .i64 s1, .bool (decide (s1 < 0)), .int .i64 s1, .pointer (some ⟨w.heap.size, 82, none⟩), .string p.gA, .int .i64 (p.gA.size : Int), undef, undef, undef, undef, undef, undef, undef, undef, undef, undef, undef], defers := [] }) (by kernel_rfl) ?_
  refine step_val (w' := qw7) rfl (.int .i64 s2) (by rw [← hws2.out]; kernel_rfl) ?_
  refine step_val (w' := qw7) rfl (.int .i64 s2) (by kernel_rfl) ?_
  refine wpList_frame (a' := { tmps := #[.agg (prCells p), .int .i64 s2, .pointer (some ⟨w.heap.size, 0, none⟩), undef, .int .i64 0, .pointer (some ⟨w.heap.size, 0, none⟩), .agg (cnCells p.a), .int .i64 1048576, .int .i64 r0, .int .i64 r0, .bool (decide (r0 < 0)), .pointer (some ⟨w.heap.size, 37, none⟩), .agg (cnCells p.b), .int .i64 r0, .int .i64 r1, .int .i64 r1, .bool (decide (r1 < 0)), .pointer (some ⟨w.heap.size, 77, none⟩), .slice p.ba p.bn p.bc, .int .i64 r1, .int .i64 r2, .int .i64 r2, .bool (decide (r2 < 0)), .pointer (some ⟨w.heap.size, 78, none⟩), .slice p.aa p.an p.ac, .int .i64 r2, .int .i64 r3, .int .i64 r3, .bool (decide (r3 < 0)), .int .i64 r3, .pointer (some ⟨w.heap.size, 80, none⟩), .string p.wA, .int .i64 (p.wA.size : Int), .int .i64 s0, .int .i64 s0, .bool (decide (s0 < 0)), .int .i64 s0, .pointer (some ⟨w.heap.size, 81, none⟩), .string p.wB, .int .i64 (p.wB.size : Int), .int .i64 s1, .int .i64 s1, .bool (decide (s1 < 0)), .int .i64 s1, .pointer (some ⟨w.heap.size, 82, none⟩), .string p.gA, .int .i64 (p.gA.size : Int), .int .i64 s2, undef, undef, undef, undef, undef, undef, undef, undef, undef, undef], defers := [] }) (by kernel_rfl) ?_
  rcases Int.lt_or_le s2 0 with hr | hrs2
  · go_wp2_with (fail)
    go_ret
    exact ⟨⟨_, rfl, fun h => by omega⟩, G⟩
  go_upto_region 22 with (fail)
  obtain ⟨s3, hs3⟩ : ∃ q, Hid (q = s2 - (p.gB.size : Int)) := ⟨_, rfl⟩
  have hws3 : IntKind.i64.wrap (s2 - (p.gB.size : Int)) = s3 := by rw [hs3.out, IntWalk.i64_left]; exact IntWalk.wrap64_in _ ⟨by omega, by omega⟩
  have hls3 : s3 ≤ 1048576 := by have := hs3.out; omega
  replace hws3 : Hid _ := hws3
  refine wp_region_lit ?_
  refine move_step rfl _ rfl ?_
  refine step_val (w' := qw7) rfl (.pointer (some ⟨w.heap.size, 83, none⟩)) (by kernel_rfl) ?_
  refine load_cell rfl _ _ rfl _ rfl (.string p.gB) (show qw7.cell? ⟨w.heap.size, 83, none⟩ = some (.string p.gB) from (A.cell 83).trans (pr_tl _ 9 _ rfl)) (by kernel_rfl) ?_
  refine step_val (w' := qw7) rfl (.int .i64 (p.gB.size : Int)) (by simp [go_sem]) ?_
  refine wpList_frame (a' := { tmps := #[.agg (prCells p), .int .i64 s2, .pointer (some ⟨w.heap.size, 0, none⟩), undef, .int .i64 0, .pointer (some ⟨w.heap.size, 0, none⟩), .agg (cnCells p.a), .int .i64 1048576, .int .i64 r0, .int .i64 r0, .bool (decide (r0 < 0)), .pointer (some ⟨w.heap.size, 37, none⟩), .agg (cnCells p.b), .int .i64 r0, .int .i64 r1, .int .i64 r1, .bool (decide (r1 < 0)), .pointer (some ⟨w.heap.size, 77, none⟩), .slice p.ba p.bn p.bc, .int .i64 r1, .int .i64 r2, .int .i64 r2, .bool (decide (r2 < 0)), .pointer (some ⟨w.heap.size, 78, none⟩), .slice p.aa p.an p.ac, .int .i64 r2, .int .i64 r3, .int .i64 r3, .bool (decide (r3 < 0)), .int .i64 r3, .pointer (some ⟨w.heap.size, 80, none⟩), .string p.wA, .int .i64 (p.wA.size : Int), .int .i64 s0, .int .i64 s0, .bool (decide (s0 < 0)), .int .i64 s0, .pointer (some ⟨w.heap.size, 81, none⟩), .string p.wB, .int .i64 (p.wB.size : Int), .int .i64 s1, .int .i64 s1, .bool (decide (s1 < 0)), .int .i64 s1, .pointer (some ⟨w.heap.size, 82, none⟩), .string p.gA, .int .i64 (p.gA.size : Int), .int .i64 s2, .int .i64 s2, .bool (decide (s2 < 0)), .int .i64 s2, .pointer (some ⟨w.heap.size, 83, none⟩), .string p.gB, .int .i64 (p.gB.size : Int), undef, undef, undef, undef], defers := [] }) (by kernel_rfl) ?_
  refine step_val (w' := qw7) rfl (.int .i64 s3) (by rw [← hws3.out]; kernel_rfl) ?_
  refine step_val (w' := qw7) rfl (.int .i64 s3) (by kernel_rfl) ?_
  refine wpList_frame (a' := { tmps := #[.agg (prCells p), .int .i64 s3, .pointer (some ⟨w.heap.size, 0, none⟩), undef, .int .i64 0, .pointer (some ⟨w.heap.size, 0, none⟩), .agg (cnCells p.a), .int .i64 1048576, .int .i64 r0, .int .i64 r0, .bool (decide (r0 < 0)), .pointer (some ⟨w.heap.size, 37, none⟩), .agg (cnCells p.b), .int .i64 r0, .int .i64 r1, .int .i64 r1, .bool (decide (r1 < 0)), .pointer (some ⟨w.heap.size, 77, none⟩), .slice p.ba p.bn p.bc, .int .i64 r1, .int .i64 r2, .int .i64 r2, .bool (decide (r2 < 0)), .pointer (some ⟨w.heap.size, 78, none⟩), .slice p.aa p.an p.ac, .int .i64 r2, .int .i64 r3, .int .i64 r3, .bool (decide (r3 < 0)), .int .i64 r3, .pointer (some ⟨w.heap.size, 80, none⟩), .string p.wA, .int .i64 (p.wA.size : Int), .int .i64 s0, .int .i64 s0, .bool (decide (s0 < 0)), .int .i64 s0, .pointer (some ⟨w.heap.size, 81, none⟩), .string p.wB, .int .i64 (p.wB.size : Int), .int .i64 s1, .int .i64 s1, .bool (decide (s1 < 0)), .int .i64 s1, .pointer (some ⟨w.heap.size, 82, none⟩), .string p.gA, .int .i64 (p.gA.size : Int), .int .i64 s2, .int .i64 s2, .bool (decide (s2 < 0)), .int .i64 s2, .pointer (some ⟨w.heap.size, 83, none⟩), .string p.gB, .int .i64 (p.gB.size : Int), .int .i64 s3, undef, undef, undef], defers := [] }) (by kernel_rfl) ?_
  rcases Int.lt_or_le s3 0 with hr | hrs3
  · go_wp2_with (fail)
    go_ret
    exact ⟨⟨_, rfl, fun h => by omega⟩, G⟩
  go_wp2_with (fail)
  go_ret
  refine ⟨⟨_, rfl, fun h => ?_⟩, G⟩
  have e1 := (ha.out hr0).2.2.1
  have e2 := (hb.out hr1).2.2.1
  have e3 := hc.out hr2
  have e4 := hd.out hr3
  omega

set_option maxRecDepth 20000 in
set_option maxHeartbeats 8000000 in
theorem toPr (p : Pr) (pa pb : List (Int × ByteArray)) (xb xa : List Sg) (hn : p.a.pn ≤ 1048576 ∧ p.b.pn ≤ 1048576 ∧ p.bn ≤ 1048576 ∧ p.an ≤ 1048576) (w : World) (u : WfPr w p pa pb xb xa) :
    Calls Try.prog 12 #[.agg (prCells p)] w fun e w' => ∃ g1 g2 g3 g4, e = .returned (.agg (prCells { p with a := { p.a with pa := some ⟨g1, 0, none⟩, pc := p.a.pn }, b := { p.b with pa := some ⟨g2, 0, none⟩, pc := p.b.pn }, ba := some ⟨g3, 0, none⟩, bc := p.bn, aa := some ⟨g4, 0, none⟩, ac := p.an })) ∧ Held shP w' w.heap.size g1 p.a.pn p.a.pn pa ∧ Held shP w' w.heap.size g2 p.b.pn p.b.pn pb ∧ Held shG w' w.heap.size g3 p.bn p.bn xb ∧ Held shG w' w.heap.size g4 p.an p.an xa ∧ Since w w' := by
  obtain ⟨n1, n2, n3, n4⟩ := hn
  have k1 : ∀ wx, Rd shP wx p.a.pa p.a.pn pa → Calls Try.prog 25 #[.agg (cnCells p.a)] wx fun e w' => ∃ g X, e = .returned (.agg (cnCells X)) ∧ Hid (X = { p.a with pa := some ⟨g, 0, none⟩, pc := p.a.pn }) ∧ Held shP w' wx.heap.size g p.a.pn p.a.pn pa ∧ Since wx w' := fun wx Rx => (toConn p.a pa n1 wx Rx).mono (by rintro e w' ⟨g, rfl, H, s⟩; exact ⟨g, _, rfl, rfl, H, s⟩)
  have k2 : ∀ wx, Rd shP wx p.b.pa p.b.pn pb → Calls Try.prog 25 #[.agg (cnCells p.b)] wx fun e w' => ∃ g X, e = .returned (.agg (cnCells X)) ∧ Hid (X = { p.b with pa := some ⟨g, 0, none⟩, pc := p.b.pn }) ∧ Held shP w' wx.heap.size g p.b.pn p.b.pn pb ∧ Since wx w' := fun wx Rx => (toConn p.b pb n2 wx Rx).mono (by rintro e w' ⟨g, rfl, H, s⟩; exact ⟨g, _, rfl, rfl, H, s⟩)
  have k3 := fun wx Rx => toSegs p.ba p.bn p.bc xb n3 wx Rx
  have k4 := fun wx Rx => toSegs p.aa p.an p.ac xa n4 wx Rx
  have G := ((Since.refl w).alloc (.cells (prCells p) 52)).alloc (.cells (prCells prZero) 36)
  have A := (Blk.new w (prCells p) 52).since ((Since.refl _).alloc (.cells (prCells prZero) 36))
  have Z := Blk.new (w.alloc (.cells (prCells p) 52)) (prCells prZero) 36
  rw [World.size_alloc] at Z
  go_enter Try.func12, Try.ntmps12
  go_upto_region 1 with (fail)
  rw [pr_zero_l]
  generalize (w.alloc (.cells (prCells p) 52)).alloc (.cells (prCells prZero) 36) = x0 at A Z G ⊢
  have hZ := Z.lt
  refine wp_region_lit ?_
  refine step_val (w' := x0.alloc (.cells (prCells prZero) 36)) rfl (.pointer (some ⟨x0.heap.size, 0, none⟩)) (by kernel_rfl) ?_
  have qB2 := Blk.new x0 (prCells prZero) 36
  have qg3 := (Since.refl x0).alloc (.cells (prCells prZero) 36)
  replace A := A.since qg3
  replace Z := Z.since qg3
  replace G := G.trans qg3
  generalize x0.alloc (.cells (prCells prZero) 36) = qw1 at A Z G qB2 qg3 ⊢
  have qB2_l := qB2.lt
  have qg3_s := qg3.size
  refine wpList_frame (a' := { tmps := #[.agg (prCells p), .pointer (some ⟨w.heap.size, 0, none⟩), .pointer (some ⟨w.heap.size + 1, 0, none⟩), .pointer (some ⟨x0.heap.size, 0, none⟩), undef, undef, undef, undef, undef, undef, undef, undef, undef, undef, undef, undef, undef, undef, undef, undef, undef, undef, undef, undef, undef, undef, undef, undef, undef, undef, undef, undef, undef, undef, undef, undef, undef, undef, undef, undef, undef, undef, undef, undef, undef], defers := [] }) (by kernel_rfl) ?_
  go_upto_region 2 with (fail)
  refine wp_region_lit ?_
  refine step_val (w' := qw1) rfl (.pointer (some ⟨w.heap.size, 0, none⟩)) (by kernel_rfl) ?_
  refine load_pa lcn_big A rfl _ rfl rfl ?_
  refine call_step rfl 25 #[.agg (cnCells p.a)] (by kernel_rfl) (k1 _ (u.ra.since G)) ?_
  rintro _ qw4 ⟨gk1, Xk1, rfl, ek1, Hk1, qg5⟩
  refine ⟨_, rfl, ?_⟩
  replace A := A.since qg5
  replace Z := Z.since qg5
  replace qB2 := qB2.since qg5
  replace G := G.trans qg5
  have qg5_s := qg5.size
  have Hk1_0 := Hk1.low'
  replace Hk1 := Hk1.raise (show w.heap.size ≤ gk1 by omega)
  have Hk1_1 := Hk1.lt
  refine step_val (w' := qw4) rfl (.pointer (some ⟨x0.heap.size, 0, none⟩)) (by kernel_rfl) ?_
  refine wpList_frame (a' := { tmps := #[.agg (prCells p), .pointer (some ⟨w.heap.size, 0, none⟩), .pointer (some ⟨w.heap.size + 1, 0, none⟩), .pointer (some ⟨x0.heap.size, 0, none⟩), .pointer (some ⟨w.heap.size, 0, none⟩), .agg (cnCells p.a), .agg (cnCells Xk1), .pointer (some ⟨x0.heap.size, 0, none⟩), undef, undef, undef, undef, undef, undef, undef, undef, undef, undef, undef, undef, undef, undef, undef, undef, undef, undef, undef, undef, undef, undef, undef, undef, undef, undef, undef, undef, undef, undef, undef, undef, undef, undef, undef, undef, undef], defers := [] }) (by kernel_rfl) ?_
  refine store_part (cs' := prCells { prZero with a := Xk1 }) qB2 rfl cn_big _ _ rfl 0 rfl (cnCells Xk1) rfl rfl (cn_one _) (by rw [pr_size]; decide) (pr_seta _ _) ?_
  intro qw6 qt7 qB8
  clear qB2
  replace A := A.touch qt7 (by omega)
  replace Z := Z.touch qt7 (by omega)
  replace Hk1 := Hk1.touch qt7 (by omega)
  replace G := since_touch G qt7 (by omega)
  have qt7_s := qt7.size
  refine wpList_frame (a' := { tmps := #[.agg (prCells p), .pointer (some ⟨w.heap.size, 0, none⟩), .pointer (some ⟨w.heap.size + 1, 0, none⟩), .pointer (some ⟨x0.heap.size, 0, none⟩), .pointer (some ⟨w.heap.size, 0, none⟩), .agg (cnCells p.a), .agg (cnCells Xk1), .pointer (some ⟨x0.heap.size, 0, none⟩), undef, undef, undef, undef, undef, undef, undef, undef, undef, undef, undef, undef, undef, undef, undef, undef, undef, undef, undef, undef, undef, undef, undef, undef, undef, undef, undef, undef, undef, undef, undef, undef, undef, undef, undef, undef, undef], defers := [] }) (by kernel_rfl) ?_
  go_upto_region 3 with (fail)
  refine wp_region_lit ?_
  refine step_val (w' := qw6) rfl (.pointer (some ⟨w.heap.size, 37, none⟩)) (by kernel_rfl) ?_
  refine load_pb lcn_big A rfl _ rfl rfl ?_
  refine call_step rfl 25 #[.agg (cnCells p.b)] (by kernel_rfl) (k2 _ (u.rb.since G)) ?_
  rintro _ qw9 ⟨gk2, Xk2, rfl, ek2, Hk2, qg10⟩
  refine ⟨_, rfl, ?_⟩
  replace A := A.since qg10
  replace Z := Z.since qg10
  replace qB8 := qB8.since qg10
  replace Hk1 := Hk1.since qg10
  replace G := G.trans qg10
  have qg10_s := qg10.size
  have Hk2_0 := Hk2.low'
  replace Hk2 := Hk2.raise (show w.heap.size ≤ gk2 by omega)
  have Hk2_1 := Hk2.lt
  refine step_val (w' := qw9) rfl (.pointer (some ⟨x0.heap.size, 37, none⟩)) (by kernel_rfl) ?_
  refine wpList_frame (a' := { tmps := #[.agg (prCells p), .pointer (some ⟨w.heap.size, 0, none⟩), .pointer (some ⟨w.heap.size + 1, 0, none⟩), .pointer (some ⟨x0.heap.size, 0, none⟩), .pointer (some ⟨w.heap.size, 0, none⟩), .agg (cnCells p.a), .agg (cnCells Xk1), .pointer (some ⟨x0.heap.size, 0, none⟩), .pointer (some ⟨w.heap.size, 37, none⟩), .agg (cnCells p.b), .agg (cnCells Xk2), .pointer (some ⟨x0.heap.size, 37, none⟩), undef, undef, undef, undef, undef, undef, undef, undef, undef, undef, undef, undef, undef, undef, undef, undef, undef, undef, undef, undef, undef, undef, undef, undef, undef, undef, undef, undef, undef, undef, undef, undef, undef], defers := [] }) (by kernel_rfl) ?_
  refine store_part (cs' := prCells { prZero with a := Xk1, b := Xk2 }) qB8 rfl cn_big _ _ rfl 37 rfl (cnCells Xk2) rfl rfl (cn_one _) (by rw [pr_size]; decide) (pr_setb _ _) ?_
  intro qw11 qt12 qB13
  clear qB8
  replace A := A.touch qt12 (by omega)
  replace Z := Z.touch qt12 (by omega)
  replace Hk1 := Hk1.touch qt12 (by omega)
  replace Hk2 := Hk2.touch qt12 (by omega)
  replace G := since_touch G qt12 (by omega)
  have qt12_s := qt12.size
  refine wpList_frame (a' := { tmps := #[.agg (prCells p), .pointer (some ⟨w.heap.size, 0, none⟩), .pointer (some ⟨w.heap.size + 1, 0, none⟩), .pointer (some ⟨x0.heap.size, 0, none⟩), .pointer (some ⟨w.heap.size, 0, none⟩), .agg (cnCells p.a), .agg (cnCells Xk1), .pointer (some ⟨x0.heap.size, 0, none⟩), .pointer (some ⟨w.heap.size, 37, none⟩), .agg (cnCells p.b), .agg (cnCells Xk2), .pointer (some ⟨x0.heap.size, 37, none⟩), undef, undef, undef, undef, undef, undef, undef, undef, undef, undef, undef, undef, undef, undef, undef, undef, undef, undef, undef, undef, undef, undef, undef, undef, undef, undef, undef, undef, undef, undef, undef, undef, undef], defers := [] }) (by kernel_rfl) ?_
  go_upto_region 4 with (fail)
  refine wp_region_lit ?_
  refine step_val (w' := qw11) rfl (.pointer (some ⟨w.heap.size, 74, none⟩)) (by kernel_rfl) ?_
  refine load_cell rfl _ _ rfl _ rfl (.bool p.hd) (show qw11.cell? ⟨w.heap.size, 74, none⟩ = some (.bool p.hd) from (A.cell 74).trans (pr_tl _ 0 _ rfl)) (by kernel_rfl) ?_
  refine step_val (w' := qw11) rfl (.pointer (some ⟨x0.heap.size, 74, none⟩)) (by kernel_rfl) ?_
  refine wpList_frame (a' := { tmps := #[.agg (prCells p), .pointer (some ⟨w.heap.size, 0, none⟩), .pointer (some ⟨w.heap.size + 1, 0, none⟩), .pointer (some ⟨x0.heap.size, 0, none⟩), .pointer (some ⟨w.heap.size, 0, none⟩), .agg (cnCells p.a), .agg (cnCells Xk1), .pointer (some ⟨x0.heap.size, 0, none⟩), .pointer (some ⟨w.heap.size, 37, none⟩), .agg (cnCells p.b), .agg (cnCells Xk2), .pointer (some ⟨x0.heap.size, 37, none⟩), .pointer (some ⟨w.heap.size, 74, none⟩), .bool p.hd, .pointer (some ⟨x0.heap.size, 74, none⟩), undef, undef, undef, undef, undef, undef, undef, undef, undef, undef, undef, undef, undef, undef, undef, undef, undef, undef, undef, undef, undef, undef, undef, undef, undef, undef, undef, undef, undef, undef], defers := [] }) (by kernel_rfl) ?_
  refine store_cell (cs' := prCells { prZero with a := Xk1, b := Xk2, hd := p.hd }) qB13 rfl _ _ _ rfl 74 rfl (.bool p.hd) rfl rfl (by kernel_rfl) (by rw [pr_size]; decide) (by kernel_rfl) ?_
  intro qw14 qt15 qB16
  clear qB13
  replace A := A.touch qt15 (by omega)
  replace Z := Z.touch qt15 (by omega)
  replace Hk1 := Hk1.touch qt15 (by omega)
  replace Hk2 := Hk2.touch qt15 (by omega)
  replace G := since_touch G qt15 (by omega)
  have qt15_s := qt15.size
  refine wpList_frame (a' := { tmps := #[.agg (prCells p), .pointer (some ⟨w.heap.size, 0, none⟩), .pointer (some ⟨w.heap.size + 1, 0, none⟩), .pointer (some ⟨x0.heap.size, 0, none⟩), .pointer (some ⟨w.heap.size, 0, none⟩), .agg (cnCells p.a), .agg (cnCells Xk1), .pointer (some ⟨x0.heap.size, 0, none⟩), .pointer (some ⟨w.heap.size, 37, none⟩), .agg (cnCells p.b), .agg (cnCells Xk2), .pointer (some ⟨x0.heap.size, 37, none⟩), .pointer (some ⟨w.heap.size, 74, none⟩), .bool p.hd, .pointer (some ⟨x0.heap.size, 74, none⟩), undef, undef, undef, undef, undef, undef, undef, undef, undef, undef, undef, undef, undef, undef, undef, undef, undef, undef, undef, undef, undef, undef, undef, undef, undef, undef, undef, undef, undef, undef], defers := [] }) (by kernel_rfl) ?_
  go_upto_region 5 with (fail)
  refine wp_region_lit ?_
  refine step_val (w' := qw14) rfl (.pointer (some ⟨w.heap.size, 75, none⟩)) (by kernel_rfl) ?_
  refine load_cell rfl _ _ rfl _ rfl (.int .u32 p.ib) (show qw14.cell? ⟨w.heap.size, 75, none⟩ = some (.int .u32 p.ib) from (A.cell 75).trans (pr_tl _ 1 _ rfl)) (by kernel_rfl) ?_
  refine step_val (w' := qw14) rfl (.pointer (some ⟨x0.heap.size, 75, none⟩)) (by kernel_rfl) ?_
  refine wpList_frame (a' := { tmps := #[.agg (prCells p), .pointer (some ⟨w.heap.size, 0, none⟩), .pointer (some ⟨w.heap.size + 1, 0, none⟩), .pointer (some ⟨x0.heap.size, 0, none⟩), .pointer (some ⟨w.heap.size, 0, none⟩), .agg (cnCells p.a), .agg (cnCells Xk1), .pointer (some ⟨x0.heap.size, 0, none⟩), .pointer (some ⟨w.heap.size, 37, none⟩), .agg (cnCells p.b), .agg (cnCells Xk2), .pointer (some ⟨x0.heap.size, 37, none⟩), .pointer (some ⟨w.heap.size, 74, none⟩), .bool p.hd, .pointer (some ⟨x0.heap.size, 74, none⟩), .pointer (some ⟨w.heap.size, 75, none⟩), .int .u32 p.ib, .pointer (some ⟨x0.heap.size, 75, none⟩), undef, undef, undef, undef, undef, undef, undef, undef, undef, undef, undef, undef, undef, undef, undef, undef, undef, undef, undef, undef, undef, undef, undef, undef, undef, undef, undef], defers := [] }) (by kernel_rfl) ?_
  refine store_cell (cs' := prCells { prZero with a := Xk1, b := Xk2, hd := p.hd, ib := p.ib }) qB16 rfl _ _ _ rfl 75 rfl (.int .u32 p.ib) rfl rfl (by kernel_rfl) (by rw [pr_size]; decide) (by kernel_rfl) ?_
  intro qw17 qt18 qB19
  clear qB16
  replace A := A.touch qt18 (by omega)
  replace Z := Z.touch qt18 (by omega)
  replace Hk1 := Hk1.touch qt18 (by omega)
  replace Hk2 := Hk2.touch qt18 (by omega)
  replace G := since_touch G qt18 (by omega)
  have qt18_s := qt18.size
  refine wpList_frame (a' := { tmps := #[.agg (prCells p), .pointer (some ⟨w.heap.size, 0, none⟩), .pointer (some ⟨w.heap.size + 1, 0, none⟩), .pointer (some ⟨x0.heap.size, 0, none⟩), .pointer (some ⟨w.heap.size, 0, none⟩), .agg (cnCells p.a), .agg (cnCells Xk1), .pointer (some ⟨x0.heap.size, 0, none⟩), .pointer (some ⟨w.heap.size, 37, none⟩), .agg (cnCells p.b), .agg (cnCells Xk2), .pointer (some ⟨x0.heap.size, 37, none⟩), .pointer (some ⟨w.heap.size, 74, none⟩), .bool p.hd, .pointer (some ⟨x0.heap.size, 74, none⟩), .pointer (some ⟨w.heap.size, 75, none⟩), .int .u32 p.ib, .pointer (some ⟨x0.heap.size, 75, none⟩), undef, undef, undef, undef, undef, undef, undef, undef, undef, undef, undef, undef, undef, undef, undef, undef, undef, undef, undef, undef, undef, undef, undef, undef, undef, undef, undef], defers := [] }) (by kernel_rfl) ?_
  go_upto_region 6 with (fail)
  refine wp_region_lit ?_
  refine step_val (w' := qw17) rfl (.pointer (some ⟨w.heap.size, 76, none⟩)) (by kernel_rfl) ?_
  refine load_cell rfl _ _ rfl _ rfl (.int .i64 p.rm) (show qw17.cell? ⟨w.heap.size, 76, none⟩ = some (.int .i64 p.rm) from (A.cell 76).trans (pr_tl _ 2 _ rfl)) (by kernel_rfl) ?_
  refine step_val (w' := qw17) rfl (.pointer (some ⟨x0.heap.size, 76, none⟩)) (by kernel_rfl) ?_
  refine wpList_frame (a' := { tmps := #[.agg (prCells p), .pointer (some ⟨w.heap.size, 0, none⟩), .pointer (some ⟨w.heap.size + 1, 0, none⟩), .pointer (some ⟨x0.heap.size, 0, none⟩), .pointer (some ⟨w.heap.size, 0, none⟩), .agg (cnCells p.a), .agg (cnCells Xk1), .pointer (some ⟨x0.heap.size, 0, none⟩), .pointer (some ⟨w.heap.size, 37, none⟩), .agg (cnCells p.b), .agg (cnCells Xk2), .pointer (some ⟨x0.heap.size, 37, none⟩), .pointer (some ⟨w.heap.size, 74, none⟩), .bool p.hd, .pointer (some ⟨x0.heap.size, 74, none⟩), .pointer (some ⟨w.heap.size, 75, none⟩), .int .u32 p.ib, .pointer (some ⟨x0.heap.size, 75, none⟩), .pointer (some ⟨w.heap.size, 76, none⟩), .int .i64 p.rm, .pointer (some ⟨x0.heap.size, 76, none⟩), undef, undef, undef, undef, undef, undef, undef, undef, undef, undef, undef, undef, undef, undef, undef, undef, undef, undef, undef, undef, undef, undef, undef, undef], defers := [] }) (by kernel_rfl) ?_
  refine store_cell (cs' := prCells { prZero with a := Xk1, b := Xk2, hd := p.hd, ib := p.ib, rm := p.rm }) qB19 rfl _ _ _ rfl 76 rfl (.int .i64 p.rm) rfl rfl (by kernel_rfl) (by rw [pr_size]; decide) (by kernel_rfl) ?_
  intro qw20 qt21 qB22
  clear qB19
  replace A := A.touch qt21 (by omega)
  replace Z := Z.touch qt21 (by omega)
  replace Hk1 := Hk1.touch qt21 (by omega)
  replace Hk2 := Hk2.touch qt21 (by omega)
  replace G := since_touch G qt21 (by omega)
  have qt21_s := qt21.size
  refine wpList_frame (a' := { tmps := #[.agg (prCells p), .pointer (some ⟨w.heap.size, 0, none⟩), .pointer (some ⟨w.heap.size + 1, 0, none⟩), .pointer (some ⟨x0.heap.size, 0, none⟩), .pointer (some ⟨w.heap.size, 0, none⟩), .agg (cnCells p.a), .agg (cnCells Xk1), .pointer (some ⟨x0.heap.size, 0, none⟩), .pointer (some ⟨w.heap.size, 37, none⟩), .agg (cnCells p.b), .agg (cnCells Xk2), .pointer (some ⟨x0.heap.size, 37, none⟩), .pointer (some ⟨w.heap.size, 74, none⟩), .bool p.hd, .pointer (some ⟨x0.heap.size, 74, none⟩), .pointer (some ⟨w.heap.size, 75, none⟩), .int .u32 p.ib, .pointer (some ⟨x0.heap.size, 75, none⟩), .pointer (some ⟨w.heap.size, 76, none⟩), .int .i64 p.rm, .pointer (some ⟨x0.heap.size, 76, none⟩), undef, undef, undef, undef, undef, undef, undef, undef, undef, undef, undef, undef, undef, undef, undef, undef, undef, undef, undef, undef, undef, undef, undef, undef], defers := [] }) (by kernel_rfl) ?_
  go_upto_region 7 with (fail)
  refine wp_region_lit ?_
  refine step_val (w' := qw20) rfl (.pointer (some ⟨w.heap.size, 77, none⟩)) (by kernel_rfl) ?_
  refine load_cell rfl _ _ rfl _ rfl (.slice p.ba p.bn p.bc) (show qw20.cell? ⟨w.heap.size, 77, none⟩ = some (.slice p.ba p.bn p.bc) from (A.cell 77).trans (pr_tl _ 3 _ rfl)) (by kernel_rfl) ?_
  refine call_step rfl 26 #[.slice p.ba p.bn p.bc] (by kernel_rfl) (k3 _ (u.lb.since G)) ?_
  rintro _ qw23 ⟨gk3, rfl, Hk3, qg24⟩
  refine ⟨_, rfl, ?_⟩
  replace A := A.since qg24
  replace Z := Z.since qg24
  replace qB22 := qB22.since qg24
  replace Hk1 := Hk1.since qg24
  replace Hk2 := Hk2.since qg24
  replace G := G.trans qg24
  have qg24_s := qg24.size
  have Hk3_0 := Hk3.low'
  replace Hk3 := Hk3.raise (show w.heap.size ≤ gk3 by omega)
  have Hk3_1 := Hk3.lt
  refine step_val (w' := qw23) rfl (.pointer (some ⟨x0.heap.size, 77, none⟩)) (by kernel_rfl) ?_
  refine wpList_frame (a' := { tmps := #[.agg (prCells p), .pointer (some ⟨w.heap.size, 0, none⟩), .pointer (some ⟨w.heap.size + 1, 0, none⟩), .pointer (some ⟨x0.heap.size, 0, none⟩), .pointer (some ⟨w.heap.size, 0, none⟩), .agg (cnCells p.a), .agg (cnCells Xk1), .pointer (some ⟨x0.heap.size, 0, none⟩), .pointer (some ⟨w.heap.size, 37, none⟩), .agg (cnCells p.b), .agg (cnCells Xk2), .pointer (some ⟨x0.heap.size, 37, none⟩), .pointer (some ⟨w.heap.size, 74, none⟩), .bool p.hd, .pointer (some ⟨x0.heap.size, 74, none⟩), .pointer (some ⟨w.heap.size, 75, none⟩), .int .u32 p.ib, .pointer (some ⟨x0.heap.size, 75, none⟩), .pointer (some ⟨w.heap.size, 76, none⟩), .int .i64 p.rm, .pointer (some ⟨x0.heap.size, 76, none⟩), .pointer (some ⟨w.heap.size, 77, none⟩), .slice p.ba p.bn p.bc, .slice (some ⟨gk3, 0, none⟩) p.bn p.bn, .pointer (some ⟨x0.heap.size, 77, none⟩), undef, undef, undef, undef, undef, undef, undef, undef, undef, undef, undef, undef, undef, undef, undef, undef, undef, undef, undef, undef], defers := [] }) (by kernel_rfl) ?_
  refine store_cell (cs' := prCells { prZero with a := Xk1, b := Xk2, hd := p.hd, ib := p.ib, rm := p.rm, ba := (some ⟨gk3, 0, none⟩), bn := p.bn, bc := p.bn }) qB22 rfl _ _ _ rfl 77 rfl (.slice (some ⟨gk3, 0, none⟩) p.bn p.bn) rfl rfl (by kernel_rfl) (by rw [pr_size]; decide) (by kernel_rfl) ?_
  intro qw25 qt26 qB27
  clear qB22
  replace A := A.touch qt26 (by omega)
  replace Z := Z.touch qt26 (by omega)
  replace Hk1 := Hk1.touch qt26 (by omega)
  replace Hk2 := Hk2.touch qt26 (by omega)
  replace Hk3 := Hk3.touch qt26 (by omega)
  replace G := since_touch G qt26 (by omega)
  have qt26_s := qt26.size
  refine wpList_frame (a' := { tmps := #[.agg (prCells p), .pointer (some ⟨w.heap.size, 0, none⟩), .pointer (some ⟨w.heap.size + 1, 0, none⟩), .pointer (some ⟨x0.heap.size, 0, none⟩), .pointer (some ⟨w.heap.size, 0, none⟩), .agg (cnCells p.a), .agg (cnCells Xk1), .pointer (some ⟨x0.heap.size, 0, none⟩), .pointer (some ⟨w.heap.size, 37, none⟩), .agg (cnCells p.b), .agg (cnCells Xk2), .pointer (some ⟨x0.heap.size, 37, none⟩), .pointer (some ⟨w.heap.size, 74, none⟩), .bool p.hd, .pointer (some ⟨x0.heap.size, 74, none⟩), .pointer (some ⟨w.heap.size, 75, none⟩), .int .u32 p.ib, .pointer (some ⟨x0.heap.size, 75, none⟩), .pointer (some ⟨w.heap.size, 76, none⟩), .int .i64 p.rm, .pointer (some ⟨x0.heap.size, 76, none⟩), .pointer (some ⟨w.heap.size, 77, none⟩), .slice p.ba p.bn p.bc, .slice (some ⟨gk3, 0, none⟩) p.bn p.bn, .pointer (some ⟨x0.heap.size, 77, none⟩), undef, undef, undef, undef, undef, undef, undef, undef, undef, undef, undef, undef, undef, undef, undef, undef, undef, undef, undef, undef], defers := [] }) (by kernel_rfl) ?_
  go_upto_region 8 with (fail)
  refine wp_region_lit ?_
  refine step_val (w' := qw25) rfl (.pointer (some ⟨w.heap.size, 78, none⟩)) (by kernel_rfl) ?_
  refine load_cell rfl _ _ rfl _ rfl (.slice p.aa p.an p.ac) (show qw25.cell? ⟨w.heap.size, 78, none⟩ = some (.slice p.aa p.an p.ac) from (A.cell 78).trans (pr_tl _ 4 _ rfl)) (by kernel_rfl) ?_
  refine call_step rfl 26 #[.slice p.aa p.an p.ac] (by kernel_rfl) (k4 _ (u.la.since G)) ?_
  rintro _ qw28 ⟨gk4, rfl, Hk4, qg29⟩
  refine ⟨_, rfl, ?_⟩
  replace A := A.since qg29
  replace Z := Z.since qg29
  replace qB27 := qB27.since qg29
  replace Hk1 := Hk1.since qg29
  replace Hk2 := Hk2.since qg29
  replace Hk3 := Hk3.since qg29
  replace G := G.trans qg29
  have qg29_s := qg29.size
  have Hk4_0 := Hk4.low'
  replace Hk4 := Hk4.raise (show w.heap.size ≤ gk4 by omega)
  have Hk4_1 := Hk4.lt
  refine step_val (w' := qw28) rfl (.pointer (some ⟨x0.heap.size, 78, none⟩)) (by kernel_rfl) ?_
  refine wpList_frame (a' := { tmps := #[.agg (prCells p), .pointer (some ⟨w.heap.size, 0, none⟩), .pointer (some ⟨w.heap.size + 1, 0, none⟩), .pointer (some ⟨x0.heap.size, 0, none⟩), .pointer (some ⟨w.heap.size, 0, none⟩), .agg (cnCells p.a), .agg (cnCells Xk1), .pointer (some ⟨x0.heap.size, 0, none⟩), .pointer (some ⟨w.heap.size, 37, none⟩), .agg (cnCells p.b), .agg (cnCells Xk2), .pointer (some ⟨x0.heap.size, 37, none⟩), .pointer (some ⟨w.heap.size, 74, none⟩), .bool p.hd, .pointer (some ⟨x0.heap.size, 74, none⟩), .pointer (some ⟨w.heap.size, 75, none⟩), .int .u32 p.ib, .pointer (some ⟨x0.heap.size, 75, none⟩), .pointer (some ⟨w.heap.size, 76, none⟩), .int .i64 p.rm, .pointer (some ⟨x0.heap.size, 76, none⟩), .pointer (some ⟨w.heap.size, 77, none⟩), .slice p.ba p.bn p.bc, .slice (some ⟨gk3, 0, none⟩) p.bn p.bn, .pointer (some ⟨x0.heap.size, 77, none⟩), .pointer (some ⟨w.heap.size, 78, none⟩), .slice p.aa p.an p.ac, .slice (some ⟨gk4, 0, none⟩) p.an p.an, .pointer (some ⟨x0.heap.size, 78, none⟩), undef, undef, undef, undef, undef, undef, undef, undef, undef, undef, undef, undef, undef, undef, undef, undef], defers := [] }) (by kernel_rfl) ?_
  refine store_cell (cs' := prCells { prZero with a := Xk1, b := Xk2, hd := p.hd, ib := p.ib, rm := p.rm, ba := (some ⟨gk3, 0, none⟩), bn := p.bn, bc := p.bn, aa := (some ⟨gk4, 0, none⟩), an := p.an, ac := p.an }) qB27 rfl _ _ _ rfl 78 rfl (.slice (some ⟨gk4, 0, none⟩) p.an p.an) rfl rfl (by kernel_rfl) (by rw [pr_size]; decide) (by kernel_rfl) ?_
  intro qw30 qt31 qB32
  clear qB27
  replace A := A.touch qt31 (by omega)
  replace Z := Z.touch qt31 (by omega)
  replace Hk1 := Hk1.touch qt31 (by omega)
  replace Hk2 := Hk2.touch qt31 (by omega)
  replace Hk3 := Hk3.touch qt31 (by omega)
  replace Hk4 := Hk4.touch qt31 (by omega)
  replace G := since_touch G qt31 (by omega)
  have qt31_s := qt31.size
  refine wpList_frame (a' := { tmps := #[.agg (prCells p), .pointer (some ⟨w.heap.size, 0, none⟩), .pointer (some ⟨w.heap.size + 1, 0, none⟩), .pointer (some ⟨x0.heap.size, 0, none⟩), .pointer (some ⟨w.heap.size, 0, none⟩), .agg (cnCells p.a), .agg (cnCells Xk1), .pointer (some ⟨x0.heap.size, 0, none⟩), .pointer (some ⟨w.heap.size, 37, none⟩), .agg (cnCells p.b), .agg (cnCells Xk2), .pointer (some ⟨x0.heap.size, 37, none⟩), .pointer (some ⟨w.heap.size, 74, none⟩), .bool p.hd, .pointer (some ⟨x0.heap.size, 74, none⟩), .pointer (some ⟨w.heap.size, 75, none⟩), .int .u32 p.ib, .pointer (some ⟨x0.heap.size, 75, none⟩), .pointer (some ⟨w.heap.size, 76, none⟩), .int .i64 p.rm, .pointer (some ⟨x0.heap.size, 76, none⟩), .pointer (some ⟨w.heap.size, 77, none⟩), .slice p.ba p.bn p.bc, .slice (some ⟨gk3, 0, none⟩) p.bn p.bn, .pointer (some ⟨x0.heap.size, 77, none⟩), .pointer (some ⟨w.heap.size, 78, none⟩), .slice p.aa p.an p.ac, .slice (some ⟨gk4, 0, none⟩) p.an p.an, .pointer (some ⟨x0.heap.size, 78, none⟩), undef, undef, undef, undef, undef, undef, undef, undef, undef, undef, undef, undef, undef, undef, undef, undef], defers := [] }) (by kernel_rfl) ?_
  go_upto_region 9 with (fail)
  refine wp_region_lit ?_
  refine step_val (w' := qw30) rfl (.pointer (some ⟨w.heap.size, 79, none⟩)) (by kernel_rfl) ?_
  refine load_cell rfl _ _ rfl _ rfl (.int .i64 p.now) (show qw30.cell? ⟨w.heap.size, 79, none⟩ = some (.int .i64 p.now) from (A.cell 79).trans (pr_tl _ 5 _ rfl)) (by kernel_rfl) ?_
  refine step_val (w' := qw30) rfl (.pointer (some ⟨x0.heap.size, 79, none⟩)) (by kernel_rfl) ?_
  refine wpList_frame (a' := { tmps := #[.agg (prCells p), .pointer (some ⟨w.heap.size, 0, none⟩), .pointer (some ⟨w.heap.size + 1, 0, none⟩), .pointer (some ⟨x0.heap.size, 0, none⟩), .pointer (some ⟨w.heap.size, 0, none⟩), .agg (cnCells p.a), .agg (cnCells Xk1), .pointer (some ⟨x0.heap.size, 0, none⟩), .pointer (some ⟨w.heap.size, 37, none⟩), .agg (cnCells p.b), .agg (cnCells Xk2), .pointer (some ⟨x0.heap.size, 37, none⟩), .pointer (some ⟨w.heap.size, 74, none⟩), .bool p.hd, .pointer (some ⟨x0.heap.size, 74, none⟩), .pointer (some ⟨w.heap.size, 75, none⟩), .int .u32 p.ib, .pointer (some ⟨x0.heap.size, 75, none⟩), .pointer (some ⟨w.heap.size, 76, none⟩), .int .i64 p.rm, .pointer (some ⟨x0.heap.size, 76, none⟩), .pointer (some ⟨w.heap.size, 77, none⟩), .slice p.ba p.bn p.bc, .slice (some ⟨gk3, 0, none⟩) p.bn p.bn, .pointer (some ⟨x0.heap.size, 77, none⟩), .pointer (some ⟨w.heap.size, 78, none⟩), .slice p.aa p.an p.ac, .slice (some ⟨gk4, 0, none⟩) p.an p.an, .pointer (some ⟨x0.heap.size, 78, none⟩), .pointer (some ⟨w.heap.size, 79, none⟩), .int .i64 p.now, .pointer (some ⟨x0.heap.size, 79, none⟩), undef, undef, undef, undef, undef, undef, undef, undef, undef, undef, undef, undef, undef], defers := [] }) (by kernel_rfl) ?_
  refine store_cell (cs' := prCells { prZero with a := Xk1, b := Xk2, hd := p.hd, ib := p.ib, rm := p.rm, ba := (some ⟨gk3, 0, none⟩), bn := p.bn, bc := p.bn, aa := (some ⟨gk4, 0, none⟩), an := p.an, ac := p.an, now := p.now }) qB32 rfl _ _ _ rfl 79 rfl (.int .i64 p.now) rfl rfl (by kernel_rfl) (by rw [pr_size]; decide) (by kernel_rfl) ?_
  intro qw33 qt34 qB35
  clear qB32
  replace A := A.touch qt34 (by omega)
  replace Z := Z.touch qt34 (by omega)
  replace Hk1 := Hk1.touch qt34 (by omega)
  replace Hk2 := Hk2.touch qt34 (by omega)
  replace Hk3 := Hk3.touch qt34 (by omega)
  replace Hk4 := Hk4.touch qt34 (by omega)
  replace G := since_touch G qt34 (by omega)
  have qt34_s := qt34.size
  refine wpList_frame (a' := { tmps := #[.agg (prCells p), .pointer (some ⟨w.heap.size, 0, none⟩), .pointer (some ⟨w.heap.size + 1, 0, none⟩), .pointer (some ⟨x0.heap.size, 0, none⟩), .pointer (some ⟨w.heap.size, 0, none⟩), .agg (cnCells p.a), .agg (cnCells Xk1), .pointer (some ⟨x0.heap.size, 0, none⟩), .pointer (some ⟨w.heap.size, 37, none⟩), .agg (cnCells p.b), .agg (cnCells Xk2), .pointer (some ⟨x0.heap.size, 37, none⟩), .pointer (some ⟨w.heap.size, 74, none⟩), .bool p.hd, .pointer (some ⟨x0.heap.size, 74, none⟩), .pointer (some ⟨w.heap.size, 75, none⟩), .int .u32 p.ib, .pointer (some ⟨x0.heap.size, 75, none⟩), .pointer (some ⟨w.heap.size, 76, none⟩), .int .i64 p.rm, .pointer (some ⟨x0.heap.size, 76, none⟩), .pointer (some ⟨w.heap.size, 77, none⟩), .slice p.ba p.bn p.bc, .slice (some ⟨gk3, 0, none⟩) p.bn p.bn, .pointer (some ⟨x0.heap.size, 77, none⟩), .pointer (some ⟨w.heap.size, 78, none⟩), .slice p.aa p.an p.ac, .slice (some ⟨gk4, 0, none⟩) p.an p.an, .pointer (some ⟨x0.heap.size, 78, none⟩), .pointer (some ⟨w.heap.size, 79, none⟩), .int .i64 p.now, .pointer (some ⟨x0.heap.size, 79, none⟩), undef, undef, undef, undef, undef, undef, undef, undef, undef, undef, undef, undef, undef], defers := [] }) (by kernel_rfl) ?_
  go_upto_region 10 with (fail)
  refine wp_region_lit ?_
  refine step_val (w' := qw33) rfl (.pointer (some ⟨w.heap.size, 80, none⟩)) (by kernel_rfl) ?_
  refine load_cell rfl _ _ rfl _ rfl (.string p.wA) (show qw33.cell? ⟨w.heap.size, 80, none⟩ = some (.string p.wA) from (A.cell 80).trans (pr_tl _ 6 _ rfl)) (by kernel_rfl) ?_
  refine step_val (w' := qw33) rfl (.pointer (some ⟨x0.heap.size, 80, none⟩)) (by kernel_rfl) ?_
  refine wpList_frame (a' := { tmps := #[.agg (prCells p), .pointer (some ⟨w.heap.size, 0, none⟩), .pointer (some ⟨w.heap.size + 1, 0, none⟩), .pointer (some ⟨x0.heap.size, 0, none⟩), .pointer (some ⟨w.heap.size, 0, none⟩), .agg (cnCells p.a), .agg (cnCells Xk1), .pointer (some ⟨x0.heap.size, 0, none⟩), .pointer (some ⟨w.heap.size, 37, none⟩), .agg (cnCells p.b), .agg (cnCells Xk2), .pointer (some ⟨x0.heap.size, 37, none⟩), .pointer (some ⟨w.heap.size, 74, none⟩), .bool p.hd, .pointer (some ⟨x0.heap.size, 74, none⟩), .pointer (some ⟨w.heap.size, 75, none⟩), .int .u32 p.ib, .pointer (some ⟨x0.heap.size, 75, none⟩), .pointer (some ⟨w.heap.size, 76, none⟩), .int .i64 p.rm, .pointer (some ⟨x0.heap.size, 76, none⟩), .pointer (some ⟨w.heap.size, 77, none⟩), .slice p.ba p.bn p.bc, .slice (some ⟨gk3, 0, none⟩) p.bn p.bn, .pointer (some ⟨x0.heap.size, 77, none⟩), .pointer (some ⟨w.heap.size, 78, none⟩), .slice p.aa p.an p.ac, .slice (some ⟨gk4, 0, none⟩) p.an p.an, .pointer (some ⟨x0.heap.size, 78, none⟩), .pointer (some ⟨w.heap.size, 79, none⟩), .int .i64 p.now, .pointer (some ⟨x0.heap.size, 79, none⟩), .pointer (some ⟨w.heap.size, 80, none⟩), .string p.wA, .pointer (some ⟨x0.heap.size, 80, none⟩), undef, undef, undef, undef, undef, undef, undef, undef, undef, undef], defers := [] }) (by kernel_rfl) ?_
  refine store_cell (cs' := prCells { prZero with a := Xk1, b := Xk2, hd := p.hd, ib := p.ib, rm := p.rm, ba := (some ⟨gk3, 0, none⟩), bn := p.bn, bc := p.bn, aa := (some ⟨gk4, 0, none⟩), an := p.an, ac := p.an, now := p.now, wA := p.wA }) qB35 rfl _ _ _ rfl 80 rfl (.string p.wA) rfl rfl (by kernel_rfl) (by rw [pr_size]; decide) (by kernel_rfl) ?_
  intro qw36 qt37 qB38
  clear qB35
  replace A := A.touch qt37 (by omega)
  replace Z := Z.touch qt37 (by omega)
  replace Hk1 := Hk1.touch qt37 (by omega)
  replace Hk2 := Hk2.touch qt37 (by omega)
  replace Hk3 := Hk3.touch qt37 (by omega)
  replace Hk4 := Hk4.touch qt37 (by omega)
  replace G := since_touch G qt37 (by omega)
  have qt37_s := qt37.size
  refine wpList_frame (a' := { tmps := #[.agg (prCells p), .pointer (some ⟨w.heap.size, 0, none⟩), .pointer (some ⟨w.heap.size + 1, 0, none⟩), .pointer (some ⟨x0.heap.size, 0, none⟩), .pointer (some ⟨w.heap.size, 0, none⟩), .agg (cnCells p.a), .agg (cnCells Xk1), .pointer (some ⟨x0.heap.size, 0, none⟩), .pointer (some ⟨w.heap.size, 37, none⟩), .agg (cnCells p.b), .agg (cnCells Xk2), .pointer (some ⟨x0.heap.size, 37, none⟩), .pointer (some ⟨w.heap.size, 74, none⟩), .bool p.hd, .pointer (some ⟨x0.heap.size, 74, none⟩), .pointer (some ⟨w.heap.size, 75, none⟩), .int .u32 p.ib, .pointer (some ⟨x0.heap.size, 75, none⟩), .pointer (some ⟨w.heap.size, 76, none⟩), .int .i64 p.rm, .pointer (some ⟨x0.heap.size, 76, none⟩), .pointer (some ⟨w.heap.size, 77, none⟩), .slice p.ba p.bn p.bc, .slice (some ⟨gk3, 0, none⟩) p.bn p.bn, .pointer (some ⟨x0.heap.size, 77, none⟩), .pointer (some ⟨w.heap.size, 78, none⟩), .slice p.aa p.an p.ac, .slice (some ⟨gk4, 0, none⟩) p.an p.an, .pointer (some ⟨x0.heap.size, 78, none⟩), .pointer (some ⟨w.heap.size, 79, none⟩), .int .i64 p.now, .pointer (some ⟨x0.heap.size, 79, none⟩), .pointer (some ⟨w.heap.size, 80, none⟩), .string p.wA, .pointer (some ⟨x0.heap.size, 80, none⟩), undef, undef, undef, undef, undef, undef, undef, undef, undef, undef], defers := [] }) (by kernel_rfl) ?_
  go_upto_region 11 with (fail)
  refine wp_region_lit ?_
  refine step_val (w' := qw36) rfl (.pointer (some ⟨w.heap.size, 81, none⟩)) (by kernel_rfl) ?_
  refine load_cell rfl _ _ rfl _ rfl (.string p.wB) (show qw36.cell? ⟨w.heap.size, 81, none⟩ = some (.string p.wB) from (A.cell 81).trans (pr_tl _ 7 _ rfl)) (by kernel_rfl) ?_
  refine step_val (w' := qw36) rfl (.pointer (some ⟨x0.heap.size, 81, none⟩)) (by kernel_rfl) ?_
  refine wpList_frame (a' := { tmps := #[.agg (prCells p), .pointer (some ⟨w.heap.size, 0, none⟩), .pointer (some ⟨w.heap.size + 1, 0, none⟩), .pointer (some ⟨x0.heap.size, 0, none⟩), .pointer (some ⟨w.heap.size, 0, none⟩), .agg (cnCells p.a), .agg (cnCells Xk1), .pointer (some ⟨x0.heap.size, 0, none⟩), .pointer (some ⟨w.heap.size, 37, none⟩), .agg (cnCells p.b), .agg (cnCells Xk2), .pointer (some ⟨x0.heap.size, 37, none⟩), .pointer (some ⟨w.heap.size, 74, none⟩), .bool p.hd, .pointer (some ⟨x0.heap.size, 74, none⟩), .pointer (some ⟨w.heap.size, 75, none⟩), .int .u32 p.ib, .pointer (some ⟨x0.heap.size, 75, none⟩), .pointer (some ⟨w.heap.size, 76, none⟩), .int .i64 p.rm, .pointer (some ⟨x0.heap.size, 76, none⟩), .pointer (some ⟨w.heap.size, 77, none⟩), .slice p.ba p.bn p.bc, .slice (some ⟨gk3, 0, none⟩) p.bn p.bn, .pointer (some ⟨x0.heap.size, 77, none⟩), .pointer (some ⟨w.heap.size, 78, none⟩), .slice p.aa p.an p.ac, .slice (some ⟨gk4, 0, none⟩) p.an p.an, .pointer (some ⟨x0.heap.size, 78, none⟩), .pointer (some ⟨w.heap.size, 79, none⟩), .int .i64 p.now, .pointer (some ⟨x0.heap.size, 79, none⟩), .pointer (some ⟨w.heap.size, 80, none⟩), .string p.wA, .pointer (some ⟨x0.heap.size, 80, none⟩), .pointer (some ⟨w.heap.size, 81, none⟩), .string p.wB, .pointer (some ⟨x0.heap.size, 81, none⟩), undef, undef, undef, undef, undef, undef, undef], defers := [] }) (by kernel_rfl) ?_
  refine store_cell (cs' := prCells { prZero with a := Xk1, b := Xk2, hd := p.hd, ib := p.ib, rm := p.rm, ba := (some ⟨gk3, 0, none⟩), bn := p.bn, bc := p.bn, aa := (some ⟨gk4, 0, none⟩), an := p.an, ac := p.an, now := p.now, wA := p.wA, wB := p.wB }) qB38 rfl _ _ _ rfl 81 rfl (.string p.wB) rfl rfl (by kernel_rfl) (by rw [pr_size]; decide) (by kernel_rfl) ?_
  intro qw39 qt40 qB41
  clear qB38
  replace A := A.touch qt40 (by omega)
  replace Z := Z.touch qt40 (by omega)
  replace Hk1 := Hk1.touch qt40 (by omega)
  replace Hk2 := Hk2.touch qt40 (by omega)
  replace Hk3 := Hk3.touch qt40 (by omega)
  replace Hk4 := Hk4.touch qt40 (by omega)
  replace G := since_touch G qt40 (by omega)
  have qt40_s := qt40.size
  refine wpList_frame (a' := { tmps := #[.agg (prCells p), .pointer (some ⟨w.heap.size, 0, none⟩), .pointer (some ⟨w.heap.size + 1, 0, none⟩), .pointer (some ⟨x0.heap.size, 0, none⟩), .pointer (some ⟨w.heap.size, 0, none⟩), .agg (cnCells p.a), .agg (cnCells Xk1), .pointer (some ⟨x0.heap.size, 0, none⟩), .pointer (some ⟨w.heap.size, 37, none⟩), .agg (cnCells p.b), .agg (cnCells Xk2), .pointer (some ⟨x0.heap.size, 37, none⟩), .pointer (some ⟨w.heap.size, 74, none⟩), .bool p.hd, .pointer (some ⟨x0.heap.size, 74, none⟩), .pointer (some ⟨w.heap.size, 75, none⟩), .int .u32 p.ib, .pointer (some ⟨x0.heap.size, 75, none⟩), .pointer (some ⟨w.heap.size, 76, none⟩), .int .i64 p.rm, .pointer (some ⟨x0.heap.size, 76, none⟩), .pointer (some ⟨w.heap.size, 77, none⟩), .slice p.ba p.bn p.bc, .slice (some ⟨gk3, 0, none⟩) p.bn p.bn, .pointer (some ⟨x0.heap.size, 77, none⟩), .pointer (some ⟨w.heap.size, 78, none⟩), .slice p.aa p.an p.ac, .slice (some ⟨gk4, 0, none⟩) p.an p.an, .pointer (some ⟨x0.heap.size, 78, none⟩), .pointer (some ⟨w.heap.size, 79, none⟩), .int .i64 p.now, .pointer (some ⟨x0.heap.size, 79, none⟩), .pointer (some ⟨w.heap.size, 80, none⟩), .string p.wA, .pointer (some ⟨x0.heap.size, 80, none⟩), .pointer (some ⟨w.heap.size, 81, none⟩), .string p.wB, .pointer (some ⟨x0.heap.size, 81, none⟩), undef, undef, undef, undef, undef, undef, undef], defers := [] }) (by kernel_rfl) ?_
  go_upto_region 12 with (fail)
  refine wp_region_lit ?_
  refine step_val (w' := qw39) rfl (.pointer (some ⟨w.heap.size, 82, none⟩)) (by kernel_rfl) ?_
  refine load_cell rfl _ _ rfl _ rfl (.string p.gA) (show qw39.cell? ⟨w.heap.size, 82, none⟩ = some (.string p.gA) from (A.cell 82).trans (pr_tl _ 8 _ rfl)) (by kernel_rfl) ?_
  refine step_val (w' := qw39) rfl (.pointer (some ⟨x0.heap.size, 82, none⟩)) (by kernel_rfl) ?_
  refine wpList_frame (a' := { tmps := #[.agg (prCells p), .pointer (some ⟨w.heap.size, 0, none⟩), .pointer (some ⟨w.heap.size + 1, 0, none⟩), .pointer (some ⟨x0.heap.size, 0, none⟩), .pointer (some ⟨w.heap.size, 0, none⟩), .agg (cnCells p.a), .agg (cnCells Xk1), .pointer (some ⟨x0.heap.size, 0, none⟩), .pointer (some ⟨w.heap.size, 37, none⟩), .agg (cnCells p.b), .agg (cnCells Xk2), .pointer (some ⟨x0.heap.size, 37, none⟩), .pointer (some ⟨w.heap.size, 74, none⟩), .bool p.hd, .pointer (some ⟨x0.heap.size, 74, none⟩), .pointer (some ⟨w.heap.size, 75, none⟩), .int .u32 p.ib, .pointer (some ⟨x0.heap.size, 75, none⟩), .pointer (some ⟨w.heap.size, 76, none⟩), .int .i64 p.rm, .pointer (some ⟨x0.heap.size, 76, none⟩), .pointer (some ⟨w.heap.size, 77, none⟩), .slice p.ba p.bn p.bc, .slice (some ⟨gk3, 0, none⟩) p.bn p.bn, .pointer (some ⟨x0.heap.size, 77, none⟩), .pointer (some ⟨w.heap.size, 78, none⟩), .slice p.aa p.an p.ac, .slice (some ⟨gk4, 0, none⟩) p.an p.an, .pointer (some ⟨x0.heap.size, 78, none⟩), .pointer (some ⟨w.heap.size, 79, none⟩), .int .i64 p.now, .pointer (some ⟨x0.heap.size, 79, none⟩), .pointer (some ⟨w.heap.size, 80, none⟩), .string p.wA, .pointer (some ⟨x0.heap.size, 80, none⟩), .pointer (some ⟨w.heap.size, 81, none⟩), .string p.wB, .pointer (some ⟨x0.heap.size, 81, none⟩), .pointer (some ⟨w.heap.size, 82, none⟩), .string p.gA, .pointer (some ⟨x0.heap.size, 82, none⟩), undef, undef, undef, undef], defers := [] }) (by kernel_rfl) ?_
  refine store_cell (cs' := prCells { prZero with a := Xk1, b := Xk2, hd := p.hd, ib := p.ib, rm := p.rm, ba := (some ⟨gk3, 0, none⟩), bn := p.bn, bc := p.bn, aa := (some ⟨gk4, 0, none⟩), an := p.an, ac := p.an, now := p.now, wA := p.wA, wB := p.wB, gA := p.gA }) qB41 rfl _ _ _ rfl 82 rfl (.string p.gA) rfl rfl (by kernel_rfl) (by rw [pr_size]; decide) (by kernel_rfl) ?_
  intro qw42 qt43 qB44
  clear qB41
  replace A := A.touch qt43 (by omega)
  replace Z := Z.touch qt43 (by omega)
  replace Hk1 := Hk1.touch qt43 (by omega)
  replace Hk2 := Hk2.touch qt43 (by omega)
  replace Hk3 := Hk3.touch qt43 (by omega)
  replace Hk4 := Hk4.touch qt43 (by omega)
  replace G := since_touch G qt43 (by omega)
  have qt43_s := qt43.size
  refine wpList_frame (a' := { tmps := #[.agg (prCells p), .pointer (some ⟨w.heap.size, 0, none⟩), .pointer (some ⟨w.heap.size + 1, 0, none⟩), .pointer (some ⟨x0.heap.size, 0, none⟩), .pointer (some ⟨w.heap.size, 0, none⟩), .agg (cnCells p.a), .agg (cnCells Xk1), .pointer (some ⟨x0.heap.size, 0, none⟩), .pointer (some ⟨w.heap.size, 37, none⟩), .agg (cnCells p.b), .agg (cnCells Xk2), .pointer (some ⟨x0.heap.size, 37, none⟩), .pointer (some ⟨w.heap.size, 74, none⟩), .bool p.hd, .pointer (some ⟨x0.heap.size, 74, none⟩), .pointer (some ⟨w.heap.size, 75, none⟩), .int .u32 p.ib, .pointer (some ⟨x0.heap.size, 75, none⟩), .pointer (some ⟨w.heap.size, 76, none⟩), .int .i64 p.rm, .pointer (some ⟨x0.heap.size, 76, none⟩), .pointer (some ⟨w.heap.size, 77, none⟩), .slice p.ba p.bn p.bc, .slice (some ⟨gk3, 0, none⟩) p.bn p.bn, .pointer (some ⟨x0.heap.size, 77, none⟩), .pointer (some ⟨w.heap.size, 78, none⟩), .slice p.aa p.an p.ac, .slice (some ⟨gk4, 0, none⟩) p.an p.an, .pointer (some ⟨x0.heap.size, 78, none⟩), .pointer (some ⟨w.heap.size, 79, none⟩), .int .i64 p.now, .pointer (some ⟨x0.heap.size, 79, none⟩), .pointer (some ⟨w.heap.size, 80, none⟩), .string p.wA, .pointer (some ⟨x0.heap.size, 80, none⟩), .pointer (some ⟨w.heap.size, 81, none⟩), .string p.wB, .pointer (some ⟨x0.heap.size, 81, none⟩), .pointer (some ⟨w.heap.size, 82, none⟩), .string p.gA, .pointer (some ⟨x0.heap.size, 82, none⟩), undef, undef, undef, undef], defers := [] }) (by kernel_rfl) ?_
  go_upto_region 13 with (fail)
  refine wp_region_lit ?_
  refine step_val (w' := qw42) rfl (.pointer (some ⟨w.heap.size, 83, none⟩)) (by kernel_rfl) ?_
  refine load_cell rfl _ _ rfl _ rfl (.string p.gB) (show qw42.cell? ⟨w.heap.size, 83, none⟩ = some (.string p.gB) from (A.cell 83).trans (pr_tl _ 9 _ rfl)) (by kernel_rfl) ?_
  refine step_val (w' := qw42) rfl (.pointer (some ⟨x0.heap.size, 83, none⟩)) (by kernel_rfl) ?_
  refine wpList_frame (a' := { tmps := #[.agg (prCells p), .pointer (some ⟨w.heap.size, 0, none⟩), .pointer (some ⟨w.heap.size + 1, 0, none⟩), .pointer (some ⟨x0.heap.size, 0, none⟩), .pointer (some ⟨w.heap.size, 0, none⟩), .agg (cnCells p.a), .agg (cnCells Xk1), .pointer (some ⟨x0.heap.size, 0, none⟩), .pointer (some ⟨w.heap.size, 37, none⟩), .agg (cnCells p.b), .agg (cnCells Xk2), .pointer (some ⟨x0.heap.size, 37, none⟩), .pointer (some ⟨w.heap.size, 74, none⟩), .bool p.hd, .pointer (some ⟨x0.heap.size, 74, none⟩), .pointer (some ⟨w.heap.size, 75, none⟩), .int .u32 p.ib, .pointer (some ⟨x0.heap.size, 75, none⟩), .pointer (some ⟨w.heap.size, 76, none⟩), .int .i64 p.rm, .pointer (some ⟨x0.heap.size, 76, none⟩), .pointer (some ⟨w.heap.size, 77, none⟩), .slice p.ba p.bn p.bc, .slice (some ⟨gk3, 0, none⟩) p.bn p.bn, .pointer (some ⟨x0.heap.size, 77, none⟩), .pointer (some ⟨w.heap.size, 78, none⟩), .slice p.aa p.an p.ac, .slice (some ⟨gk4, 0, none⟩) p.an p.an, .pointer (some ⟨x0.heap.size, 78, none⟩), .pointer (some ⟨w.heap.size, 79, none⟩), .int .i64 p.now, .pointer (some ⟨x0.heap.size, 79, none⟩), .pointer (some ⟨w.heap.size, 80, none⟩), .string p.wA, .pointer (some ⟨x0.heap.size, 80, none⟩), .pointer (some ⟨w.heap.size, 81, none⟩), .string p.wB, .pointer (some ⟨x0.heap.size, 81, none⟩), .pointer (some ⟨w.heap.size, 82, none⟩), .string p.gA, .pointer (some ⟨x0.heap.size, 82, none⟩), .pointer (some ⟨w.heap.size, 83, none⟩), .string p.gB, .pointer (some ⟨x0.heap.size, 83, none⟩), undef], defers := [] }) (by kernel_rfl) ?_
  refine store_cell (cs' := prCells { prZero with a := Xk1, b := Xk2, hd := p.hd, ib := p.ib, rm := p.rm, ba := (some ⟨gk3, 0, none⟩), bn := p.bn, bc := p.bn, aa := (some ⟨gk4, 0, none⟩), an := p.an, ac := p.an, now := p.now, wA := p.wA, wB := p.wB, gA := p.gA, gB := p.gB }) qB44 rfl _ _ _ rfl 83 rfl (.string p.gB) rfl rfl (by kernel_rfl) (by rw [pr_size]; decide) (by kernel_rfl) ?_
  intro qw45 qt46 qB47
  clear qB44
  replace A := A.touch qt46 (by omega)
  replace Z := Z.touch qt46 (by omega)
  replace Hk1 := Hk1.touch qt46 (by omega)
  replace Hk2 := Hk2.touch qt46 (by omega)
  replace Hk3 := Hk3.touch qt46 (by omega)
  replace Hk4 := Hk4.touch qt46 (by omega)
  replace G := since_touch G qt46 (by omega)
  have qt46_s := qt46.size
  refine wpList_frame (a' := { tmps := #[.agg (prCells p), .pointer (some ⟨w.heap.size, 0, none⟩), .pointer (some ⟨w.heap.size + 1, 0, none⟩), .pointer (some ⟨x0.heap.size, 0, none⟩), .pointer (some ⟨w.heap.size, 0, none⟩), .agg (cnCells p.a), .agg (cnCells Xk1), .pointer (some ⟨x0.heap.size, 0, none⟩), .pointer (some ⟨w.heap.size, 37, none⟩), .agg (cnCells p.b), .agg (cnCells Xk2), .pointer (some ⟨x0.heap.size, 37, none⟩), .pointer (some ⟨w.heap.size, 74, none⟩), .bool p.hd, .pointer (some ⟨x0.heap.size, 74, none⟩), .pointer (some ⟨w.heap.size, 75, none⟩), .int .u32 p.ib, .pointer (some ⟨x0.heap.size, 75, none⟩), .pointer (some ⟨w.heap.size, 76, none⟩), .int .i64 p.rm, .pointer (some ⟨x0.heap.size, 76, none⟩), .pointer (some ⟨w.heap.size, 77, none⟩), .slice p.ba p.bn p.bc, .slice (some ⟨gk3, 0, none⟩) p.bn p.bn, .pointer (some ⟨x0.heap.size, 77, none⟩), .pointer (some ⟨w.heap.size, 78, none⟩), .slice p.aa p.an p.ac, .slice (some ⟨gk4, 0, none⟩) p.an p.an, .pointer (some ⟨x0.heap.size, 78, none⟩), .pointer (some ⟨w.heap.size, 79, none⟩), .int .i64 p.now, .pointer (some ⟨x0.heap.size, 79, none⟩), .pointer (some ⟨w.heap.size, 80, none⟩), .string p.wA, .pointer (some ⟨x0.heap.size, 80, none⟩), .pointer (some ⟨w.heap.size, 81, none⟩), .string p.wB, .pointer (some ⟨x0.heap.size, 81, none⟩), .pointer (some ⟨w.heap.size, 82, none⟩), .string p.gA, .pointer (some ⟨x0.heap.size, 82, none⟩), .pointer (some ⟨w.heap.size, 83, none⟩), .string p.gB, .pointer (some ⟨x0.heap.size, 83, none⟩), undef], defers := [] }) (by kernel_rfl) ?_
  go_upto_region 14 with (fail)
  refine wp_region_lit ?_
  refine load_big pr_big (pr_size _) qB47 rfl _ rfl rfl ?_
  refine store_big pr_big (pr_size _) (pr_size _) (pr_one _) Z rfl _ _ rfl rfl rfl ?_
  intro qw48 qt49 qB50
  clear Z
  replace A := A.touch qt49 (by omega)
  replace qB47 := qB47.touch qt49 (by omega)
  replace Hk1 := Hk1.touch qt49 (by omega)
  replace Hk2 := Hk2.touch qt49 (by omega)
  replace Hk3 := Hk3.touch qt49 (by omega)
  replace Hk4 := Hk4.touch qt49 (by omega)
  replace G := since_touch G qt49 (by omega)
  have qt49_s := qt49.size
  refine wpList_frame (a' := { tmps := #[.agg (prCells p), .pointer (some ⟨w.heap.size, 0, none⟩), .pointer (some ⟨w.heap.size + 1, 0, none⟩), .pointer (some ⟨x0.heap.size, 0, none⟩), .pointer (some ⟨w.heap.size, 0, none⟩), .agg (cnCells p.a), .agg (cnCells Xk1), .pointer (some ⟨x0.heap.size, 0, none⟩), .pointer (some ⟨w.heap.size, 37, none⟩), .agg (cnCells p.b), .agg (cnCells Xk2), .pointer (some ⟨x0.heap.size, 37, none⟩), .pointer (some ⟨w.heap.size, 74, none⟩), .bool p.hd, .pointer (some ⟨x0.heap.size, 74, none⟩), .pointer (some ⟨w.heap.size, 75, none⟩), .int .u32 p.ib, .pointer (some ⟨x0.heap.size, 75, none⟩), .pointer (some ⟨w.heap.size, 76, none⟩), .int .i64 p.rm, .pointer (some ⟨x0.heap.size, 76, none⟩), .pointer (some ⟨w.heap.size, 77, none⟩), .slice p.ba p.bn p.bc, .slice (some ⟨gk3, 0, none⟩) p.bn p.bn, .pointer (some ⟨x0.heap.size, 77, none⟩), .pointer (some ⟨w.heap.size, 78, none⟩), .slice p.aa p.an p.ac, .slice (some ⟨gk4, 0, none⟩) p.an p.an, .pointer (some ⟨x0.heap.size, 78, none⟩), .pointer (some ⟨w.heap.size, 79, none⟩), .int .i64 p.now, .pointer (some ⟨x0.heap.size, 79, none⟩), .pointer (some ⟨w.heap.size, 80, none⟩), .string p.wA, .pointer (some ⟨x0.heap.size, 80, none⟩), .pointer (some ⟨w.heap.size, 81, none⟩), .string p.wB, .pointer (some ⟨x0.heap.size, 81, none⟩), .pointer (some ⟨w.heap.size, 82, none⟩), .string p.gA, .pointer (some ⟨x0.heap.size, 82, none⟩), .pointer (some ⟨w.heap.size, 83, none⟩), .string p.gB, .pointer (some ⟨x0.heap.size, 83, none⟩), .agg (prCells { prZero with a := Xk1, b := Xk2, hd := p.hd, ib := p.ib, rm := p.rm, ba := (some ⟨gk3, 0, none⟩), bn := p.bn, bc := p.bn, aa := (some ⟨gk4, 0, none⟩), an := p.an, ac := p.an, now := p.now, wA := p.wA, wB := p.wB, gA := p.gA, gB := p.gB })], defers := [] }) (by kernel_rfl) ?_
  go_wp2_with (fail)
  refine bodyPost_ret (results_pr (t := 2) rfl _ rfl qB50) rfl ⟨gk1, gk2, gk3, gk4, ?_, Hk1, Hk2, Hk3, Hk4, G⟩
  rw [ek1.out, ek2.out]
end Go.Proofs.Ytoadnhkbejnimaa
