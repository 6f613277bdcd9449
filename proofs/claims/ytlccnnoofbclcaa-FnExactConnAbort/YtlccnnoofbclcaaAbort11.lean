/-
  An end that gives up, as spec makes it.
-/
import Derived.Test.YtlccnnoofbclcaaCopy11
import Derived.Test.YtlccnnoofbclcaaInHeldS
import Derived.Test.YtlccnnoofbclcaaM12
import Derived.Test.YtlccnnoofbclcaaConnS1
import Derived.Deep.DeepCutAuto
namespace Go.Proofs.Ytlccnnoofbclcaa
open Go.ChangeShapes Go.WideShapes Go.ChangeAt Go.RowKit
set_option linter.unusedVariables false
set_option maxRecDepth 10000

/-- What is sent where an end gives up. -/
def abortS (c : Cn) (ps : List (Int × ByteArray)) : List Sg := if connOk c ps && (!decide (c.st = 0) && decide (2 ≤ c.st ∧ c.st ≤ 6)) then [⟨0, 0, c.nxt, c.iN, 20, 0, 0, ByteArray.empty⟩] else []

/-- An end that gave up. -/
def abortC (c : Cn) (ps : List (Int × ByteArray)) : Cn := if connOk c ps && !decide (c.st = 0) then endC c 4 else c

set_option maxRecDepth 20000 in
set_option maxHeartbeats 8000000 in
theorem specAbort (c : Cn) (ps : List (Int × ByteArray)) (gc : GoodC c ps) (hnil : c.pa = none → c.pc = 0) (w : World) (R : Rd shP w c.pa c.pn ps) :
    Calls Try.prog 18 #[.agg (cnCells c)] w fun e w' => ∃ g cp ga m ca, e = .returned (.tuple #[.agg (cnCells { abortC c ps with pa := some ⟨g, 0, none⟩, pc := cp }), .slice (some ⟨ga, 0, none⟩) m ca]) ∧ Held shP w' w.heap.size g c.pn cp ps ∧ Held shG w' w.heap.size ga m ca (abortS c ps) ∧ Since w w' := by
  have hc := fun wx Rx => specCopied c ps gc hnil wx Rx
  have hk := fun g cp wx Rx => specOkAt c ps gc g cp wx Rx
  have hl := fun wx => specIn c.st 2 6 wx
  have he := fun (g cp : Nat) wx => specEnd { c with pa := some ⟨g, 0, none⟩, pc := cp } 4 wx
  obtain ⟨d, hd⟩ : ∃ d, Hid (d = abortC c ps) := ⟨_, rfl⟩
  obtain ⟨sl, hsl⟩ : ∃ sl, Hid (sl = abortS c ps) := ⟨_, rfl⟩
  rw [← hd.out, ← hsl.out]
  obtain ⟨q, hq⟩ : ∃ q, Hid (q = connOk c ps) := ⟨_, rfl⟩
  rw [← hq.out] at hk
  obtain ⟨k, hkk⟩ : ∃ k, Hid (k = decide (2 ≤ c.st ∧ c.st ≤ 6)) := ⟨_, rfl⟩
  rw [← hkk.out] at hl
  unfold cnVal at hc he
  go_enter Try.func18, Try.ntmps18
  go_upto_region 1 with (fail)
  rw [cn_zero]
  have G := ((Since.refl w).alloc (.cells (cnCells c) 42)).alloc (.cells (cnCells cnZero) 42)
  have A := (Blk.new w (cnCells c) 42).since ((Since.refl _).alloc (.cells (cnCells cnZero) 42))
  have Z := Blk.new (w.alloc (.cells (cnCells c) 42)) (cnCells cnZero) 42
  rw [World.size_alloc] at Z
  replace R := R.since G
  generalize (w.alloc (.cells (cnCells c) 42)).alloc (.cells (cnCells cnZero) 42) = x0 at A Z G R ⊢
  have hZ := Z.lt
  refine wp_region_lit ?_
  refine load_big cn_big (cn_size _) A rfl _ rfl rfl ?_
  refine call_step rfl 25 #[.agg (cnCells c)] (by kernel_rfl) (hc _ R) ?_
  rintro _ qw1 ⟨g, cp, rfl, H, qg2⟩
  refine ⟨_, rfl, ?_⟩
  replace A := A.since qg2
  replace Z := Z.since qg2
  replace R := R.since qg2
  replace G := G.trans qg2
  have qg2_s := qg2.size
  have hH0 := H.low'
  replace H := H.raise (show w.heap.size ≤ g by omega)
  have hH := H.lt
  clear R
  refine wpList_frame (a' := { tmps := #[.agg (cnCells c), .pointer (some ⟨w.heap.size, 0, none⟩), .pointer (some ⟨w.heap.size + 1, 0, none⟩), .slice none 0 0, undef, .agg (cnCells c), .agg (cnCells { c with pa := some ⟨g, 0, none⟩, pc := cp }), undef, undef, undef, undef, undef, undef, undef, undef, undef, undef, undef, undef, undef, undef, undef, undef, undef, undef, undef, undef, undef, undef, undef, undef, undef, undef], defers := [] }) (by kernel_rfl) ?_
  refine store_big cn_big (cn_size _) (cn_size _) (cn_one _) A rfl _ _ rfl rfl rfl ?_
  intro qw3 qt4 qB5
  clear A
  replace Z := Z.touch qt4 (by omega)
  replace H := H.touch qt4 (by omega)
  replace G := since_touch G qt4 (by omega)
  have qt4_s := qt4.size
  refine wpList_frame (a' := { tmps := #[.agg (cnCells c), .pointer (some ⟨w.heap.size, 0, none⟩), .pointer (some ⟨w.heap.size + 1, 0, none⟩), .slice none 0 0, undef, .agg (cnCells c), .agg (cnCells { c with pa := some ⟨g, 0, none⟩, pc := cp }), undef, undef, undef, undef, undef, undef, undef, undef, undef, undef, undef, undef, undef, undef, undef, undef, undef, undef, undef, undef, undef, undef, undef, undef, undef, undef], defers := [] }) (by kernel_rfl) ?_
  go_upto_region 2 with (fail)
  refine wp_region_lit ?_
  refine build_none rfl rfl ?_
  have qL7 := heldG0 qw3
  have qg8 := (Since.refl qw3).alloc (.cells #[] 79)
  replace qB5 := qB5.since qg8
  replace Z := Z.since qg8
  replace H := H.since qg8
  replace G := G.trans qg8
  generalize qw3.alloc (.cells #[] 79) = qw6 at qB5 Z H G qL7 qg8 ⊢
  have qg8_s := qg8.size
  have qL7_g := G.size
  have qL7_l := qL7.lt
  replace qL7 := qL7.raise (show w.heap.size ≤ qw3.heap.size by omega)
  refine step_val (w' := qw6) rfl (.slice (some ⟨qw3.heap.size, 0, none⟩) 0 0) (by kernel_rfl) ?_
  refine wpList_frame (a' := { tmps := #[.agg (cnCells c), .pointer (some ⟨w.heap.size, 0, none⟩), .pointer (some ⟨w.heap.size + 1, 0, none⟩), .slice none 0 0, .slice (some ⟨qw3.heap.size, 0, none⟩) 0 0, .agg (cnCells c), .agg (cnCells { c with pa := some ⟨g, 0, none⟩, pc := cp }), .slice (some ⟨qw3.heap.size, 0, none⟩) 0 0, undef, undef, undef, undef, undef, undef, undef, undef, undef, undef, undef, undef, undef, undef, undef, undef, undef, undef, undef, undef, undef, undef, undef, undef, undef], defers := [] }) (by kernel_rfl) ?_
  go_upto_region 3 with (fail)
  cases q
  case false =>
    refine wp_region_lit ?_
    refine load_big cn_big (cn_size _) qB5 rfl _ rfl rfl ?_
    refine wpList_frame (a' := { tmps := #[.agg (cnCells c), .pointer (some ⟨w.heap.size, 0, none⟩), .pointer (some ⟨w.heap.size + 1, 0, none⟩), .slice none 0 0, .slice (some ⟨qw3.heap.size, 0, none⟩) 0 0, .agg (cnCells c), .agg (cnCells { c with pa := some ⟨g, 0, none⟩, pc := cp }), .slice (some ⟨qw3.heap.size, 0, none⟩) 0 0, .agg (cnCells { c with pa := some ⟨g, 0, none⟩, pc := cp }), undef, undef, undef, undef, undef, undef, undef, undef, undef, undef, undef, undef, undef, undef, undef, undef, undef, undef, undef, undef, undef, undef, undef, undef], defers := [] }) (by kernel_rfl) ?_
    refine call_step rfl 26 #[.agg (cnCells { c with pa := some ⟨g, 0, none⟩, pc := cp })] (by kernel_rfl) (hk g cp _ H.reads) ?_
    rintro _ qw9 ⟨rfl, qg10⟩
    refine ⟨_, rfl, ?_⟩
    replace qB5 := qB5.since qg10
    replace Z := Z.since qg10
    replace H := H.since qg10
    replace qL7 := qL7.since qg10
    replace G := G.trans qg10
    have qg10_s := qg10.size
    refine wpList_frame (a' := { tmps := #[.agg (cnCells c), .pointer (some ⟨w.heap.size, 0, none⟩), .pointer (some ⟨w.heap.size + 1, 0, none⟩), .slice none 0 0, .slice (some ⟨qw3.heap.size, 0, none⟩) 0 0, .agg (cnCells c), .agg (cnCells { c with pa := some ⟨g, 0, none⟩, pc := cp }), .slice (some ⟨qw3.heap.size, 0, none⟩) 0 0, .agg (cnCells { c with pa := some ⟨g, 0, none⟩, pc := cp }), .bool false, undef, undef, undef, undef, undef, undef, undef, undef, undef, undef, undef, undef, undef, undef, undef, undef, undef, undef, undef, undef, undef, undef, undef], defers := [] }) (by kernel_rfl) ?_
    refine step_val (w' := qw9) rfl (.bool true) (by kernel_rfl) ?_
    refine wpList_frame (a' := { tmps := #[.agg (cnCells c), .pointer (some ⟨w.heap.size, 0, none⟩), .pointer (some ⟨w.heap.size + 1, 0, none⟩), .slice none 0 0, .slice (some ⟨qw3.heap.size, 0, none⟩) 0 0, .agg (cnCells c), .agg (cnCells { c with pa := some ⟨g, 0, none⟩, pc := cp }), .slice (some ⟨qw3.heap.size, 0, none⟩) 0 0, .agg (cnCells { c with pa := some ⟨g, 0, none⟩, pc := cp }), .bool false, .bool true, undef, undef, undef, undef, undef, undef, undef, undef, undef, undef, undef, undef, undef, undef, undef, undef, undef, undef, undef, undef, undef, undef], defers := [] }) (by kernel_rfl) ?_
    refine step_val (w' := qw9) rfl (.bool true) (by kernel_rfl) ?_
    refine wpList_frame (a' := { tmps := #[.agg (cnCells c), .pointer (some ⟨w.heap.size, 0, none⟩), .pointer (some ⟨w.heap.size + 1, 0, none⟩), .slice none 0 0, .slice (some ⟨qw3.heap.size, 0, none⟩) 0 0, .agg (cnCells c), .agg (cnCells { c with pa := some ⟨g, 0, none⟩, pc := cp }), .slice (some ⟨qw3.heap.size, 0, none⟩) 0 0, .agg (cnCells { c with pa := some ⟨g, 0, none⟩, pc := cp }), .bool false, .bool true, .bool true, undef, undef, undef, undef, undef, undef, undef, undef, undef, undef, undef, undef, undef, undef, undef, undef, undef, undef, undef, undef, undef], defers := [] }) (by kernel_rfl) ?_
    refine want_skip (by kernel_rfl) ?_
    refine wpList_frame (a' := { tmps := #[.agg (cnCells c), .pointer (some ⟨w.heap.size, 0, none⟩), .pointer (some ⟨w.heap.size + 1, 0, none⟩), .slice none 0 0, .slice (some ⟨qw3.heap.size, 0, none⟩) 0 0, .agg (cnCells c), .agg (cnCells { c with pa := some ⟨g, 0, none⟩, pc := cp }), .slice (some ⟨qw3.heap.size, 0, none⟩) 0 0, .agg (cnCells { c with pa := some ⟨g, 0, none⟩, pc := cp }), .bool false, .bool true, .bool true, undef, undef, undef, undef, undef, undef, undef, undef, undef, undef, undef, undef, undef, undef, undef, undef, undef, undef, undef, undef, undef], defers := [] }) (by kernel_rfl) ?_
    refine want_skip (by kernel_rfl) ?_
    refine wpList_frame (a' := { tmps := #[.agg (cnCells c), .pointer (some ⟨w.heap.size, 0, none⟩), .pointer (some ⟨w.heap.size + 1, 0, none⟩), .slice none 0 0, .slice (some ⟨qw3.heap.size, 0, none⟩) 0 0, .agg (cnCells c), .agg (cnCells { c with pa := some ⟨g, 0, none⟩, pc := cp }), .slice (some ⟨qw3.heap.size, 0, none⟩) 0 0, .agg (cnCells { c with pa := some ⟨g, 0, none⟩, pc := cp }), .bool false, .bool true, .bool true, undef, undef, undef, undef, undef, undef, undef, undef, undef, undef, undef, undef, undef, undef, undef, undef, undef, undef, undef, undef, undef], defers := [] }) (by kernel_rfl) ?_
    refine want_skip (by kernel_rfl) ?_
    refine wpList_frame (a' := { tmps := #[.agg (cnCells c), .pointer (some ⟨w.heap.size, 0, none⟩), .pointer (some ⟨w.heap.size + 1, 0, none⟩), .slice none 0 0, .slice (some ⟨qw3.heap.size, 0, none⟩) 0 0, .agg (cnCells c), .agg (cnCells { c with pa := some ⟨g, 0, none⟩, pc := cp }), .slice (some ⟨qw3.heap.size, 0, none⟩) 0 0, .agg (cnCells { c with pa := some ⟨g, 0, none⟩, pc := cp }), .bool false, .bool true, .bool true, undef, undef, undef, undef, undef, undef, undef, undef, undef, undef, undef, undef, undef, undef, undef, undef, undef, undef, undef, undef, undef], defers := [] }) (by kernel_rfl) ?_
    refine step_val (w' := qw9) rfl (.bool true) (by kernel_rfl) ?_
    refine wpList_frame (a' := { tmps := #[.agg (cnCells c), .pointer (some ⟨w.heap.size, 0, none⟩), .pointer (some ⟨w.heap.size + 1, 0, none⟩), .slice none 0 0, .slice (some ⟨qw3.heap.size, 0, none⟩) 0 0, .agg (cnCells c), .agg (cnCells { c with pa := some ⟨g, 0, none⟩, pc := cp }), .slice (some ⟨qw3.heap.size, 0, none⟩) 0 0, .agg (cnCells { c with pa := some ⟨g, 0, none⟩, pc := cp }), .bool false, .bool true, .bool true, undef, undef, undef, .bool true, undef, undef, undef, undef, undef, undef, undef, undef, undef, undef, undef, undef, undef, undef, undef, undef, undef], defers := [] }) (by kernel_rfl) ?_
    go_upto_region 4 with (fail)
    refine wp_region_lit ?_
    refine load_big cn_big (cn_size _) qB5 rfl _ rfl rfl ?_
    refine step_val (w' := qw9) rfl (.slice (some ⟨qw3.heap.size, 0, none⟩) 0 0) (by kernel_rfl) ?_
    refine wpList_frame (a' := { tmps := #[.agg (cnCells c), .pointer (some ⟨w.heap.size, 0, none⟩), .pointer (some ⟨w.heap.size + 1, 0, none⟩), .slice none 0 0, .slice (some ⟨qw3.heap.size, 0, none⟩) 0 0, .agg (cnCells c), .agg (cnCells { c with pa := some ⟨g, 0, none⟩, pc := cp }), .slice (some ⟨qw3.heap.size, 0, none⟩) 0 0, .agg (cnCells { c with pa := some ⟨g, 0, none⟩, pc := cp }), .bool false, .bool true, .bool true, undef, undef, undef, .bool true, .agg (cnCells { c with pa := some ⟨g, 0, none⟩, pc := cp }), .slice (some ⟨qw3.heap.size, 0, none⟩) 0 0, undef, undef, undef, undef, undef, undef, undef, undef, undef, undef, undef, undef, undef, undef, undef], defers := [] }) (by kernel_rfl) ?_
    refine store_big cn_big (cn_size _) (cn_size _) (cn_one _) Z rfl _ _ rfl rfl rfl ?_
    intro qw11 qt12 qB13
    clear Z
    replace qB5 := qB5.touch qt12 (by omega)
    replace H := H.touch qt12 (by omega)
    replace qL7 := qL7.touch qt12 (by omega)
    replace G := since_touch G qt12 (by omega)
    have qt12_s := qt12.size
    refine step_val (w' := qw11) rfl (.slice (some ⟨qw3.heap.size, 0, none⟩) 0 0) (by kernel_rfl) ?_
    refine wpList_frame (a' := { tmps := #[.agg (cnCells c), .pointer (some ⟨w.heap.size, 0, none⟩), .pointer (some ⟨w.heap.size + 1, 0, none⟩), .slice (some ⟨qw3.heap.size, 0, none⟩) 0 0, .slice (some ⟨qw3.heap.size, 0, none⟩) 0 0, .agg (cnCells c), .agg (cnCells { c with pa := some ⟨g, 0, none⟩, pc := cp }), .slice (some ⟨qw3.heap.size, 0, none⟩) 0 0, .agg (cnCells { c with pa := some ⟨g, 0, none⟩, pc := cp }), .bool false, .bool true, .bool true, undef, undef, undef, .bool true, .agg (cnCells { c with pa := some ⟨g, 0, none⟩, pc := cp }), .slice (some ⟨qw3.heap.size, 0, none⟩) 0 0, undef, undef, undef, undef, undef, undef, undef, undef, undef, undef, undef, undef, undef, undef, undef], defers := [] }) (by kernel_rfl) ?_
    go_wp2_with (fail)
    exact bodyPost_ret (results_cn2 (t := 2) (u := 3) rfl _ rfl qB13) rfl ⟨_, _, _, _, _, by rw [hd.out]; unfold abortC; rw [← hq.out]; rfl, H, by rw [hsl.out]; unfold abortS; rw [← hq.out]; exact qL7, G⟩
  case true =>
  by_cases h0 : c.st = 0
  all_goals replace h0 : Hid _ := h0
  case pos =>
    refine wp_region_lit ?_
    refine load_big cn_big (cn_size _) qB5 rfl _ rfl rfl ?_
    refine wpList_frame (a' := { tmps := #[.agg (cnCells c), .pointer (some ⟨w.heap.size, 0, none⟩), .pointer (some ⟨w.heap.size + 1, 0, none⟩), .slice none 0 0, .slice (some ⟨qw3.heap.size, 0, none⟩) 0 0, .agg (cnCells c), .agg (cnCells { c with pa := some ⟨g, 0, none⟩, pc := cp }), .slice (some ⟨qw3.heap.size, 0, none⟩) 0 0, .agg (cnCells { c with pa := some ⟨g, 0, none⟩, pc := cp }), undef, undef, undef, undef, undef, undef, undef, undef, undef, undef, undef, undef, undef, undef, undef, undef, undef, undef, undef, undef, undef, undef, undef, undef], defers := [] }) (by kernel_rfl) ?_
    refine call_step rfl 26 #[.agg (cnCells { c with pa := some ⟨g, 0, none⟩, pc := cp })] (by kernel_rfl) (hk g cp _ H.reads) ?_
    rintro _ qw9 ⟨rfl, qg10⟩
    refine ⟨_, rfl, ?_⟩
    replace qB5 := qB5.since qg10
    replace Z := Z.since qg10
    replace H := H.since qg10
    replace qL7 := qL7.since qg10
    replace G := G.trans qg10
    have qg10_s := qg10.size
    refine wpList_frame (a' := { tmps := #[.agg (cnCells c), .pointer (some ⟨w.heap.size, 0, none⟩), .pointer (some ⟨w.heap.size + 1, 0, none⟩), .slice none 0 0, .slice (some ⟨qw3.heap.size, 0, none⟩) 0 0, .agg (cnCells c), .agg (cnCells { c with pa := some ⟨g, 0, none⟩, pc := cp }), .slice (some ⟨qw3.heap.size, 0, none⟩) 0 0, .agg (cnCells { c with pa := some ⟨g, 0, none⟩, pc := cp }), .bool true, undef, undef, undef, undef, undef, undef, undef, undef, undef, undef, undef, undef, undef, undef, undef, undef, undef, undef, undef, undef, undef, undef, undef], defers := [] }) (by kernel_rfl) ?_
    refine step_val (w' := qw9) rfl (.bool false) (by kernel_rfl) ?_
    refine wpList_frame (a' := { tmps := #[.agg (cnCells c), .pointer (some ⟨w.heap.size, 0, none⟩), .pointer (some ⟨w.heap.size + 1, 0, none⟩), .slice none 0 0, .slice (some ⟨qw3.heap.size, 0, none⟩) 0 0, .agg (cnCells c), .agg (cnCells { c with pa := some ⟨g, 0, none⟩, pc := cp }), .slice (some ⟨qw3.heap.size, 0, none⟩) 0 0, .agg (cnCells { c with pa := some ⟨g, 0, none⟩, pc := cp }), .bool true, .bool false, undef, undef, undef, undef, undef, undef, undef, undef, undef, undef, undef, undef, undef, undef, undef, undef, undef, undef, undef, undef, undef, undef], defers := [] }) (by kernel_rfl) ?_
    refine step_val (w' := qw9) rfl (.bool false) (by kernel_rfl) ?_
    refine wpList_frame (a' := { tmps := #[.agg (cnCells c), .pointer (some ⟨w.heap.size, 0, none⟩), .pointer (some ⟨w.heap.size + 1, 0, none⟩), .slice none 0 0, .slice (some ⟨qw3.heap.size, 0, none⟩) 0 0, .agg (cnCells c), .agg (cnCells { c with pa := some ⟨g, 0, none⟩, pc := cp }), .slice (some ⟨qw3.heap.size, 0, none⟩) 0 0, .agg (cnCells { c with pa := some ⟨g, 0, none⟩, pc := cp }), .bool true, .bool false, .bool false, undef, undef, undef, undef, undef, undef, undef, undef, undef, undef, undef, undef, undef, undef, undef, undef, undef, undef, undef, undef, undef], defers := [] }) (by kernel_rfl) ?_
    refine want_val (w' := qw9) (by kernel_rfl) (.pointer (some ⟨w.heap.size, 0, none⟩)) (by kernel_rfl) ?_
    refine wpList_frame (a' := { tmps := #[.agg (cnCells c), .pointer (some ⟨w.heap.size, 0, none⟩), .pointer (some ⟨w.heap.size + 1, 0, none⟩), .slice none 0 0, .slice (some ⟨qw3.heap.size, 0, none⟩) 0 0, .agg (cnCells c), .agg (cnCells { c with pa := some ⟨g, 0, none⟩, pc := cp }), .slice (some ⟨qw3.heap.size, 0, none⟩) 0 0, .agg (cnCells { c with pa := some ⟨g, 0, none⟩, pc := cp }), .bool true, .bool false, .bool false, .pointer (some ⟨w.heap.size, 0, none⟩), undef, undef, undef, undef, undef, undef, undef, undef, undef, undef, undef, undef, undef, undef, undef, undef, undef, undef, undef, undef], defers := [] }) (by kernel_rfl) ?_
    refine want_cellv (by kernel_rfl) _ _ rfl _ rfl (.int .i64 0) (show qw9.cell? ⟨w.heap.size, 0, none⟩ = some (.int .i64 0) from (qB5.cell 0).trans (by show some (.int .i64 c.st : Value) = some (.int .i64 0 : Value); rw [h0.out])) (by kernel_rfl) ?_
    refine wpList_frame (a' := { tmps := #[.agg (cnCells c), .pointer (some ⟨w.heap.size, 0, none⟩), .pointer (some ⟨w.heap.size + 1, 0, none⟩), .slice none 0 0, .slice (some ⟨qw3.heap.size, 0, none⟩) 0 0, .agg (cnCells c), .agg (cnCells { c with pa := some ⟨g, 0, none⟩, pc := cp }), .slice (some ⟨qw3.heap.size, 0, none⟩) 0 0, .agg (cnCells { c with pa := some ⟨g, 0, none⟩, pc := cp }), .bool true, .bool false, .bool false, .pointer (some ⟨w.heap.size, 0, none⟩), .int .i64 0, undef, undef, undef, undef, undef, undef, undef, undef, undef, undef, undef, undef, undef, undef, undef, undef, undef, undef, undef], defers := [] }) (by kernel_rfl) ?_
    refine want_val (w' := qw9) (by kernel_rfl) (.bool true) (by kernel_rfl) ?_
    refine wpList_frame (a' := { tmps := #[.agg (cnCells c), .pointer (some ⟨w.heap.size, 0, none⟩), .pointer (some ⟨w.heap.size + 1, 0, none⟩), .slice none 0 0, .slice (some ⟨qw3.heap.size, 0, none⟩) 0 0, .agg (cnCells c), .agg (cnCells { c with pa := some ⟨g, 0, none⟩, pc := cp }), .slice (some ⟨qw3.heap.size, 0, none⟩) 0 0, .agg (cnCells { c with pa := some ⟨g, 0, none⟩, pc := cp }), .bool true, .bool false, .bool false, .pointer (some ⟨w.heap.size, 0, none⟩), .int .i64 0, .bool true, undef, undef, undef, undef, undef, undef, undef, undef, undef, undef, undef, undef, undef, undef, undef, undef, undef, undef], defers := [] }) (by kernel_rfl) ?_
    refine step_val (w' := qw9) rfl (.bool true) (by kernel_rfl) ?_
    refine wpList_frame (a' := { tmps := #[.agg (cnCells c), .pointer (some ⟨w.heap.size, 0, none⟩), .pointer (some ⟨w.heap.size + 1, 0, none⟩), .slice none 0 0, .slice (some ⟨qw3.heap.size, 0, none⟩) 0 0, .agg (cnCells c), .agg (cnCells { c with pa := some ⟨g, 0, none⟩, pc := cp }), .slice (some ⟨qw3.heap.size, 0, none⟩) 0 0, .agg (cnCells { c with pa := some ⟨g, 0, none⟩, pc := cp }), .bool true, .bool false, .bool false, .pointer (some ⟨w.heap.size, 0, none⟩), .int .i64 0, .bool true, .bool true, undef, undef, undef, undef, undef, undef, undef, undef, undef, undef, undef, undef, undef, undef, undef, undef, undef], defers := [] }) (by kernel_rfl) ?_
    go_upto_region 4 with (fail)
    refine wp_region_lit ?_
    refine load_big cn_big (cn_size _) qB5 rfl _ rfl rfl ?_
    refine step_val (w' := qw9) rfl (.slice (some ⟨qw3.heap.size, 0, none⟩) 0 0) (by kernel_rfl) ?_
    refine wpList_frame (a' := { tmps := #[.agg (cnCells c), .pointer (some ⟨w.heap.size, 0, none⟩), .pointer (some ⟨w.heap.size + 1, 0, none⟩), .slice none 0 0, .slice (some ⟨qw3.heap.size, 0, none⟩) 0 0, .agg (cnCells c), .agg (cnCells { c with pa := some ⟨g, 0, none⟩, pc := cp }), .slice (some ⟨qw3.heap.size, 0, none⟩) 0 0, .agg (cnCells { c with pa := some ⟨g, 0, none⟩, pc := cp }), .bool true, .bool false, .bool false, .pointer (some ⟨w.heap.size, 0, none⟩), .int .i64 0, .bool true, .bool true, .agg (cnCells { c with pa := some ⟨g, 0, none⟩, pc := cp }), .slice (some ⟨qw3.heap.size, 0, none⟩) 0 0, undef, undef, undef, undef, undef, undef, undef, undef, undef, undef, undef, undef, undef, undef, undef], defers := [] }) (by kernel_rfl) ?_
    refine store_big cn_big (cn_size _) (cn_size _) (cn_one _) Z rfl _ _ rfl rfl rfl ?_
    intro qw11 qt12 qB13
    clear Z
    replace qB5 := qB5.touch qt12 (by omega)
    replace H := H.touch qt12 (by omega)
    replace qL7 := qL7.touch qt12 (by omega)
    replace G := since_touch G qt12 (by omega)
    have qt12_s := qt12.size
    refine step_val (w' := qw11) rfl (.slice (some ⟨qw3.heap.size, 0, none⟩) 0 0) (by kernel_rfl) ?_
    refine wpList_frame (a' := { tmps := #[.agg (cnCells c), .pointer (some ⟨w.heap.size, 0, none⟩), .pointer (some ⟨w.heap.size + 1, 0, none⟩), .slice (some ⟨qw3.heap.size, 0, none⟩) 0 0, .slice (some ⟨qw3.heap.size, 0, none⟩) 0 0, .agg (cnCells c), .agg (cnCells { c with pa := some ⟨g, 0, none⟩, pc := cp }), .slice (some ⟨qw3.heap.size, 0, none⟩) 0 0, .agg (cnCells { c with pa := some ⟨g, 0, none⟩, pc := cp }), .bool true, .bool false, .bool false, .pointer (some ⟨w.heap.size, 0, none⟩), .int .i64 0, .bool true, .bool true, .agg (cnCells { c with pa := some ⟨g, 0, none⟩, pc := cp }), .slice (some ⟨qw3.heap.size, 0, none⟩) 0 0, undef, undef, undef, undef, undef, undef, undef, undef, undef, undef, undef, undef, undef, undef, undef], defers := [] }) (by kernel_rfl) ?_
    go_wp2_with (fail)
    exact bodyPost_ret (results_cn2 (t := 2) (u := 3) rfl _ rfl qB13) rfl ⟨_, _, _, _, _, by rw [hd.out]; unfold abortC; rw [← hq.out, decide_eq_true h0.out]; rfl, H, by rw [hsl.out]; unfold abortS; rw [← hq.out, decide_eq_true h0.out]; exact qL7, G⟩
  case neg =>
    have hz : Hid (decide (c.st = 0) = false) := decide_eq_false h0.out
    refine wp_region_lit ?_
    refine load_big cn_big (cn_size _) qB5 rfl _ rfl rfl ?_
    refine wpList_frame (a' := { tmps := #[.agg (cnCells c), .pointer (some ⟨w.heap.size, 0, none⟩), .pointer (some ⟨w.heap.size + 1, 0, none⟩), .slice none 0 0, .slice (some ⟨qw3.heap.size, 0, none⟩) 0 0, .agg (cnCells c), .agg (cnCells { c with pa := some ⟨g, 0, none⟩, pc := cp }), .slice (some ⟨qw3.heap.size, 0, none⟩) 0 0, .agg (cnCells { c with pa := some ⟨g, 0, none⟩, pc := cp }), undef, undef, undef, undef, undef, undef, undef, undef, undef, undef, undef, undef, undef, undef, undef, undef, undef, undef, undef, undef, undef, undef, undef, undef], defers := [] }) (by kernel_rfl) ?_
    refine call_step rfl 26 #[.agg (cnCells { c with pa := some ⟨g, 0, none⟩, pc := cp })] (by kernel_rfl) (hk g cp _ H.reads) ?_
    rintro _ qw9 ⟨rfl, qg10⟩
    refine ⟨_, rfl, ?_⟩
    replace qB5 := qB5.since qg10
    replace Z := Z.since qg10
    replace H := H.since qg10
    replace qL7 := qL7.since qg10
    replace G := G.trans qg10
    have qg10_s := qg10.size
    refine wpList_frame (a' := { tmps := #[.agg (cnCells c), .pointer (some ⟨w.heap.size, 0, none⟩), .pointer (some ⟨w.heap.size + 1, 0, none⟩), .slice none 0 0, .slice (some ⟨qw3.heap.size, 0, none⟩) 0 0, .agg (cnCells c), .agg (cnCells { c with pa := some ⟨g, 0, none⟩, pc := cp }), .slice (some ⟨qw3.heap.size, 0, none⟩) 0 0, .agg (cnCells { c with pa := some ⟨g, 0, none⟩, pc := cp }), .bool true, undef, undef, undef, undef, undef, undef, undef, undef, undef, undef, undef, undef, undef, undef, undef, undef, undef, undef, undef, undef, undef, undef, undef], defers := [] }) (by kernel_rfl) ?_
    refine step_val (w' := qw9) rfl (.bool false) (by kernel_rfl) ?_
    refine wpList_frame (a' := { tmps := #[.agg (cnCells c), .pointer (some ⟨w.heap.size, 0, none⟩), .pointer (some ⟨w.heap.size + 1, 0, none⟩), .slice none 0 0, .slice (some ⟨qw3.heap.size, 0, none⟩) 0 0, .agg (cnCells c), .agg (cnCells { c with pa := some ⟨g, 0, none⟩, pc := cp }), .slice (some ⟨qw3.heap.size, 0, none⟩) 0 0, .agg (cnCells { c with pa := some ⟨g, 0, none⟩, pc := cp }), .bool true, .bool false, undef, undef, undef, undef, undef, undef, undef, undef, undef, undef, undef, undef, undef, undef, undef, undef, undef, undef, undef, undef, undef, undef], defers := [] }) (by kernel_rfl) ?_
    refine step_val (w' := qw9) rfl (.bool false) (by kernel_rfl) ?_
    refine wpList_frame (a' := { tmps := #[.agg (cnCells c), .pointer (some ⟨w.heap.size, 0, none⟩), .pointer (some ⟨w.heap.size + 1, 0, none⟩), .slice none 0 0, .slice (some ⟨qw3.heap.size, 0, none⟩) 0 0, .agg (cnCells c), .agg (cnCells { c with pa := some ⟨g, 0, none⟩, pc := cp }), .slice (some ⟨qw3.heap.size, 0, none⟩) 0 0, .agg (cnCells { c with pa := some ⟨g, 0, none⟩, pc := cp }), .bool true, .bool false, .bool false, undef, undef, undef, undef, undef, undef, undef, undef, undef, undef, undef, undef, undef, undef, undef, undef, undef, undef, undef, undef, undef], defers := [] }) (by kernel_rfl) ?_
    refine want_val (w' := qw9) (by kernel_rfl) (.pointer (some ⟨w.heap.size, 0, none⟩)) (by kernel_rfl) ?_
    refine wpList_frame (a' := { tmps := #[.agg (cnCells c), .pointer (some ⟨w.heap.size, 0, none⟩), .pointer (some ⟨w.heap.size + 1, 0, none⟩), .slice none 0 0, .slice (some ⟨qw3.heap.size, 0, none⟩) 0 0, .agg (cnCells c), .agg (cnCells { c with pa := some ⟨g, 0, none⟩, pc := cp }), .slice (some ⟨qw3.heap.size, 0, none⟩) 0 0, .agg (cnCells { c with pa := some ⟨g, 0, none⟩, pc := cp }), .bool true, .bool false, .bool false, .pointer (some ⟨w.heap.size, 0, none⟩), undef, undef, undef, undef, undef, undef, undef, undef, undef, undef, undef, undef, undef, undef, undef, undef, undef, undef, undef, undef], defers := [] }) (by kernel_rfl) ?_
    refine want_cellv (by kernel_rfl) _ _ rfl _ rfl (.int .i64 c.st) (show qw9.cell? ⟨w.heap.size, 0, none⟩ = some (.int .i64 c.st) from qB5.cell 0) (by kernel_rfl) ?_
    refine wpList_frame (a' := { tmps := #[.agg (cnCells c), .pointer (some ⟨w.heap.size, 0, none⟩), .pointer (some ⟨w.heap.size + 1, 0, none⟩), .slice none 0 0, .slice (some ⟨qw3.heap.size, 0, none⟩) 0 0, .agg (cnCells c), .agg (cnCells { c with pa := some ⟨g, 0, none⟩, pc := cp }), .slice (some ⟨qw3.heap.size, 0, none⟩) 0 0, .agg (cnCells { c with pa := some ⟨g, 0, none⟩, pc := cp }), .bool true, .bool false, .bool false, .pointer (some ⟨w.heap.size, 0, none⟩), .int .i64 c.st, undef, undef, undef, undef, undef, undef, undef, undef, undef, undef, undef, undef, undef, undef, undef, undef, undef, undef, undef], defers := [] }) (by kernel_rfl) ?_
    refine want_val (w' := qw9) (by kernel_rfl) (.bool false) (by rw [← hz.out]; kernel_rfl) ?_
    refine wpList_frame (a' := { tmps := #[.agg (cnCells c), .pointer (some ⟨w.heap.size, 0, none⟩), .pointer (some ⟨w.heap.size + 1, 0, none⟩), .slice none 0 0, .slice (some ⟨qw3.heap.size, 0, none⟩) 0 0, .agg (cnCells c), .agg (cnCells { c with pa := some ⟨g, 0, none⟩, pc := cp }), .slice (some ⟨qw3.heap.size, 0, none⟩) 0 0, .agg (cnCells { c with pa := some ⟨g, 0, none⟩, pc := cp }), .bool true, .bool false, .bool false, .pointer (some ⟨w.heap.size, 0, none⟩), .int .i64 c.st, .bool false, undef, undef, undef, undef, undef, undef, undef, undef, undef, undef, undef, undef, undef, undef, undef, undef, undef, undef], defers := [] }) (by kernel_rfl) ?_
    refine step_val (w' := qw9) rfl (.bool false) (by kernel_rfl) ?_
    refine wpList_frame (a' := { tmps := #[.agg (cnCells c), .pointer (some ⟨w.heap.size, 0, none⟩), .pointer (some ⟨w.heap.size + 1, 0, none⟩), .slice none 0 0, .slice (some ⟨qw3.heap.size, 0, none⟩) 0 0, .agg (cnCells c), .agg (cnCells { c with pa := some ⟨g, 0, none⟩, pc := cp }), .slice (some ⟨qw3.heap.size, 0, none⟩) 0 0, .agg (cnCells { c with pa := some ⟨g, 0, none⟩, pc := cp }), .bool true, .bool false, .bool false, .pointer (some ⟨w.heap.size, 0, none⟩), .int .i64 c.st, .bool false, .bool false, undef, undef, undef, undef, undef, undef, undef, undef, undef, undef, undef, undef, undef, undef, undef, undef, undef], defers := [] }) (by kernel_rfl) ?_
    go_upto_region 5 with (fail)
    cases k
    case false =>
      refine wp_region_lit ?_
      refine step_val (w' := qw9) rfl (.pointer (some ⟨w.heap.size, 0, none⟩)) (by kernel_rfl) ?_
      refine wpList_frame (a' := { tmps := #[.agg (cnCells c), .pointer (some ⟨w.heap.size, 0, none⟩), .pointer (some ⟨w.heap.size + 1, 0, none⟩), .slice none 0 0, .slice (some ⟨qw3.heap.size, 0, none⟩) 0 0, .agg (cnCells c), .agg (cnCells { c with pa := some ⟨g, 0, none⟩, pc := cp }), .slice (some ⟨qw3.heap.size, 0, none⟩) 0 0, .agg (cnCells { c with pa := some ⟨g, 0, none⟩, pc := cp }), .bool true, .bool false, .bool false, .pointer (some ⟨w.heap.size, 0, none⟩), .int .i64 c.st, .bool false, .bool false, undef, undef, .pointer (some ⟨w.heap.size, 0, none⟩), undef, undef, undef, undef, undef, undef, undef, undef, undef, undef, undef, undef, undef, undef], defers := [] }) (by kernel_rfl) ?_
      refine load_cell rfl _ _ rfl _ rfl (.int .i64 c.st) (show qw9.cell? ⟨w.heap.size, 0, none⟩ = some (.int .i64 c.st) from qB5.cell 0) (by kernel_rfl) ?_
      refine call_step rfl 47 #[.int .i64 c.st, .int .i64 2, .int .i64 6] (by kernel_rfl) (hl _) ?_
      rintro _ _ ⟨rfl, rfl⟩
      refine ⟨_, rfl, ?_⟩
      refine wpList_frame (a' := { tmps := #[.agg (cnCells c), .pointer (some ⟨w.heap.size, 0, none⟩), .pointer (some ⟨w.heap.size + 1, 0, none⟩), .slice none 0 0, .slice (some ⟨qw3.heap.size, 0, none⟩) 0 0, .agg (cnCells c), .agg (cnCells { c with pa := some ⟨g, 0, none⟩, pc := cp }), .slice (some ⟨qw3.heap.size, 0, none⟩) 0 0, .agg (cnCells { c with pa := some ⟨g, 0, none⟩, pc := cp }), .bool true, .bool false, .bool false, .pointer (some ⟨w.heap.size, 0, none⟩), .int .i64 c.st, .bool false, .bool false, undef, undef, .pointer (some ⟨w.heap.size, 0, none⟩), .int .i64 c.st, .bool false, undef, undef, undef, undef, undef, undef, undef, undef, undef, undef, undef, undef], defers := [] }) (by kernel_rfl) ?_
      go_upto_region 7 with (fail)
      refine wp_region_lit ?_
      refine load_big cn_big (cn_size _) qB5 rfl _ rfl rfl ?_
      refine call_step rfl 48 #[.agg (cnCells { c with pa := some ⟨g, 0, none⟩, pc := cp }), .int .i64 4] (by kernel_rfl) (he g cp _) ?_
      rintro _ qw11 ⟨rfl, qg12⟩
      refine ⟨_, rfl, ?_⟩
      replace qB5 := qB5.since qg12
      replace Z := Z.since qg12
      replace H := H.since qg12
      replace qL7 := qL7.since qg12
      replace G := G.trans qg12
      have qg12_s := qg12.size
      refine wpList_frame (a' := { tmps := #[.agg (cnCells c), .pointer (some ⟨w.heap.size, 0, none⟩), .pointer (some ⟨w.heap.size + 1, 0, none⟩), .slice none 0 0, .slice (some ⟨qw3.heap.size, 0, none⟩) 0 0, .agg (cnCells c), .agg (cnCells { c with pa := some ⟨g, 0, none⟩, pc := cp }), .slice (some ⟨qw3.heap.size, 0, none⟩) 0 0, .agg (cnCells { c with pa := some ⟨g, 0, none⟩, pc := cp }), .bool true, .bool false, .bool false, .pointer (some ⟨w.heap.size, 0, none⟩), .int .i64 c.st, .bool false, .bool false, undef, undef, .pointer (some ⟨w.heap.size, 0, none⟩), .int .i64 c.st, .bool false, undef, undef, undef, undef, undef, undef, undef, undef, undef, .agg (cnCells { c with pa := some ⟨g, 0, none⟩, pc := cp }), .agg (cnCells (endC { c with pa := some ⟨g, 0, none⟩, pc := cp } 4)), undef], defers := [] }) (by kernel_rfl) ?_
      refine step_val (w' := qw11) rfl (.slice (some ⟨qw3.heap.size, 0, none⟩) 0 0) (by kernel_rfl) ?_
      refine wpList_frame (a' := { tmps := #[.agg (cnCells c), .pointer (some ⟨w.heap.size, 0, none⟩), .pointer (some ⟨w.heap.size + 1, 0, none⟩), .slice none 0 0, .slice (some ⟨qw3.heap.size, 0, none⟩) 0 0, .agg (cnCells c), .agg (cnCells { c with pa := some ⟨g, 0, none⟩, pc := cp }), .slice (some ⟨qw3.heap.size, 0, none⟩) 0 0, .agg (cnCells { c with pa := some ⟨g, 0, none⟩, pc := cp }), .bool true, .bool false, .bool false, .pointer (some ⟨w.heap.size, 0, none⟩), .int .i64 c.st, .bool false, .bool false, undef, undef, .pointer (some ⟨w.heap.size, 0, none⟩), .int .i64 c.st, .bool false, undef, undef, undef, undef, undef, undef, undef, undef, undef, .agg (cnCells { c with pa := some ⟨g, 0, none⟩, pc := cp }), .agg (cnCells (endC { c with pa := some ⟨g, 0, none⟩, pc := cp } 4)), .slice (some ⟨qw3.heap.size, 0, none⟩) 0 0], defers := [] }) (by kernel_rfl) ?_
      refine store_big cn_big (cn_size _) (cn_size _) (cn_one _) Z rfl _ _ rfl rfl rfl ?_
      intro qw13 qt14 qB15
      clear Z
      replace qB5 := qB5.touch qt14 (by omega)
      replace H := H.touch qt14 (by omega)
      replace qL7 := qL7.touch qt14 (by omega)
      replace G := since_touch G qt14 (by omega)
      have qt14_s := qt14.size
      refine step_val (w' := qw13) rfl (.slice (some ⟨qw3.heap.size, 0, none⟩) 0 0) (by kernel_rfl) ?_
      refine wpList_frame (a' := { tmps := #[.agg (cnCells c), .pointer (some ⟨w.heap.size, 0, none⟩), .pointer (some ⟨w.heap.size + 1, 0, none⟩), .slice (some ⟨qw3.heap.size, 0, none⟩) 0 0, .slice (some ⟨qw3.heap.size, 0, none⟩) 0 0, .agg (cnCells c), .agg (cnCells { c with pa := some ⟨g, 0, none⟩, pc := cp }), .slice (some ⟨qw3.heap.size, 0, none⟩) 0 0, .agg (cnCells { c with pa := some ⟨g, 0, none⟩, pc := cp }), .bool true, .bool false, .bool false, .pointer (some ⟨w.heap.size, 0, none⟩), .int .i64 c.st, .bool false, .bool false, undef, undef, .pointer (some ⟨w.heap.size, 0, none⟩), .int .i64 c.st, .bool false, undef, undef, undef, undef, undef, undef, undef, undef, undef, .agg (cnCells { c with pa := some ⟨g, 0, none⟩, pc := cp }), .agg (cnCells (endC { c with pa := some ⟨g, 0, none⟩, pc := cp } 4)), .slice (some ⟨qw3.heap.size, 0, none⟩) 0 0], defers := [] }) (by kernel_rfl) ?_
      go_wp2_with (fail)
      exact bodyPost_ret (results_cn2 (t := 2) (u := 3) rfl _ rfl qB15) rfl ⟨_, _, _, _, _, by rw [hd.out]; unfold abortC; rw [← hq.out, hz.out]; rfl, H, by rw [hsl.out]; unfold abortS; rw [← hq.out, hz.out, ← hkk.out]; exact qL7, G⟩
    case true =>
      refine wp_region_lit ?_
      refine step_val (w' := qw9) rfl (.pointer (some ⟨w.heap.size, 0, none⟩)) (by kernel_rfl) ?_
      refine wpList_frame (a' := { tmps := #[.agg (cnCells c), .pointer (some ⟨w.heap.size, 0, none⟩), .pointer (some ⟨w.heap.size + 1, 0, none⟩), .slice none 0 0, .slice (some ⟨qw3.heap.size, 0, none⟩) 0 0, .agg (cnCells c), .agg (cnCells { c with pa := some ⟨g, 0, none⟩, pc := cp }), .slice (some ⟨qw3.heap.size, 0, none⟩) 0 0, .agg (cnCells { c with pa := some ⟨g, 0, none⟩, pc := cp }), .bool true, .bool false, .bool false, .pointer (some ⟨w.heap.size, 0, none⟩), .int .i64 c.st, .bool false, .bool false, undef, undef, .pointer (some ⟨w.heap.size, 0, none⟩), undef, undef, undef, undef, undef, undef, undef, undef, undef, undef, undef, undef, undef, undef], defers := [] }) (by kernel_rfl) ?_
      refine load_cell rfl _ _ rfl _ rfl (.int .i64 c.st) (show qw9.cell? ⟨w.heap.size, 0, none⟩ = some (.int .i64 c.st) from qB5.cell 0) (by kernel_rfl) ?_
      refine call_step rfl 47 #[.int .i64 c.st, .int .i64 2, .int .i64 6] (by kernel_rfl) (hl _) ?_
      rintro _ _ ⟨rfl, rfl⟩
      refine ⟨_, rfl, ?_⟩
      refine wpList_frame (a' := { tmps := #[.agg (cnCells c), .pointer (some ⟨w.heap.size, 0, none⟩), .pointer (some ⟨w.heap.size + 1, 0, none⟩), .slice none 0 0, .slice (some ⟨qw3.heap.size, 0, none⟩) 0 0, .agg (cnCells c), .agg (cnCells { c with pa := some ⟨g, 0, none⟩, pc := cp }), .slice (some ⟨qw3.heap.size, 0, none⟩) 0 0, .agg (cnCells { c with pa := some ⟨g, 0, none⟩, pc := cp }), .bool true, .bool false, .bool false, .pointer (some ⟨w.heap.size, 0, none⟩), .int .i64 c.st, .bool false, .bool false, undef, undef, .pointer (some ⟨w.heap.size, 0, none⟩), .int .i64 c.st, .bool true, undef, undef, undef, undef, undef, undef, undef, undef, undef, undef, undef, undef], defers := [] }) (by kernel_rfl) ?_
      go_upto_region 6 with (fail)
      refine wp_region_lit ?_
      refine step_val (w' := qw9) rfl (.slice (some ⟨qw3.heap.size, 0, none⟩) 0 0) (by kernel_rfl) ?_
      refine step_val (w' := qw9) rfl (.pointer (some ⟨w.heap.size, 3, none⟩)) (by kernel_rfl) ?_
      refine wpList_frame (a' := { tmps := #[.agg (cnCells c), .pointer (some ⟨w.heap.size, 0, none⟩), .pointer (some ⟨w.heap.size + 1, 0, none⟩), .slice none 0 0, .slice (some ⟨qw3.heap.size, 0, none⟩) 0 0, .agg (cnCells c), .agg (cnCells { c with pa := some ⟨g, 0, none⟩, pc := cp }), .slice (some ⟨qw3.heap.size, 0, none⟩) 0 0, .agg (cnCells { c with pa := some ⟨g, 0, none⟩, pc := cp }), .bool true, .bool false, .bool false, .pointer (some ⟨w.heap.size, 0, none⟩), .int .i64 c.st, .bool false, .bool false, undef, undef, .pointer (some ⟨w.heap.size, 0, none⟩), .int .i64 c.st, .bool true, .slice (some ⟨qw3.heap.size, 0, none⟩) 0 0, .pointer (some ⟨w.heap.size, 3, none⟩), undef, undef, undef, undef, undef, undef, undef, undef, undef, undef], defers := [] }) (by kernel_rfl) ?_
      refine load_cell rfl _ _ rfl _ rfl (.int .u32 c.nxt) (show qw9.cell? ⟨w.heap.size, 3, none⟩ = some (.int .u32 c.nxt) from qB5.cell 3) (by kernel_rfl) ?_
      refine step_val (w' := qw9) rfl (.pointer (some ⟨w.heap.size, 11, none⟩)) (by kernel_rfl) ?_
      refine wpList_frame (a' := { tmps := #[.agg (cnCells c), .pointer (some ⟨w.heap.size, 0, none⟩), .pointer (some ⟨w.heap.size + 1, 0, none⟩), .slice none 0 0, .slice (some ⟨qw3.heap.size, 0, none⟩) 0 0, .agg (cnCells c), .agg (cnCells { c with pa := some ⟨g, 0, none⟩, pc := cp }), .slice (some ⟨qw3.heap.size, 0, none⟩) 0 0, .agg (cnCells { c with pa := some ⟨g, 0, none⟩, pc := cp }), .bool true, .bool false, .bool false, .pointer (some ⟨w.heap.size, 0, none⟩), .int .i64 c.st, .bool false, .bool false, undef, undef, .pointer (some ⟨w.heap.size, 0, none⟩), .int .i64 c.st, .bool true, .slice (some ⟨qw3.heap.size, 0, none⟩) 0 0, .pointer (some ⟨w.heap.size, 3, none⟩), .int .u32 c.nxt, .pointer (some ⟨w.heap.size, 11, none⟩), undef, undef, undef, undef, undef, undef, undef, undef], defers := [] }) (by kernel_rfl) ?_
      refine step_val (w' := qw9) rfl (.pointer (some ⟨w.heap.size, 11, none⟩)) (by kernel_rfl) ?_
      refine wpList_frame (a' := { tmps := #[.agg (cnCells c), .pointer (some ⟨w.heap.size, 0, none⟩), .pointer (some ⟨w.heap.size + 1, 0, none⟩), .slice none 0 0, .slice (some ⟨qw3.heap.size, 0, none⟩) 0 0, .agg (cnCells c), .agg (cnCells { c with pa := some ⟨g, 0, none⟩, pc := cp }), .slice (some ⟨qw3.heap.size, 0, none⟩) 0 0, .agg (cnCells { c with pa := some ⟨g, 0, none⟩, pc := cp }), .bool true, .bool false, .bool false, .pointer (some ⟨w.heap.size, 0, none⟩), .int .i64 c.st, .bool false, .bool false, undef, undef, .pointer (some ⟨w.heap.size, 0, none⟩), .int .i64 c.st, .bool true, .slice (some ⟨qw3.heap.size, 0, none⟩) 0 0, .pointer (some ⟨w.heap.size, 3, none⟩), .int .u32 c.nxt, .pointer (some ⟨w.heap.size, 11, none⟩), .pointer (some ⟨w.heap.size, 11, none⟩), undef, undef, undef, undef, undef, undef, undef], defers := [] }) (by kernel_rfl) ?_
      refine load_cell rfl _ _ rfl _ rfl (.int .u32 c.iN) (show qw9.cell? ⟨w.heap.size, 11, none⟩ = some (.int .u32 c.iN) from qB5.cell 11) (by kernel_rfl) ?_
      refine step_val (w' := qw9) rfl (.agg (sgCells ⟨0, 0, c.nxt, c.iN, 20, 0, 0, ByteArray.empty⟩)) (by kernel_rfl) ?_
      refine wpList_frame (a' := { tmps := #[.agg (cnCells c), .pointer (some ⟨w.heap.size, 0, none⟩), .pointer (some ⟨w.heap.size + 1, 0, none⟩), .slice none 0 0, .slice (some ⟨qw3.heap.size, 0, none⟩) 0 0, .agg (cnCells c), .agg (cnCells { c with pa := some ⟨g, 0, none⟩, pc := cp }), .slice (some ⟨qw3.heap.size, 0, none⟩) 0 0, .agg (cnCells { c with pa := some ⟨g, 0, none⟩, pc := cp }), .bool true, .bool false, .bool false, .pointer (some ⟨w.heap.size, 0, none⟩), .int .i64 c.st, .bool false, .bool false, undef, undef, .pointer (some ⟨w.heap.size, 0, none⟩), .int .i64 c.st, .bool true, .slice (some ⟨qw3.heap.size, 0, none⟩) 0 0, .pointer (some ⟨w.heap.size, 3, none⟩), .int .u32 c.nxt, .pointer (some ⟨w.heap.size, 11, none⟩), .pointer (some ⟨w.heap.size, 11, none⟩), .int .u32 c.iN, .agg (sgCells ⟨0, 0, c.nxt, c.iN, 20, 0, 0, ByteArray.empty⟩), undef, undef, undef, undef, undef], defers := [] }) (by kernel_rfl) ?_
      refine step_val (w' := qw9.alloc (.cells (sgCells ⟨0, 0, c.nxt, c.iN, 20, 0, 0, ByteArray.empty⟩) 79)) rfl (.slice (some ⟨qw9.heap.size, 0, none⟩) 1 1) (by kernel_rfl) ?_
      have qL12 := heldG1 qw9 (⟨0, 0, c.nxt, c.iN, 20, 0, 0, ByteArray.empty⟩)
      have qg13 := (Since.refl qw9).alloc (.cells (sgCells ⟨0, 0, c.nxt, c.iN, 20, 0, 0, ByteArray.empty⟩) 79)
      replace qB5 := qB5.since qg13
      replace Z := Z.since qg13
      replace H := H.since qg13
      replace qL7 := qL7.since qg13
      replace G := G.trans qg13
      generalize qw9.alloc (.cells (sgCells ⟨0, 0, c.nxt, c.iN, 20, 0, 0, ByteArray.empty⟩) 79) = qw11 at qB5 Z H qL7 G qL12 qg13 ⊢
      have qg13_s := qg13.size
      have qL12_l := qL12.lt
      refine app_own laidG rfl _ _ rfl rfl qL7 rfl qL12.reads (by decide) (by unfold maxLen; omega) (by omega) (by have := G.size; omega) _ rfl ?_
      intro qb18 qc19 qw14 qL15 qr16 ho
      have qt17 := touch_grownG qr16
      have qL15_o := qL7.low'
      have qL15_p := qL7.lt
      replace ho := own_or ho
      replace qB5 := qB5.touch qt17 (by omega)
      replace Z := Z.touch qt17 (by omega)
      replace H := H.touch qt17 (by omega)
      replace G := since_touch G qt17 (by omega)
      have qt17_s := qt17.size
      have qL15_o2 := qL15.low'
      have qL15_l := qL15.lt
      clear qL7 qL12
      refine wpList_frame (a' := { tmps := #[.agg (cnCells c), .pointer (some ⟨w.heap.size, 0, none⟩), .pointer (some ⟨w.heap.size + 1, 0, none⟩), .slice none 0 0, .slice (some ⟨qw3.heap.size, 0, none⟩) 0 0, .agg (cnCells c), .agg (cnCells { c with pa := some ⟨g, 0, none⟩, pc := cp }), .slice (some ⟨qw3.heap.size, 0, none⟩) 0 0, .agg (cnCells { c with pa := some ⟨g, 0, none⟩, pc := cp }), .bool true, .bool false, .bool false, .pointer (some ⟨w.heap.size, 0, none⟩), .int .i64 c.st, .bool false, .bool false, undef, undef, .pointer (some ⟨w.heap.size, 0, none⟩), .int .i64 c.st, .bool true, .slice (some ⟨qw3.heap.size, 0, none⟩) 0 0, .pointer (some ⟨w.heap.size, 3, none⟩), .int .u32 c.nxt, .pointer (some ⟨w.heap.size, 11, none⟩), .pointer (some ⟨w.heap.size, 11, none⟩), .int .u32 c.iN, .agg (sgCells ⟨0, 0, c.nxt, c.iN, 20, 0, 0, ByteArray.empty⟩), .slice (some ⟨qw9.heap.size, 0, none⟩) 1 1, .slice (some ⟨qb18, 0, none⟩) (0 + 1) qc19, undef, undef, undef], defers := [] }) (by kernel_rfl) ?_
      refine step_val (w' := qw14) rfl (.slice (some ⟨qb18, 0, none⟩) (0 + 1) qc19) (by kernel_rfl) ?_
      refine wpList_frame (a' := { tmps := #[.agg (cnCells c), .pointer (some ⟨w.heap.size, 0, none⟩), .pointer (some ⟨w.heap.size + 1, 0, none⟩), .slice none 0 0, .slice (some ⟨qb18, 0, none⟩) (0 + 1) qc19, .agg (cnCells c), .agg (cnCells { c with pa := some ⟨g, 0, none⟩, pc := cp }), .slice (some ⟨qw3.heap.size, 0, none⟩) 0 0, .agg (cnCells { c with pa := some ⟨g, 0, none⟩, pc := cp }), .bool true, .bool false, .bool false, .pointer (some ⟨w.heap.size, 0, none⟩), .int .i64 c.st, .bool false, .bool false, undef, undef, .pointer (some ⟨w.heap.size, 0, none⟩), .int .i64 c.st, .bool true, .slice (some ⟨qw3.heap.size, 0, none⟩) 0 0, .pointer (some ⟨w.heap.size, 3, none⟩), .int .u32 c.nxt, .pointer (some ⟨w.heap.size, 11, none⟩), .pointer (some ⟨w.heap.size, 11, none⟩), .int .u32 c.iN, .agg (sgCells ⟨0, 0, c.nxt, c.iN, 20, 0, 0, ByteArray.empty⟩), .slice (some ⟨qw9.heap.size, 0, none⟩) 1 1, .slice (some ⟨qb18, 0, none⟩) (0 + 1) qc19, undef, undef, undef], defers := [] }) (by kernel_rfl) ?_
      go_upto_region 7 with (fail)
      refine wp_region_lit ?_
      refine load_big cn_big (cn_size _) qB5 rfl _ rfl rfl ?_
      refine call_step rfl 48 #[.agg (cnCells { c with pa := some ⟨g, 0, none⟩, pc := cp }), .int .i64 4] (by kernel_rfl) (he g cp _) ?_
      rintro _ qw20 ⟨rfl, qg21⟩
      refine ⟨_, rfl, ?_⟩
      replace qB5 := qB5.since qg21
      replace Z := Z.since qg21
      replace H := H.since qg21
      replace qL15 := qL15.since qg21
      replace G := G.trans qg21
      have qg21_s := qg21.size
      refine wpList_frame (a' := { tmps := #[.agg (cnCells c), .pointer (some ⟨w.heap.size, 0, none⟩), .pointer (some ⟨w.heap.size + 1, 0, none⟩), .slice none 0 0, .slice (some ⟨qb18, 0, none⟩) (0 + 1) qc19, .agg (cnCells c), .agg (cnCells { c with pa := some ⟨g, 0, none⟩, pc := cp }), .slice (some ⟨qw3.heap.size, 0, none⟩) 0 0, .agg (cnCells { c with pa := some ⟨g, 0, none⟩, pc := cp }), .bool true, .bool false, .bool false, .pointer (some ⟨w.heap.size, 0, none⟩), .int .i64 c.st, .bool false, .bool false, undef, undef, .pointer (some ⟨w.heap.size, 0, none⟩), .int .i64 c.st, .bool true, .slice (some ⟨qw3.heap.size, 0, none⟩) 0 0, .pointer (some ⟨w.heap.size, 3, none⟩), .int .u32 c.nxt, .pointer (some ⟨w.heap.size, 11, none⟩), .pointer (some ⟨w.heap.size, 11, none⟩), .int .u32 c.iN, .agg (sgCells ⟨0, 0, c.nxt, c.iN, 20, 0, 0, ByteArray.empty⟩), .slice (some ⟨qw9.heap.size, 0, none⟩) 1 1, .slice (some ⟨qb18, 0, none⟩) (0 + 1) qc19, .agg (cnCells { c with pa := some ⟨g, 0, none⟩, pc := cp }), .agg (cnCells (endC { c with pa := some ⟨g, 0, none⟩, pc := cp } 4)), undef], defers := [] }) (by kernel_rfl) ?_
      refine step_val (w' := qw20) rfl (.slice (some ⟨qb18, 0, none⟩) (0 + 1) qc19) (by kernel_rfl) ?_
      refine wpList_frame (a' := { tmps := #[.agg (cnCells c), .pointer (some ⟨w.heap.size, 0, none⟩), .pointer (some ⟨w.heap.size + 1, 0, none⟩), .slice none 0 0, .slice (some ⟨qb18, 0, none⟩) (0 + 1) qc19, .agg (cnCells c), .agg (cnCells { c with pa := some ⟨g, 0, none⟩, pc := cp }), .slice (some ⟨qw3.heap.size, 0, none⟩) 0 0, .agg (cnCells { c with pa := some ⟨g, 0, none⟩, pc := cp }), .bool true, .bool false, .bool false, .pointer (some ⟨w.heap.size, 0, none⟩), .int .i64 c.st, .bool false, .bool false, undef, undef, .pointer (some ⟨w.heap.size, 0, none⟩), .int .i64 c.st, .bool true, .slice (some ⟨qw3.heap.size, 0, none⟩) 0 0, .pointer (some ⟨w.heap.size, 3, none⟩), .int .u32 c.nxt, .pointer (some ⟨w.heap.size, 11, none⟩), .pointer (some ⟨w.heap.size, 11, none⟩), .int .u32 c.iN, .agg (sgCells ⟨0, 0, c.nxt, c.iN, 20, 0, 0, ByteArray.empty⟩), .slice (some ⟨qw9.heap.size, 0, none⟩) 1 1, .slice (some ⟨qb18, 0, none⟩) (0 + 1) qc19, .agg (cnCells { c with pa := some ⟨g, 0, none⟩, pc := cp }), .agg (cnCells (endC { c with pa := some ⟨g, 0, none⟩, pc := cp } 4)), .slice (some ⟨qb18, 0, none⟩) (0 + 1) qc19], defers := [] }) (by kernel_rfl) ?_
      refine store_big cn_big (cn_size _) (cn_size _) (cn_one _) Z rfl _ _ rfl rfl rfl ?_
      intro qw22 qt23 qB24
      clear Z
      replace qB5 := qB5.touch qt23 (by omega)
      replace H := H.touch qt23 (by omega)
      replace qL15 := qL15.touch qt23 (by omega)
      replace G := since_touch G qt23 (by omega)
      have qt23_s := qt23.size
      refine step_val (w' := qw22) rfl (.slice (some ⟨qb18, 0, none⟩) (0 + 1) qc19) (by kernel_rfl) ?_
      refine wpList_frame (a' := { tmps := #[.agg (cnCells c), .pointer (some ⟨w.heap.size, 0, none⟩), .pointer (some ⟨w.heap.size + 1, 0, none⟩), .slice (some ⟨qb18, 0, none⟩) (0 + 1) qc19, .slice (some ⟨qb18, 0, none⟩) (0 + 1) qc19, .agg (cnCells c), .agg (cnCells { c with pa := some ⟨g, 0, none⟩, pc := cp }), .slice (some ⟨qw3.heap.size, 0, none⟩) 0 0, .agg (cnCells { c with pa := some ⟨g, 0, none⟩, pc := cp }), .bool true, .bool false, .bool false, .pointer (some ⟨w.heap.size, 0, none⟩), .int .i64 c.st, .bool false, .bool false, undef, undef, .pointer (some ⟨w.heap.size, 0, none⟩), .int .i64 c.st, .bool true, .slice (some ⟨qw3.heap.size, 0, none⟩) 0 0, .pointer (some ⟨w.heap.size, 3, none⟩), .int .u32 c.nxt, .pointer (some ⟨w.heap.size, 11, none⟩), .pointer (some ⟨w.heap.size, 11, none⟩), .int .u32 c.iN, .agg (sgCells ⟨0, 0, c.nxt, c.iN, 20, 0, 0, ByteArray.empty⟩), .slice (some ⟨qw9.heap.size, 0, none⟩) 1 1, .slice (some ⟨qb18, 0, none⟩) (0 + 1) qc19, .agg (cnCells { c with pa := some ⟨g, 0, none⟩, pc := cp }), .agg (cnCells (endC { c with pa := some ⟨g, 0, none⟩, pc := cp } 4)), .slice (some ⟨qb18, 0, none⟩) (0 + 1) qc19], defers := [] }) (by kernel_rfl) ?_
      go_wp2_with (fail)
      exact bodyPost_ret (results_cn2 (t := 2) (u := 3) rfl _ rfl qB24) rfl ⟨_, _, _, _, _, by rw [hd.out]; unfold abortC; rw [← hq.out, hz.out]; rfl, H, by rw [hsl.out]; unfold abortS; rw [← hq.out, hz.out, ← hkk.out]; exact qL15, G⟩
end Go.Proofs.Ytlccnnoofbclcaa
