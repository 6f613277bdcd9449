/-
  Two pipes: the laws' functions over them, and both sides' RelayStart and RelayHeld.
-/
import Derived.Test.YtomnjegldbopiaaPipe
import Derived.Test.YtomnjegldbopiaaPart
import Derived.Test.YtomnjegldbopiaaCalm
import Derived.Great.BuildSlice
import Derived.Deep.DeepCutAuto
namespace Go.Proofs.Ytomnjegldbopiaa
open Go.ChangeShapes Go.WideShapes Go.ChangeAt Go.RowKit Go.Deep
set_option linter.unusedVariables false
set_option maxRecDepth 10000
set_option linter.unusedSimpArgs false

theorem pp_big : IsBig 39 4 := ⟨⟨_, Try.underlying39, rfl⟩, by kernel_rfl⟩

theorem rl_big : IsBig 41 8 := ⟨⟨_, Try.underlying41, rfl⟩, by kernel_rfl⟩

theorem results_rl2 {fn : Func} {t u : Tmp} {b : Nat} {w : World} {cs : Array Value} {hs : cs.size = 8} (h : fn.results = #[.cell t 41, .tmp u]) (tmps : Array Value) (hp : tmps.getD t undef = .pointer (some ⟨b, 0, none⟩)) (B : Blk b w cs) : (results fn tmps).run Try.prog w = .ok (.tuple #[.agg cs, tmps.getD u undef]) w := by
  have e := var_big rl_big hs B
  have hq : tmps[t]?.getD undef = .pointer (some ⟨b, 0, none⟩) := by simpa using hp
  simp [results, h, hq, asAddr, e]

theorem eqRelay (r : Int) (d : ByteArray) (e : Bool) (n : Int) (s : Int) (f : ByteArray) (g : Bool) (m : Int) (w : World) :
    Calls Try.prog 15 #[rlVal r d e n s f g m, rlVal r d e n s f g m] w fun x w' => x = .returned (.bool true) ∧ Since w w' := by
  have h1 := fun wx => eqPipe r d e n wx
  have h2 := fun wx => eqPipe s f g m wx
  unfold ppVal at h1 h2
  unfold rlVal
  have G := Since.refl w
  go_enter Try.func15, Try.ntmps15
  go_upto_region 0 with (fail)
  refine wp_region_lit ?_
  refine step_val (w' := w.alloc (.cells (#[.int .i64 r, .string d, .bool e, .int .i64 n, .int .i64 s, .string f, .bool g, .int .i64 m]) 41)) rfl (.pointer (some ⟨w.heap.size, 0, none⟩)) (by kernel_rfl) ?_
  have qB2 := Blk.new w (#[.int .i64 r, .string d, .bool e, .int .i64 n, .int .i64 s, .string f, .bool g, .int .i64 m]) 41
  have qg3 := (Since.refl w).alloc (.cells (#[.int .i64 r, .string d, .bool e, .int .i64 n, .int .i64 s, .string f, .bool g, .int .i64 m]) 41)
  replace G := G.trans qg3
  generalize w.alloc (.cells (#[.int .i64 r, .string d, .bool e, .int .i64 n, .int .i64 s, .string f, .bool g, .int .i64 m]) 41) = qw1 at  G qB2 qg3 ⊢
  have qB2_l := qB2.lt
  have qg3_s := qg3.size
  refine step_val (w' := qw1.alloc (.cells (#[.int .i64 r, .string d, .bool e, .int .i64 n, .int .i64 s, .string f, .bool g, .int .i64 m]) 41)) rfl (.pointer (some ⟨qw1.heap.size, 0, none⟩)) (by kernel_rfl) ?_
  have qB5 := Blk.new qw1 (#[.int .i64 r, .string d, .bool e, .int .i64 n, .int .i64 s, .string f, .bool g, .int .i64 m]) 41
  have qg6 := (Since.refl qw1).alloc (.cells (#[.int .i64 r, .string d, .bool e, .int .i64 n, .int .i64 s, .string f, .bool g, .int .i64 m]) 41)
  replace qB2 := qB2.since qg6
  replace G := G.trans qg6
  generalize qw1.alloc (.cells (#[.int .i64 r, .string d, .bool e, .int .i64 n, .int .i64 s, .string f, .bool g, .int .i64 m]) 41) = qw4 at qB2 G qB5 qg6 ⊢
  have qB5_l := qB5.lt
  have qg6_s := qg6.size
  refine step_val (w' := qw4) rfl (.bool false) (by kernel_rfl) ?_
  refine wpList_frame (a' := { tmps := #[.agg #[.int .i64 r, .string d, .bool e, .int .i64 n, .int .i64 s, .string f, .bool g, .int .i64 m], .agg #[.int .i64 r, .string d, .bool e, .int .i64 n, .int .i64 s, .string f, .bool g, .int .i64 m], .pointer (some ⟨w.heap.size, 0, none⟩), .pointer (some ⟨qw1.heap.size, 0, none⟩), .bool false, undef, undef, undef, undef, undef, undef, undef, undef, undef, undef, undef, undef], defers := [] }) (by kernel_rfl) ?_
  go_upto_region 1 with (fail)
  refine wp_region_lit ?_
  refine step_val (w' := qw4) rfl (.pointer (some ⟨w.heap.size, 0, none⟩)) (by kernel_rfl) ?_
  refine load_part qB2 rfl pp_big _ rfl 0 rfl [.int .i64 r, .string d, .bool e, .int .i64 n] rfl (fun j v hj => by match j, hj with | 0, h => exact h | 1, h => exact h | 2, h => exact h | 3, h => exact h | n + 4, h => exact absurd h (by simp)) ?_
  refine step_val (w' := qw4) rfl (.pointer (some ⟨qw1.heap.size, 0, none⟩)) (by kernel_rfl) ?_
  refine wpList_frame (a' := { tmps := #[.agg #[.int .i64 r, .string d, .bool e, .int .i64 n, .int .i64 s, .string f, .bool g, .int .i64 m], .agg #[.int .i64 r, .string d, .bool e, .int .i64 n, .int .i64 s, .string f, .bool g, .int .i64 m], .pointer (some ⟨w.heap.size, 0, none⟩), .pointer (some ⟨qw1.heap.size, 0, none⟩), .bool false, .pointer (some ⟨w.heap.size, 0, none⟩), .agg #[.int .i64 r, .string d, .bool e, .int .i64 n], .pointer (some ⟨qw1.heap.size, 0, none⟩), undef, undef, undef, undef, undef, undef, undef, undef, undef], defers := [] }) (by kernel_rfl) ?_
  refine load_part qB5 rfl pp_big _ rfl 0 rfl [.int .i64 r, .string d, .bool e, .int .i64 n] rfl (fun j v hj => by match j, hj with | 0, h => exact h | 1, h => exact h | 2, h => exact h | 3, h => exact h | n + 4, h => exact absurd h (by simp)) ?_
  refine call_step rfl 24 #[.agg #[.int .i64 r, .string d, .bool e, .int .i64 n], .agg #[.int .i64 r, .string d, .bool e, .int .i64 n]] (by kernel_rfl) (h1 _) ?_
  rintro _ qw7 ⟨rfl, qg8⟩
  refine ⟨_, rfl, ?_⟩
  replace qB2 := qB2.since qg8
  replace qB5 := qB5.since qg8
  replace G := G.trans qg8
  have qg8_s := qg8.size
  refine step_val (w' := qw7) rfl (.bool false) (by kernel_rfl) ?_
  refine wpList_frame (a' := { tmps := #[.agg #[.int .i64 r, .string d, .bool e, .int .i64 n, .int .i64 s, .string f, .bool g, .int .i64 m], .agg #[.int .i64 r, .string d, .bool e, .int .i64 n, .int .i64 s, .string f, .bool g, .int .i64 m], .pointer (some ⟨w.heap.size, 0, none⟩), .pointer (some ⟨qw1.heap.size, 0, none⟩), .bool false, .pointer (some ⟨w.heap.size, 0, none⟩), .agg #[.int .i64 r, .string d, .bool e, .int .i64 n], .pointer (some ⟨qw1.heap.size, 0, none⟩), .agg #[.int .i64 r, .string d, .bool e, .int .i64 n], .bool true, .bool false, undef, undef, undef, undef, undef, undef], defers := [] }) (by kernel_rfl) ?_
  go_upto_region 3 with (fail)
  refine wp_region_lit ?_
  refine step_val (w' := qw7) rfl (.pointer (some ⟨w.heap.size, 4, none⟩)) (by kernel_rfl) ?_
  refine load_part qB2 rfl pp_big _ rfl 4 rfl [.int .i64 s, .string f, .bool g, .int .i64 m] rfl (fun j v hj => by match j, hj with | 0, h => exact h | 1, h => exact h | 2, h => exact h | 3, h => exact h | n + 4, h => exact absurd h (by simp)) ?_
  refine step_val (w' := qw7) rfl (.pointer (some ⟨qw1.heap.size, 4, none⟩)) (by kernel_rfl) ?_
  refine wpList_frame (a' := { tmps := #[.agg #[.int .i64 r, .string d, .bool e, .int .i64 n, .int .i64 s, .string f, .bool g, .int .i64 m], .agg #[.int .i64 r, .string d, .bool e, .int .i64 n, .int .i64 s, .string f, .bool g, .int .i64 m], .pointer (some ⟨w.heap.size, 0, none⟩), .pointer (some ⟨qw1.heap.size, 0, none⟩), .bool false, .pointer (some ⟨w.heap.size, 0, none⟩), .agg #[.int .i64 r, .string d, .bool e, .int .i64 n], .pointer (some ⟨qw1.heap.size, 0, none⟩), .agg #[.int .i64 r, .string d, .bool e, .int .i64 n], .bool true, .bool false, .pointer (some ⟨w.heap.size, 4, none⟩), .agg #[.int .i64 s, .string f, .bool g, .int .i64 m], .pointer (some ⟨qw1.heap.size, 4, none⟩), undef, undef, undef], defers := [] }) (by kernel_rfl) ?_
  refine load_part qB5 rfl pp_big _ rfl 4 rfl [.int .i64 s, .string f, .bool g, .int .i64 m] rfl (fun j v hj => by match j, hj with | 0, h => exact h | 1, h => exact h | 2, h => exact h | 3, h => exact h | n + 4, h => exact absurd h (by simp)) ?_
  refine call_step rfl 24 #[.agg #[.int .i64 s, .string f, .bool g, .int .i64 m], .agg #[.int .i64 s, .string f, .bool g, .int .i64 m]] (by kernel_rfl) (h2 _) ?_
  rintro _ qw9 ⟨rfl, qg10⟩
  refine ⟨_, rfl, ?_⟩
  replace qB2 := qB2.since qg10
  replace qB5 := qB5.since qg10
  replace G := G.trans qg10
  have qg10_s := qg10.size
  refine step_val (w' := qw9) rfl (.bool false) (by kernel_rfl) ?_
  refine wpList_frame (a' := { tmps := #[.agg #[.int .i64 r, .string d, .bool e, .int .i64 n, .int .i64 s, .string f, .bool g, .int .i64 m], .agg #[.int .i64 r, .string d, .bool e, .int .i64 n, .int .i64 s, .string f, .bool g, .int .i64 m], .pointer (some ⟨w.heap.size, 0, none⟩), .pointer (some ⟨qw1.heap.size, 0, none⟩), .bool false, .pointer (some ⟨w.heap.size, 0, none⟩), .agg #[.int .i64 r, .string d, .bool e, .int .i64 n], .pointer (some ⟨qw1.heap.size, 0, none⟩), .agg #[.int .i64 r, .string d, .bool e, .int .i64 n], .bool true, .bool false, .pointer (some ⟨w.heap.size, 4, none⟩), .agg #[.int .i64 s, .string f, .bool g, .int .i64 m], .pointer (some ⟨qw1.heap.size, 4, none⟩), .agg #[.int .i64 s, .string f, .bool g, .int .i64 m], .bool true, .bool false], defers := [] }) (by kernel_rfl) ?_
  go_wp2_with (fail)
  go_ret
  exact ⟨rfl, G⟩

/-- What RelayStart answers. -/
def startV (x : Int) : Value := if 1 ≤ x ∧ x ≤ 2048 then .tuple #[.agg #[.int .i64 x, .string ByteArray.empty, .bool false, .int .i64 0, .int .i64 x, .string ByteArray.empty, .bool false, .int .i64 0], .bool true] else .tuple #[.agg #[.int .i64 0, .string ByteArray.empty, .bool false, .int .i64 0, .int .i64 0, .string ByteArray.empty, .bool false, .int .i64 0], .bool false]

theorem implRStart (x : Int) (w : World) : Calls Try.prog 13 #[.int .i64 x] w fun e w' => e = .returned (startV x) ∧ Since w w' := by
  have h1 := fun wx => isPipeRoom x wx
  unfold startV
  by_cases h : 1 ≤ x ∧ x ≤ 2048
  case pos =>
    rw [if_pos h]
    rw [decide_eq_true h] at h1
    clear h
    have G := Since.refl w
    go_enter Try.func13, Try.ntmps13
    go_upto_region 0 with (fail)
    refine wp_region_lit ?_
    refine step_val (w' := w.alloc (.cells (#[.int .i64 0, .string ByteArray.empty, .bool false, .int .i64 0, .int .i64 0, .string ByteArray.empty, .bool false, .int .i64 0]) 41)) rfl (.pointer (some ⟨w.heap.size, 0, none⟩)) (by kernel_rfl) ?_
    have qB2 := Blk.new w (#[.int .i64 0, .string ByteArray.empty, .bool false, .int .i64 0, .int .i64 0, .string ByteArray.empty, .bool false, .int .i64 0]) 41
    have qg3 := (Since.refl w).alloc (.cells (#[.int .i64 0, .string ByteArray.empty, .bool false, .int .i64 0, .int .i64 0, .string ByteArray.empty, .bool false, .int .i64 0]) 41)
    replace G := G.trans qg3
    generalize w.alloc (.cells (#[.int .i64 0, .string ByteArray.empty, .bool false, .int .i64 0, .int .i64 0, .string ByteArray.empty, .bool false, .int .i64 0]) 41) = qw1 at  G qB2 qg3 ⊢
    have qB2_l := qB2.lt
    have qg3_s := qg3.size
    refine step_val (w' := qw1) rfl (.bool false) (by kernel_rfl) ?_
    refine wpList_frame (a' := { tmps := #[.int .i64 x, undef, .pointer (some ⟨w.heap.size, 0, none⟩), .bool false, undef, undef, undef, undef, undef, undef, undef, undef, undef], defers := [] }) (by kernel_rfl) ?_
    go_upto_region 1 with (fail)
    refine wp_region_lit ?_
    refine move_step rfl _ rfl ?_
    refine call_step rfl 21 #[.int .i64 x] (by kernel_rfl) (h1 _) ?_
    rintro _ _ ⟨rfl, rfl⟩
    refine ⟨_, rfl, ?_⟩
    refine step_val (w' := qw1) rfl (.bool false) (by kernel_rfl) ?_
    refine wpList_frame (a' := { tmps := #[.int .i64 x, undef, .pointer (some ⟨w.heap.size, 0, none⟩), .bool false, .int .i64 x, .bool true, .bool false, undef, undef, undef, undef, undef, undef], defers := [] }) (by kernel_rfl) ?_
    go_upto_region 3 with (fail)
    refine wp_region_lit ?_
    refine move_step rfl _ rfl ?_
    refine step_val (w' := qw1) rfl (.agg #[.int .i64 x, .string ByteArray.empty, .bool false, .int .i64 0]) (by kernel_rfl) ?_
    refine move_step rfl _ rfl ?_
    refine step_val (w' := qw1) rfl (.agg #[.int .i64 x, .string ByteArray.empty, .bool false, .int .i64 0]) (by kernel_rfl) ?_
    refine wpList_frame (a' := { tmps := #[.int .i64 x, undef, .pointer (some ⟨w.heap.size, 0, none⟩), .bool false, .int .i64 x, .bool true, .bool false, undef, .int .i64 x, .agg #[.int .i64 x, .string ByteArray.empty, .bool false, .int .i64 0], .int .i64 x, .agg #[.int .i64 x, .string ByteArray.empty, .bool false, .int .i64 0], undef], defers := [] }) (by kernel_rfl) ?_
    refine step_val (w' := qw1) rfl (.agg #[.int .i64 x, .string ByteArray.empty, .bool false, .int .i64 0, .int .i64 x, .string ByteArray.empty, .bool false, .int .i64 0]) (by kernel_rfl) ?_
    refine store_big rl_big rfl rfl (by simp [Value.oneCell']) qB2 rfl _ _ rfl rfl rfl ?_
    intro qw4 qt5 qB6
    clear qB2
    replace G := since_touch G qt5 (by omega)
    have qt5_s := qt5.size
    refine step_val (w' := qw4) rfl (.bool true) (by kernel_rfl) ?_
    refine wpList_frame (a' := { tmps := #[.int .i64 x, undef, .pointer (some ⟨w.heap.size, 0, none⟩), .bool true, .int .i64 x, .bool true, .bool false, undef, .int .i64 x, .agg #[.int .i64 x, .string ByteArray.empty, .bool false, .int .i64 0], .int .i64 x, .agg #[.int .i64 x, .string ByteArray.empty, .bool false, .int .i64 0], .agg #[.int .i64 x, .string ByteArray.empty, .bool false, .int .i64 0, .int .i64 x, .string ByteArray.empty, .bool false, .int .i64 0]], defers := [] }) (by kernel_rfl) ?_
    go_wp2_with (fail)
    refine bodyPost_ret (v := .tuple #[.agg #[.int .i64 x, .string ByteArray.empty, .bool false, .int .i64 0, .int .i64 x, .string ByteArray.empty, .bool false, .int .i64 0], .bool true]) ?_ rfl ⟨rfl, G⟩
    exact results_rl2 (hs := rfl) (t := 2) (u := 3) rfl _ rfl qB6
  case neg =>
    rw [if_neg h]
    rw [decide_eq_false h] at h1
    clear h
    have G := Since.refl w
    go_enter Try.func13, Try.ntmps13
    go_upto_region 0 with (fail)
    refine wp_region_lit ?_
    refine step_val (w' := w.alloc (.cells (#[.int .i64 0, .string ByteArray.empty, .bool false, .int .i64 0, .int .i64 0, .string ByteArray.empty, .bool false, .int .i64 0]) 41)) rfl (.pointer (some ⟨w.heap.size, 0, none⟩)) (by kernel_rfl) ?_
    have qB2 := Blk.new w (#[.int .i64 0, .string ByteArray.empty, .bool false, .int .i64 0, .int .i64 0, .string ByteArray.empty, .bool false, .int .i64 0]) 41
    have qg3 := (Since.refl w).alloc (.cells (#[.int .i64 0, .string ByteArray.empty, .bool false, .int .i64 0, .int .i64 0, .string ByteArray.empty, .bool false, .int .i64 0]) 41)
    replace G := G.trans qg3
    generalize w.alloc (.cells (#[.int .i64 0, .string ByteArray.empty, .bool false, .int .i64 0, .int .i64 0, .string ByteArray.empty, .bool false, .int .i64 0]) 41) = qw1 at  G qB2 qg3 ⊢
    have qB2_l := qB2.lt
    have qg3_s := qg3.size
    refine step_val (w' := qw1) rfl (.bool false) (by kernel_rfl) ?_
    refine wpList_frame (a' := { tmps := #[.int .i64 x, undef, .pointer (some ⟨w.heap.size, 0, none⟩), .bool false, undef, undef, undef, undef, undef, undef, undef, undef, undef], defers := [] }) (by kernel_rfl) ?_
    go_upto_region 1 with (fail)
    refine wp_region_lit ?_
    refine move_step rfl _ rfl ?_
    refine call_step rfl 21 #[.int .i64 x] (by kernel_rfl) (h1 _) ?_
    rintro _ _ ⟨rfl, rfl⟩
    refine ⟨_, rfl, ?_⟩
    refine step_val (w' := qw1) rfl (.bool true) (by kernel_rfl) ?_
    refine wpList_frame (a' := { tmps := #[.int .i64 x, undef, .pointer (some ⟨w.heap.size, 0, none⟩), .bool false, .int .i64 x, .bool false, .bool true, undef, undef, undef, undef, undef, undef], defers := [] }) (by kernel_rfl) ?_
    go_upto_region 2 with (fail)
    refine wp_region_lit ?_
    refine step_val (w' := qw1) rfl (.agg #[.int .i64 0, .string ByteArray.empty, .bool false, .int .i64 0, .int .i64 0, .string ByteArray.empty, .bool false, .int .i64 0]) (by kernel_rfl) ?_
    refine store_big rl_big rfl rfl (by simp [Value.oneCell']) qB2 rfl _ _ rfl rfl rfl ?_
    intro qw4 qt5 qB6
    clear qB2
    replace G := since_touch G qt5 (by omega)
    have qt5_s := qt5.size
    refine step_val (w' := qw4) rfl (.bool false) (by kernel_rfl) ?_
    refine wpList_frame (a' := { tmps := #[.int .i64 x, undef, .pointer (some ⟨w.heap.size, 0, none⟩), .bool false, .int .i64 x, .bool false, .bool true, .agg #[.int .i64 0, .string ByteArray.empty, .bool false, .int .i64 0, .int .i64 0, .string ByteArray.empty, .bool false, .int .i64 0], undef, undef, undef, undef, undef], defers := [] }) (by kernel_rfl) ?_
    go_wp2_with (fail)
    refine bodyPost_ret (v := .tuple #[.agg #[.int .i64 0, .string ByteArray.empty, .bool false, .int .i64 0, .int .i64 0, .string ByteArray.empty, .bool false, .int .i64 0], .bool false]) ?_ rfl ⟨rfl, G⟩
    exact results_rl2 (hs := rfl) (t := 2) (u := 3) rfl _ rfl qB6

theorem specRStart (x : Int) (w : World) : Calls Try.prog 11 #[.int .i64 x] w fun e w' => e = .returned (startV x) ∧ Since w w' := by
  have h1 := fun wx => specIn x 1 2048 wx
  unfold startV
  by_cases h : 1 ≤ x ∧ x ≤ 2048
  case pos =>
    rw [if_pos h]
    rw [decide_eq_true h] at h1
    clear h
    have G := Since.refl w
    go_enter Try.func11, Try.ntmps11
    go_upto_region 0 with (fail)
    refine wp_region_lit ?_
    refine step_val (w' := w.alloc (.cells (#[.int .i64 0, .string ByteArray.empty, .bool false, .int .i64 0, .int .i64 0, .string ByteArray.empty, .bool false, .int .i64 0]) 41)) rfl (.pointer (some ⟨w.heap.size, 0, none⟩)) (by kernel_rfl) ?_
    have qB2 := Blk.new w (#[.int .i64 0, .string ByteArray.empty, .bool false, .int .i64 0, .int .i64 0, .string ByteArray.empty, .bool false, .int .i64 0]) 41
    have qg3 := (Since.refl w).alloc (.cells (#[.int .i64 0, .string ByteArray.empty, .bool false, .int .i64 0, .int .i64 0, .string ByteArray.empty, .bool false, .int .i64 0]) 41)
    replace G := G.trans qg3
    generalize w.alloc (.cells (#[.int .i64 0, .string ByteArray.empty, .bool false, .int .i64 0, .int .i64 0, .string ByteArray.empty, .bool false, .int .i64 0]) 41) = qw1 at  G qB2 qg3 ⊢
    have qB2_l := qB2.lt
    have qg3_s := qg3.size
    refine step_val (w' := qw1) rfl (.bool false) (by kernel_rfl) ?_
    refine wpList_frame (a' := { tmps := #[.int .i64 x, undef, .pointer (some ⟨w.heap.size, 0, none⟩), .bool false, undef, undef, undef, undef, undef, undef, undef, undef, undef], defers := [] }) (by kernel_rfl) ?_
    go_upto_region 1 with (fail)
    refine wp_region_lit ?_
    refine move_step rfl _ rfl ?_
    refine call_step rfl 19 #[.int .i64 x, .int .i64 1, .int .i64 2048] (by kernel_rfl) (h1 _) ?_
    rintro _ _ ⟨rfl, rfl⟩
    refine ⟨_, rfl, ?_⟩
    refine step_val (w' := qw1) rfl (.bool false) (by kernel_rfl) ?_
    refine wpList_frame (a' := { tmps := #[.int .i64 x, undef, .pointer (some ⟨w.heap.size, 0, none⟩), .bool false, .int .i64 x, .bool true, .bool false, undef, undef, undef, undef, undef, undef], defers := [] }) (by kernel_rfl) ?_
    go_upto_region 3 with (fail)
    refine wp_region_lit ?_
    refine move_step rfl _ rfl ?_
    refine step_val (w' := qw1) rfl (.agg #[.int .i64 x, .string ByteArray.empty, .bool false, .int .i64 0]) (by kernel_rfl) ?_
    refine move_step rfl _ rfl ?_
    refine step_val (w' := qw1) rfl (.agg #[.int .i64 x, .string ByteArray.empty, .bool false, .int .i64 0]) (by kernel_rfl) ?_
    refine wpList_frame (a' := { tmps := #[.int .i64 x, undef, .pointer (some ⟨w.heap.size, 0, none⟩), .bool false, .int .i64 x, .bool true, .bool false, undef, .int .i64 x, .agg #[.int .i64 x, .string ByteArray.empty, .bool false, .int .i64 0], .int .i64 x, .agg #[.int .i64 x, .string ByteArray.empty, .bool false, .int .i64 0], undef], defers := [] }) (by kernel_rfl) ?_
    refine step_val (w' := qw1) rfl (.agg #[.int .i64 x, .string ByteArray.empty, .bool false, .int .i64 0, .int .i64 x, .string ByteArray.empty, .bool false, .int .i64 0]) (by kernel_rfl) ?_
    refine store_big rl_big rfl rfl (by simp [Value.oneCell']) qB2 rfl _ _ rfl rfl rfl ?_
    intro qw4 qt5 qB6
    clear qB2
    replace G := since_touch G qt5 (by omega)
    have qt5_s := qt5.size
    refine step_val (w' := qw4) rfl (.bool true) (by kernel_rfl) ?_
    refine wpList_frame (a' := { tmps := #[.int .i64 x, undef, .pointer (some ⟨w.heap.size, 0, none⟩), .bool true, .int .i64 x, .bool true, .bool false, undef, .int .i64 x, .agg #[.int .i64 x, .string ByteArray.empty, .bool false, .int .i64 0], .int .i64 x, .agg #[.int .i64 x, .string ByteArray.empty, .bool false, .int .i64 0], .agg #[.int .i64 x, .string ByteArray.empty, .bool false, .int .i64 0, .int .i64 x, .string ByteArray.empty, .bool false, .int .i64 0]], defers := [] }) (by kernel_rfl) ?_
    go_wp2_with (fail)
    refine bodyPost_ret (v := .tuple #[.agg #[.int .i64 x, .string ByteArray.empty, .bool false, .int .i64 0, .int .i64 x, .string ByteArray.empty, .bool false, .int .i64 0], .bool true]) ?_ rfl ⟨rfl, G⟩
    exact results_rl2 (hs := rfl) (t := 2) (u := 3) rfl _ rfl qB6
  case neg =>
    rw [if_neg h]
    rw [decide_eq_false h] at h1
    clear h
    have G := Since.refl w
    go_enter Try.func11, Try.ntmps11
    go_upto_region 0 with (fail)
    refine wp_region_lit ?_
    refine step_val (w' := w.alloc (.cells (#[.int .i64 0, .string ByteArray.empty, .bool false, .int .i64 0, .int .i64 0, .string ByteArray.empty, .bool false, .int .i64 0]) 41)) rfl (.pointer (some ⟨w.heap.size, 0, none⟩)) (by kernel_rfl) ?_
    have qB2 := Blk.new w (#[.int .i64 0, .string ByteArray.empty, .bool false, .int .i64 0, .int .i64 0, .string ByteArray.empty, .bool false, .int .i64 0]) 41
    have qg3 := (Since.refl w).alloc (.cells (#[.int .i64 0, .string ByteArray.empty, .bool false, .int .i64 0, .int .i64 0, .string ByteArray.empty, .bool false, .int .i64 0]) 41)
    replace G := G.trans qg3
    generalize w.alloc (.cells (#[.int .i64 0, .string ByteArray.empty, .bool false, .int .i64 0, .int .i64 0, .string ByteArray.empty, .bool false, .int .i64 0]) 41) = qw1 at  G qB2 qg3 ⊢
    have qB2_l := qB2.lt
    have qg3_s := qg3.size
    refine step_val (w' := qw1) rfl (.bool false) (by kernel_rfl) ?_
    refine wpList_frame (a' := { tmps := #[.int .i64 x, undef, .pointer (some ⟨w.heap.size, 0, none⟩), .bool false, undef, undef, undef, undef, undef, undef, undef, undef, undef], defers := [] }) (by kernel_rfl) ?_
    go_upto_region 1 with (fail)
    refine wp_region_lit ?_
    refine move_step rfl _ rfl ?_
    refine call_step rfl 19 #[.int .i64 x, .int .i64 1, .int .i64 2048] (by kernel_rfl) (h1 _) ?_
    rintro _ _ ⟨rfl, rfl⟩
    refine ⟨_, rfl, ?_⟩
    refine step_val (w' := qw1) rfl (.bool true) (by kernel_rfl) ?_
    refine wpList_frame (a' := { tmps := #[.int .i64 x, undef, .pointer (some ⟨w.heap.size, 0, none⟩), .bool false, .int .i64 x, .bool false, .bool true, undef, undef, undef, undef, undef, undef], defers := [] }) (by kernel_rfl) ?_
    go_upto_region 2 with (fail)
    refine wp_region_lit ?_
    refine step_val (w' := qw1) rfl (.agg #[.int .i64 0, .string ByteArray.empty, .bool false, .int .i64 0, .int .i64 0, .string ByteArray.empty, .bool false, .int .i64 0]) (by kernel_rfl) ?_
    refine store_big rl_big rfl rfl (by simp [Value.oneCell']) qB2 rfl _ _ rfl rfl rfl ?_
    intro qw4 qt5 qB6
    clear qB2
    replace G := since_touch G qt5 (by omega)
    have qt5_s := qt5.size
    refine step_val (w' := qw4) rfl (.bool false) (by kernel_rfl) ?_
    refine wpList_frame (a' := { tmps := #[.int .i64 x, undef, .pointer (some ⟨w.heap.size, 0, none⟩), .bool false, .int .i64 x, .bool false, .bool true, .agg #[.int .i64 0, .string ByteArray.empty, .bool false, .int .i64 0, .int .i64 0, .string ByteArray.empty, .bool false, .int .i64 0], undef, undef, undef, undef, undef], defers := [] }) (by kernel_rfl) ?_
    go_wp2_with (fail)
    refine bodyPost_ret (v := .tuple #[.agg #[.int .i64 0, .string ByteArray.empty, .bool false, .int .i64 0, .int .i64 0, .string ByteArray.empty, .bool false, .int .i64 0], .bool false]) ?_ rfl ⟨rfl, G⟩
    exact results_rl2 (hs := rfl) (t := 2) (u := 3) rfl _ rfl qB6
end Go.Proofs.Ytomnjegldbopiaa
