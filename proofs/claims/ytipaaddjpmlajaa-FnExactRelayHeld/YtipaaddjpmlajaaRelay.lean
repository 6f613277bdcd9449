/-
  Two pipes: the laws' functions over them, and both sides' RelayStart and RelayHeld.
-/
import Derived.Test.YtipaaddjpmlajaaPipe
import Derived.Test.YtipaaddjpmlajaaPart
import Derived.Test.YtipaaddjpmlajaaCalm
import Derived.Great.BuildSlice
import Derived.Deep.DeepCutAuto
namespace Go.Proofs.Ytipaaddjpmlajaa
open Go.ChangeShapes Go.WideShapes Go.ChangeAt Go.RowKit Go.Deep
set_option linter.unusedVariables false
set_option linter.unusedSimpArgs false

theorem pp_big : IsBig 26 4 := ⟨⟨_, Try.underlying26, rfl⟩, by kernel_rfl⟩

theorem lpp_big : IsBig 23 4 := ⟨⟨_, Try.underlying23, rfl⟩, by kernel_rfl⟩

theorem rl_big : IsBig 30 8 := ⟨⟨_, Try.underlying30, rfl⟩, by kernel_rfl⟩

theorem lrl_big : IsBig 36 8 := ⟨⟨_, Try.underlying36, rfl⟩, by kernel_rfl⟩

theorem results_rl2 {fn : Func} {t u : Tmp} {b : Nat} {w : World} {cs : Array Value} {hs : cs.size = 8} (h : fn.results = #[.cell t 30, .tmp u]) (tmps : Array Value) (hp : tmps.getD t undef = .pointer (some ⟨b, 0, none⟩)) (B : Blk b w cs) : (results fn tmps).run Try.prog w = .ok (.tuple #[.agg cs, tmps.getD u undef]) w := by
  have e := var_big rl_big hs B
  have hq : tmps[t]?.getD undef = .pointer (some ⟨b, 0, none⟩) := by simpa using hp
  simp [results, h, hq, asAddr, e]

theorem eqRelay (r : Int) (d : ByteArray) (e : Bool) (n : Int) (s : Int) (f : ByteArray) (g : Bool) (m : Int) (w : World) :
    Calls Try.prog 12 #[rlVal r d e n s f g m, rlVal r d e n s f g m] w fun x w' => x = .returned (.bool true) ∧ Since w w' := by
  have h1 := fun wx => eqPipe r d e n wx
  have h2 := fun wx => eqPipe s f g m wx
  unfold ppVal at h1 h2
  unfold rlVal
  have G := Since.refl w
  go_enter Try.func12, Try.ntmps12
  go_upto_region 0 with (fail)
  refine wp_region_lit ?_
  refine step_val (w' := w.alloc (.cells (#[.int .i64 r, .string d, .bool e, .int .i64 n, .int .i64 s, .string f, .bool g, .int .i64 m]) 30)) rfl (.pointer (some ⟨w.heap.size, 0, none⟩)) (by kernel_rfl) ?_
  have qB2 := Blk.new w (#[.int .i64 r, .string d, .bool e, .int .i64 n, .int .i64 s, .string f, .bool g, .int .i64 m]) 30
  have qg3 := (Since.refl w).alloc (.cells (#[.int .i64 r, .string d, .bool e, .int .i64 n, .int .i64 s, .string f, .bool g, .int .i64 m]) 30)
  replace G := G.trans qg3
  generalize w.alloc (.cells (#[.int .i64 r, .string d, .bool e, .int .i64 n, .int .i64 s, .string f, .bool g, .int .i64 m]) 30) = qw1 at  G qB2 qg3 ⊢
  have qB2_l := qB2.lt
  have qg3_s := qg3.size
  refine step_val (w' := qw1.alloc (.cells (#[.int .i64 r, .string d, .bool e, .int .i64 n, .int .i64 s, .string f, .bool g, .int .i64 m]) 30)) rfl (.pointer (some ⟨qw1.heap.size, 0, none⟩)) (by kernel_rfl) ?_
  have qB5 := Blk.new qw1 (#[.int .i64 r, .string d, .bool e, .int .i64 n, .int .i64 s, .string f, .bool g, .int .i64 m]) 30
  have qg6 := (Since.refl qw1).alloc (.cells (#[.int .i64 r, .string d, .bool e, .int .i64 n, .int .i64 s, .string f, .bool g, .int .i64 m]) 30)
  replace qB2 := qB2.since qg6
  replace G := G.trans qg6
  generalize qw1.alloc (.cells (#[.int .i64 r, .string d, .bool e, .int .i64 n, .int .i64 s, .string f, .bool g, .int .i64 m]) 30) = qw4 at qB2 G qB5 qg6 ⊢
  have qB5_l := qB5.lt
  have qg6_s := qg6.size
  refine step_val (w' := qw4) rfl (.bool false) (by kernel_rfl) ?_
  refine wpList_frame (a' := { tmps := #[.agg #[.int .i64 r, .string d, .bool e, .int .i64 n, .int .i64 s, .string f, .bool g, .int .i64 m], .agg #[.int .i64 r, .string d, .bool e, .int .i64 n, .int .i64 s, .string f, .bool g, .int .i64 m], .pointer (some ⟨w.heap.size, 0, none⟩), .pointer (some ⟨qw1.heap.size, 0, none⟩), .bool false, undef, undef, undef, undef, undef, undef, undef, undef, undef, undef, undef, undef], defers := [] }) (by kernel_rfl) ?_
  go_upto_region 1 with (fail)
  refine wp_region_lit ?_
  refine step_val (w' := qw4) rfl (.pointer (some ⟨w.heap.size, 0, none⟩)) (by kernel_rfl) ?_
  refine load_part qB2 rfl pp_big _ rfl 0 rfl [.int .i64 r, .string d, .bool e, .int .i64 n] rfl (fun j v hj => by match j, hj with | 0, h => exact h | 1, h => exact h | 2, h => exact h | 3, h => exact h | n + 4, h => exact absurd h (by simp)) ?_
  refine step_val (w' := qw4) rfl (.pointer (some ⟨qw1.heap.size, 0, none⟩)) (by kernel_rfl) ?_
  refine wpList_frame (a' := { tmps := #[.agg #[.int .i64 r, .string d, .bool e, .int .i64 n, .int .i64 s, .string f, .bool g, .int .i64 m], .agg #[.int .i64 r, .string d, .bool e, .int .i64 n, .int .i64 s, .string f, .bool g, .int .i64 m], .pointer (some ⟨w.heap.size, 0, none⟩), .pointer (some ⟨qw1.heap.size, 0, none⟩), .bool false, .pointer (some ⟨w.heap.size, 0, none⟩), .agg #[.int .i64 r, .string d, .bool e, .int .i64 n], .pointer (some ⟨qw1.heap.size, 0, none⟩), undef, undef, undef, undef, undef, undef, undef, undef, undef], defers := [] }) (by kernel_rfl) ?_
  refine load_part qB5 rfl pp_big _ rfl 0 rfl [.int .i64 r, .string d, .bool e, .int .i64 n] rfl (fun j v hj => by match j, hj with | 0, h => exact h | 1, h => exact h | 2, h => exact h | 3, h => exact h | n + 4, h => exact absurd h (by simp)) ?_
  refine call_step rfl 20 #[.agg #[.int .i64 r, .string d, .bool e, .int .i64 n], .agg #[.int .i64 r, .string d, .bool e, .int .i64 n]] (by kernel_rfl) (h1 _) ?_
  rintro _ qw7 ⟨rfl, qg8⟩
  refine ⟨_, rfl, ?_⟩
  replace qB2 := qB2.since qg8
  replace qB5 := qB5.since qg8
  replace G := G.trans qg8
  have qg8_s := qg8.size
  refine step_val (w' := qw7) rfl (.bool false) (by kernel_rfl) ?_
  refine wpList_frame (a' := { tmps := #[.agg #[.int .i64 r, .string d, .bool e, .int .i64 n, .int .i64 s, .string f, .bool g, .int .i64 m], .agg #[.int .i64 r, .string d, .bool e, .int .i64 n, .int .i64 s, .string f, .bool g, .int .i64 m], .pointer (some ⟨w.heap.size, 0, none⟩), .pointer (some ⟨qw1.heap.size, 0, none⟩), .bool false, .pointer (some ⟨w.heap.size, 0, none⟩), .agg #[.int .i64 r, .string d, .bool e, .int .i64 n], .pointer (some ⟨qw1.heap.size, 0, none⟩), .agg #[.int .i64 r, .string d, .bool e, .int .i64 n], .bool true, .bool false, undef, undef, undef, undef, undef, undef], defers := [] }) (by kernel_rfl) ?_
  go_upto_region 3 with (fail)
  refine wp_region_lit ?_
  refine step_val (w' := qw7) rfl (.pointer (some ⟨w.heap.size, 4, none⟩)) (by kernel_rfl) ?_
  refine load_part qB2 rfl pp_big _ rfl 4 rfl [.int .i64 s, .string f, .bool g, .int .i64 m] rfl (fun j v hj => by match j, hj with | 0, h => exact h | 1, h => exact h | 2, h => exact h | 3, h => exact h | n + 4, h => exact absurd h (by simp)) ?_
  refine step_val (w' := qw7) rfl (.pointer (some ⟨qw1.heap.size, 4, none⟩)) (by kernel_rfl) ?_
  refine wpList_frame (a' := { tmps := #[.agg #[.int .i64 r, .string d, .bool e, .int .i64 n, .int .i64 s, .string f, .bool g, .int .i64 m], .agg #[.int .i64 r, .string d, .bool e, .int .i64 n, .int .i64 s, .string f, .bool g, .int .i64 m], .pointer (some ⟨w.heap.size, 0, none⟩), .pointer (some ⟨qw1.heap.size, 0, none⟩), .bool false, .pointer (some ⟨w.heap.size, 0, none⟩), .agg #[.int .i64 r, .string d, .bool e, .int .i64 n], .pointer (some ⟨qw1.heap.size, 0, none⟩), .agg #[.int .i64 r, .string d, .bool e, .int .i64 n], .bool true, .bool false, .pointer (some ⟨w.heap.size, 4, none⟩), .agg #[.int .i64 s, .string f, .bool g, .int .i64 m], .pointer (some ⟨qw1.heap.size, 4, none⟩), undef, undef, undef], defers := [] }) (by kernel_rfl) ?_
  refine load_part qB5 rfl pp_big _ rfl 4 rfl [.int .i64 s, .string f, .bool g, .int .i64 m] rfl (fun j v hj => by match j, hj with | 0, h => exact h | 1, h => exact h | 2, h => exact h | 3, h => exact h | n + 4, h => exact absurd h (by simp)) ?_
  refine call_step rfl 20 #[.agg #[.int .i64 s, .string f, .bool g, .int .i64 m], .agg #[.int .i64 s, .string f, .bool g, .int .i64 m]] (by kernel_rfl) (h2 _) ?_
  rintro _ qw9 ⟨rfl, qg10⟩
  refine ⟨_, rfl, ?_⟩
  replace qB2 := qB2.since qg10
  replace qB5 := qB5.since qg10
  replace G := G.trans qg10
  have qg10_s := qg10.size
  refine step_val (w' := qw9) rfl (.bool false) (by kernel_rfl) ?_
  refine wpList_frame (a' := { tmps := #[.agg #[.int .i64 r, .string d, .bool e, .int .i64 n, .int .i64 s, .string f, .bool g, .int .i64 m], .agg #[.int .i64 r, .string d, .bool e, .int .i64 n, .int .i64 s, .string f, .bool g, .int .i64 m], .pointer (some ⟨w.heap.size, 0, none⟩), .pointer (some ⟨qw1.heap.size, 0, none⟩), .bool false, .pointer (some ⟨w.heap.size, 0, none⟩), .agg #[.int .i64 r, .string d, .bool e, .int .i64 n], .pointer (some ⟨qw1.heap.size, 0, none⟩), .agg #[.int .i64 r, .string d, .bool e, .int .i64 n], .bool true, .bool false, .pointer (some ⟨w.heap.size, 4, none⟩), .agg #[.int .i64 s, .string f, .bool g, .int .i64 m], .pointer (some ⟨qw1.heap.size, 4, none⟩), .agg #[.int .i64 s, .string f, .bool g, .int .i64 m], .bool true, .bool false], defers := [] }) (by kernel_rfl) ?_
  go_wp2_with (fail)
  go_ret
  exact ⟨rfl, G⟩

theorem toRelay (r : Int) (d : ByteArray) (e : Bool) (n : Int) (s : Int) (f : ByteArray) (g : Bool) (m : Int) (w : World) :
    Calls Try.prog 15 #[rlVal r d e n s f g m] w fun x w' => x = .returned (rlVal r d e n s f g m) ∧ Since w w' := by
  have h1 := fun wx => toPipe r d e n wx
  have h2 := fun wx => toPipe s f g m wx
  unfold ppVal at h1 h2
  unfold rlVal
  have G := Since.refl w
  go_enter Try.func15, Try.ntmps15
  go_upto_region 0 with (fail)
  refine wp_region_lit ?_
  refine step_val (w' := w.alloc (.cells (#[.int .i64 r, .string d, .bool e, .int .i64 n, .int .i64 s, .string f, .bool g, .int .i64 m]) 36)) rfl (.pointer (some ⟨w.heap.size, 0, none⟩)) (by kernel_rfl) ?_
  have qB2 := Blk.new w (#[.int .i64 r, .string d, .bool e, .int .i64 n, .int .i64 s, .string f, .bool g, .int .i64 m]) 36
  have qg3 := (Since.refl w).alloc (.cells (#[.int .i64 r, .string d, .bool e, .int .i64 n, .int .i64 s, .string f, .bool g, .int .i64 m]) 36)
  replace G := G.trans qg3
  generalize w.alloc (.cells (#[.int .i64 r, .string d, .bool e, .int .i64 n, .int .i64 s, .string f, .bool g, .int .i64 m]) 36) = qw1 at  G qB2 qg3 ⊢
  have qB2_l := qB2.lt
  have qg3_s := qg3.size
  refine step_val (w' := qw1.alloc (.cells (#[.int .i64 0, .string ByteArray.empty, .bool false, .int .i64 0, .int .i64 0, .string ByteArray.empty, .bool false, .int .i64 0]) 30)) rfl (.pointer (some ⟨qw1.heap.size, 0, none⟩)) (by kernel_rfl) ?_
  have qB5 := Blk.new qw1 (#[.int .i64 0, .string ByteArray.empty, .bool false, .int .i64 0, .int .i64 0, .string ByteArray.empty, .bool false, .int .i64 0]) 30
  have qg6 := (Since.refl qw1).alloc (.cells (#[.int .i64 0, .string ByteArray.empty, .bool false, .int .i64 0, .int .i64 0, .string ByteArray.empty, .bool false, .int .i64 0]) 30)
  replace qB2 := qB2.since qg6
  replace G := G.trans qg6
  generalize qw1.alloc (.cells (#[.int .i64 0, .string ByteArray.empty, .bool false, .int .i64 0, .int .i64 0, .string ByteArray.empty, .bool false, .int .i64 0]) 30) = qw4 at qB2 G qB5 qg6 ⊢
  have qB5_l := qB5.lt
  have qg6_s := qg6.size
  refine wpList_frame (a' := { tmps := #[.agg #[.int .i64 r, .string d, .bool e, .int .i64 n, .int .i64 s, .string f, .bool g, .int .i64 m], .pointer (some ⟨w.heap.size, 0, none⟩), .pointer (some ⟨qw1.heap.size, 0, none⟩), undef, undef, undef, undef, undef, undef, undef, undef, undef, undef], defers := [] }) (by kernel_rfl) ?_
  go_upto_region 1 with (fail)
  refine wp_region_lit ?_
  refine step_val (w' := qw4.alloc (.cells (#[.int .i64 0, .string ByteArray.empty, .bool false, .int .i64 0, .int .i64 0, .string ByteArray.empty, .bool false, .int .i64 0]) 30)) rfl (.pointer (some ⟨qw4.heap.size, 0, none⟩)) (by kernel_rfl) ?_
  have qB8 := Blk.new qw4 (#[.int .i64 0, .string ByteArray.empty, .bool false, .int .i64 0, .int .i64 0, .string ByteArray.empty, .bool false, .int .i64 0]) 30
  have qg9 := (Since.refl qw4).alloc (.cells (#[.int .i64 0, .string ByteArray.empty, .bool false, .int .i64 0, .int .i64 0, .string ByteArray.empty, .bool false, .int .i64 0]) 30)
  replace qB2 := qB2.since qg9
  replace qB5 := qB5.since qg9
  replace G := G.trans qg9
  generalize qw4.alloc (.cells (#[.int .i64 0, .string ByteArray.empty, .bool false, .int .i64 0, .int .i64 0, .string ByteArray.empty, .bool false, .int .i64 0]) 30) = qw7 at qB2 qB5 G qB8 qg9 ⊢
  have qB8_l := qB8.lt
  have qg9_s := qg9.size
  refine wpList_frame (a' := { tmps := #[.agg #[.int .i64 r, .string d, .bool e, .int .i64 n, .int .i64 s, .string f, .bool g, .int .i64 m], .pointer (some ⟨w.heap.size, 0, none⟩), .pointer (some ⟨qw1.heap.size, 0, none⟩), .pointer (some ⟨qw4.heap.size, 0, none⟩), undef, undef, undef, undef, undef, undef, undef, undef, undef], defers := [] }) (by kernel_rfl) ?_
  go_upto_region 2 with (fail)
  refine wp_region_lit ?_
  refine step_val (w' := qw7) rfl (.pointer (some ⟨w.heap.size, 0, none⟩)) (by kernel_rfl) ?_
  refine load_part qB2 rfl lpp_big _ rfl 0 rfl [.int .i64 r, .string d, .bool e, .int .i64 n] rfl (fun j v hj => by match j, hj with | 0, h => exact h | 1, h => exact h | 2, h => exact h | 3, h => exact h | n + 4, h => exact absurd h (by simp)) ?_
  refine call_step rfl 8 #[.agg #[.int .i64 r, .string d, .bool e, .int .i64 n]] (by kernel_rfl) (h1 _) ?_
  rintro _ qw10 ⟨rfl, qg11⟩
  refine ⟨_, rfl, ?_⟩
  replace qB2 := qB2.since qg11
  replace qB5 := qB5.since qg11
  replace qB8 := qB8.since qg11
  replace G := G.trans qg11
  have qg11_s := qg11.size
  refine step_val (w' := qw10) rfl (.pointer (some ⟨qw4.heap.size, 0, none⟩)) (by kernel_rfl) ?_
  refine wpList_frame (a' := { tmps := #[.agg #[.int .i64 r, .string d, .bool e, .int .i64 n, .int .i64 s, .string f, .bool g, .int .i64 m], .pointer (some ⟨w.heap.size, 0, none⟩), .pointer (some ⟨qw1.heap.size, 0, none⟩), .pointer (some ⟨qw4.heap.size, 0, none⟩), .pointer (some ⟨w.heap.size, 0, none⟩), .agg #[.int .i64 r, .string d, .bool e, .int .i64 n], .agg #[.int .i64 r, .string d, .bool e, .int .i64 n], .pointer (some ⟨qw4.heap.size, 0, none⟩), undef, undef, undef, undef, undef], defers := [] }) (by kernel_rfl) ?_
  refine store_part (cs' := #[.int .i64 r, .string d, .bool e, .int .i64 n, .int .i64 0, .string ByteArray.empty, .bool false, .int .i64 0]) qB8 rfl pp_big _ _ rfl 0 rfl #[.int .i64 r, .string d, .bool e, .int .i64 n] rfl rfl (by simp [Value.oneCell']) (by show 4 ≤ 8; decide) rfl ?_
  intro qw12 qt13 qB14
  clear qB8
  replace qB2 := qB2.touch qt13 (by omega)
  replace qB5 := qB5.touch qt13 (by omega)
  replace G := since_touch G qt13 (by omega)
  have qt13_s := qt13.size
  refine wpList_frame (a' := { tmps := #[.agg #[.int .i64 r, .string d, .bool e, .int .i64 n, .int .i64 s, .string f, .bool g, .int .i64 m], .pointer (some ⟨w.heap.size, 0, none⟩), .pointer (some ⟨qw1.heap.size, 0, none⟩), .pointer (some ⟨qw4.heap.size, 0, none⟩), .pointer (some ⟨w.heap.size, 0, none⟩), .agg #[.int .i64 r, .string d, .bool e, .int .i64 n], .agg #[.int .i64 r, .string d, .bool e, .int .i64 n], .pointer (some ⟨qw4.heap.size, 0, none⟩), undef, undef, undef, undef, undef], defers := [] }) (by kernel_rfl) ?_
  go_upto_region 3 with (fail)
  refine wp_region_lit ?_
  refine step_val (w' := qw12) rfl (.pointer (some ⟨w.heap.size, 4, none⟩)) (by kernel_rfl) ?_
  refine load_part qB2 rfl lpp_big _ rfl 4 rfl [.int .i64 s, .string f, .bool g, .int .i64 m] rfl (fun j v hj => by match j, hj with | 0, h => exact h | 1, h => exact h | 2, h => exact h | 3, h => exact h | n + 4, h => exact absurd h (by simp)) ?_
  refine call_step rfl 8 #[.agg #[.int .i64 s, .string f, .bool g, .int .i64 m]] (by kernel_rfl) (h2 _) ?_
  rintro _ qw15 ⟨rfl, qg16⟩
  refine ⟨_, rfl, ?_⟩
  replace qB2 := qB2.since qg16
  replace qB5 := qB5.since qg16
  replace qB14 := qB14.since qg16
  replace G := G.trans qg16
  have qg16_s := qg16.size
  refine step_val (w' := qw15) rfl (.pointer (some ⟨qw4.heap.size, 4, none⟩)) (by kernel_rfl) ?_
  refine wpList_frame (a' := { tmps := #[.agg #[.int .i64 r, .string d, .bool e, .int .i64 n, .int .i64 s, .string f, .bool g, .int .i64 m], .pointer (some ⟨w.heap.size, 0, none⟩), .pointer (some ⟨qw1.heap.size, 0, none⟩), .pointer (some ⟨qw4.heap.size, 0, none⟩), .pointer (some ⟨w.heap.size, 0, none⟩), .agg #[.int .i64 r, .string d, .bool e, .int .i64 n], .agg #[.int .i64 r, .string d, .bool e, .int .i64 n], .pointer (some ⟨qw4.heap.size, 0, none⟩), .pointer (some ⟨w.heap.size, 4, none⟩), .agg #[.int .i64 s, .string f, .bool g, .int .i64 m], .agg #[.int .i64 s, .string f, .bool g, .int .i64 m], .pointer (some ⟨qw4.heap.size, 4, none⟩), undef], defers := [] }) (by kernel_rfl) ?_
  refine store_part (cs' := #[.int .i64 r, .string d, .bool e, .int .i64 n, .int .i64 s, .string f, .bool g, .int .i64 m]) qB14 rfl pp_big _ _ rfl 4 rfl #[.int .i64 s, .string f, .bool g, .int .i64 m] rfl rfl (by simp [Value.oneCell']) (by show 8 ≤ 8; decide) rfl ?_
  intro qw17 qt18 qB19
  clear qB14
  replace qB2 := qB2.touch qt18 (by omega)
  replace qB5 := qB5.touch qt18 (by omega)
  replace G := since_touch G qt18 (by omega)
  have qt18_s := qt18.size
  refine wpList_frame (a' := { tmps := #[.agg #[.int .i64 r, .string d, .bool e, .int .i64 n, .int .i64 s, .string f, .bool g, .int .i64 m], .pointer (some ⟨w.heap.size, 0, none⟩), .pointer (some ⟨qw1.heap.size, 0, none⟩), .pointer (some ⟨qw4.heap.size, 0, none⟩), .pointer (some ⟨w.heap.size, 0, none⟩), .agg #[.int .i64 r, .string d, .bool e, .int .i64 n], .agg #[.int .i64 r, .string d, .bool e, .int .i64 n], .pointer (some ⟨qw4.heap.size, 0, none⟩), .pointer (some ⟨w.heap.size, 4, none⟩), .agg #[.int .i64 s, .string f, .bool g, .int .i64 m], .agg #[.int .i64 s, .string f, .bool g, .int .i64 m], .pointer (some ⟨qw4.heap.size, 4, none⟩), undef], defers := [] }) (by kernel_rfl) ?_
  go_upto_region 4 with (fail)
  refine wp_region_lit ?_
  refine load_big rl_big rfl qB19 rfl _ rfl rfl ?_
  refine store_big rl_big rfl rfl (by simp [Value.oneCell']) qB5 rfl _ _ rfl rfl rfl ?_
  intro qw20 qt21 qB22
  clear qB5
  replace qB2 := qB2.touch qt21 (by omega)
  replace qB19 := qB19.touch qt21 (by omega)
  replace G := since_touch G qt21 (by omega)
  have qt21_s := qt21.size
  refine wpList_frame (a' := { tmps := #[.agg #[.int .i64 r, .string d, .bool e, .int .i64 n, .int .i64 s, .string f, .bool g, .int .i64 m], .pointer (some ⟨w.heap.size, 0, none⟩), .pointer (some ⟨qw1.heap.size, 0, none⟩), .pointer (some ⟨qw4.heap.size, 0, none⟩), .pointer (some ⟨w.heap.size, 0, none⟩), .agg #[.int .i64 r, .string d, .bool e, .int .i64 n], .agg #[.int .i64 r, .string d, .bool e, .int .i64 n], .pointer (some ⟨qw4.heap.size, 0, none⟩), .pointer (some ⟨w.heap.size, 4, none⟩), .agg #[.int .i64 s, .string f, .bool g, .int .i64 m], .agg #[.int .i64 s, .string f, .bool g, .int .i64 m], .pointer (some ⟨qw4.heap.size, 4, none⟩), .agg #[.int .i64 r, .string d, .bool e, .int .i64 n, .int .i64 s, .string f, .bool g, .int .i64 m]], defers := [] }) (by kernel_rfl) ?_
  go_wp2_with (fail)
  exact bodyPost_ret (results_big rl_big rfl (u := 2) rfl _ rfl qB22) rfl ⟨rfl, G⟩

theorem szRelay (r : Int) (d : ByteArray) (e : Bool) (n : Int) (s : Int) (f : ByteArray) (g : Bool) (m : Int) (l : Int) (hl : 0 ≤ l ∧ l ≤ 1048576) (hd : d.size ≤ 9223372036854775807) (hf : f.size ≤ 9223372036854775807) (w : World) :
    Calls Try.prog 13 #[rlVal r d e n s f g m, .int .i64 l] w fun x w' => x = .returned (.int .i64 (if (d.size : Int) ≤ l then (if (f.size : Int) ≤ l - d.size then l - d.size - f.size else -1) else -1)) ∧ Since w w' := by
  have h1 := fun wx => szPipe r d e n l hl hd wx
  unfold ppVal at h1
  unfold rlVal
  by_cases q1 : (d.size : Int) ≤ l
  case neg =>
    rw [if_neg q1] at h1 ⊢
    have G := Since.refl w
    go_enter Try.func13, Try.ntmps13
    go_upto_region 0 with (fail)
    refine wp_region_lit ?_
    refine step_val (w' := w.alloc (.cells (#[.int .i64 r, .string d, .bool e, .int .i64 n, .int .i64 s, .string f, .bool g, .int .i64 m]) 36)) rfl (.pointer (some ⟨w.heap.size, 0, none⟩)) (by kernel_rfl) ?_
    have qB2 := Blk.new w (#[.int .i64 r, .string d, .bool e, .int .i64 n, .int .i64 s, .string f, .bool g, .int .i64 m]) 36
    have qg3 := (Since.refl w).alloc (.cells (#[.int .i64 r, .string d, .bool e, .int .i64 n, .int .i64 s, .string f, .bool g, .int .i64 m]) 36)
    replace G := G.trans qg3
    generalize w.alloc (.cells (#[.int .i64 r, .string d, .bool e, .int .i64 n, .int .i64 s, .string f, .bool g, .int .i64 m]) 36) = qw1 at  G qB2 qg3 ⊢
    have qB2_l := qB2.lt
    have qg3_s := qg3.size
    refine step_val (w' := qw1) rfl (.int .i64 0) (by kernel_rfl) ?_
    refine wpList_frame (a' := { tmps := #[.agg #[.int .i64 r, .string d, .bool e, .int .i64 n, .int .i64 s, .string f, .bool g, .int .i64 m], .int .i64 l, .pointer (some ⟨w.heap.size, 0, none⟩), undef, .int .i64 0, undef, undef, undef, undef, undef, undef, undef, undef, undef, undef, undef, undef, undef], defers := [] }) (by kernel_rfl) ?_
    go_upto_region 1 with (fail)
    refine wp_region_lit ?_
    refine step_val (w' := qw1) rfl (.pointer (some ⟨w.heap.size, 0, none⟩)) (by kernel_rfl) ?_
    refine load_part qB2 rfl lpp_big _ rfl 0 rfl [.int .i64 r, .string d, .bool e, .int .i64 n] rfl (fun j v hj => by match j, hj with | 0, h => exact h | 1, h => exact h | 2, h => exact h | 3, h => exact h | n + 4, h => exact absurd h (by simp)) ?_
    refine move_step rfl _ rfl ?_
    refine call_step rfl 6 #[.agg #[.int .i64 r, .string d, .bool e, .int .i64 n], .int .i64 l] (by kernel_rfl) (h1 _) ?_
    rintro _ qw4 ⟨rfl, qg5⟩
    refine ⟨_, rfl, ?_⟩
    replace qB2 := qB2.since qg5
    replace G := G.trans qg5
    have qg5_s := qg5.size
    refine wpList_frame (a' := { tmps := #[.agg #[.int .i64 r, .string d, .bool e, .int .i64 n, .int .i64 s, .string f, .bool g, .int .i64 m], .int .i64 l, .pointer (some ⟨w.heap.size, 0, none⟩), undef, .int .i64 0, .pointer (some ⟨w.heap.size, 0, none⟩), .agg #[.int .i64 r, .string d, .bool e, .int .i64 n], .int .i64 l, .int .i64 (-1), undef, undef, undef, undef, undef, undef, undef, undef, undef], defers := [] }) (by kernel_rfl) ?_
    refine step_val (w' := qw4) rfl (.int .i64 (-1)) (by kernel_rfl) ?_
    refine wpList_frame (a' := { tmps := #[.agg #[.int .i64 r, .string d, .bool e, .int .i64 n, .int .i64 s, .string f, .bool g, .int .i64 m], .int .i64 (-1), .pointer (some ⟨w.heap.size, 0, none⟩), undef, .int .i64 0, .pointer (some ⟨w.heap.size, 0, none⟩), .agg #[.int .i64 r, .string d, .bool e, .int .i64 n], .int .i64 l, .int .i64 (-1), undef, undef, undef, undef, undef, undef, undef, undef, undef], defers := [] }) (by kernel_rfl) ?_
    go_wp2_with (fail)
    go_ret
    exact ⟨rfl, G⟩
  case pos =>
    rw [if_pos q1] at h1 ⊢
    have h2 := fun wx => szPipe s f g m (l - d.size) ⟨by omega, by omega⟩ hf wx
    unfold ppVal at h2
    by_cases q2 : (f.size : Int) ≤ l - d.size
    case neg =>
      rw [if_neg q2] at h2 ⊢
      have G := Since.refl w
      go_enter Try.func13, Try.ntmps13
      go_upto_region 0 with (fail)
      refine wp_region_lit ?_
      refine step_val (w' := w.alloc (.cells (#[.int .i64 r, .string d, .bool e, .int .i64 n, .int .i64 s, .string f, .bool g, .int .i64 m]) 36)) rfl (.pointer (some ⟨w.heap.size, 0, none⟩)) (by kernel_rfl) ?_
      have qB2 := Blk.new w (#[.int .i64 r, .string d, .bool e, .int .i64 n, .int .i64 s, .string f, .bool g, .int .i64 m]) 36
      have qg3 := (Since.refl w).alloc (.cells (#[.int .i64 r, .string d, .bool e, .int .i64 n, .int .i64 s, .string f, .bool g, .int .i64 m]) 36)
      replace G := G.trans qg3
      generalize w.alloc (.cells (#[.int .i64 r, .string d, .bool e, .int .i64 n, .int .i64 s, .string f, .bool g, .int .i64 m]) 36) = qw1 at  G qB2 qg3 ⊢
      have qB2_l := qB2.lt
      have qg3_s := qg3.size
      refine step_val (w' := qw1) rfl (.int .i64 0) (by kernel_rfl) ?_
      refine wpList_frame (a' := { tmps := #[.agg #[.int .i64 r, .string d, .bool e, .int .i64 n, .int .i64 s, .string f, .bool g, .int .i64 m], .int .i64 l, .pointer (some ⟨w.heap.size, 0, none⟩), undef, .int .i64 0, undef, undef, undef, undef, undef, undef, undef, undef, undef, undef, undef, undef, undef], defers := [] }) (by kernel_rfl) ?_
      go_upto_region 1 with (fail)
      refine wp_region_lit ?_
      refine step_val (w' := qw1) rfl (.pointer (some ⟨w.heap.size, 0, none⟩)) (by kernel_rfl) ?_
      refine load_part qB2 rfl lpp_big _ rfl 0 rfl [.int .i64 r, .string d, .bool e, .int .i64 n] rfl (fun j v hj => by match j, hj with | 0, h => exact h | 1, h => exact h | 2, h => exact h | 3, h => exact h | n + 4, h => exact absurd h (by simp)) ?_
      refine move_step rfl _ rfl ?_
      refine call_step rfl 6 #[.agg #[.int .i64 r, .string d, .bool e, .int .i64 n], .int .i64 l] (by kernel_rfl) (h1 _) ?_
      rintro _ qw4 ⟨rfl, qg5⟩
      refine ⟨_, rfl, ?_⟩
      replace qB2 := qB2.since qg5
      replace G := G.trans qg5
      have qg5_s := qg5.size
      refine wpList_frame (a' := { tmps := #[.agg #[.int .i64 r, .string d, .bool e, .int .i64 n, .int .i64 s, .string f, .bool g, .int .i64 m], .int .i64 l, .pointer (some ⟨w.heap.size, 0, none⟩), undef, .int .i64 0, .pointer (some ⟨w.heap.size, 0, none⟩), .agg #[.int .i64 r, .string d, .bool e, .int .i64 n], .int .i64 l, .int .i64 (l - d.size), undef, undef, undef, undef, undef, undef, undef, undef, undef], defers := [] }) (by kernel_rfl) ?_
      refine step_val (w' := qw4) rfl (.int .i64 (l - d.size)) (by kernel_rfl) ?_
      refine wpList_frame (a' := { tmps := #[.agg #[.int .i64 r, .string d, .bool e, .int .i64 n, .int .i64 s, .string f, .bool g, .int .i64 m], .int .i64 (l - d.size), .pointer (some ⟨w.heap.size, 0, none⟩), undef, .int .i64 0, .pointer (some ⟨w.heap.size, 0, none⟩), .agg #[.int .i64 r, .string d, .bool e, .int .i64 n], .int .i64 l, .int .i64 (l - d.size), undef, undef, undef, undef, undef, undef, undef, undef, undef], defers := [] }) (by kernel_rfl) ?_
      go_upto_region 4 with (fail)
      refine wp_region_lit ?_
      refine step_val (w' := qw4) rfl (.pointer (some ⟨w.heap.size, 4, none⟩)) (by kernel_rfl) ?_
      refine load_part qB2 rfl lpp_big _ rfl 4 rfl [.int .i64 s, .string f, .bool g, .int .i64 m] rfl (fun j v hj => by match j, hj with | 0, h => exact h | 1, h => exact h | 2, h => exact h | 3, h => exact h | n + 4, h => exact absurd h (by simp)) ?_
      refine move_step rfl _ rfl ?_
      refine call_step rfl 6 #[.agg #[.int .i64 s, .string f, .bool g, .int .i64 m], .int .i64 (l - d.size)] (by kernel_rfl) (h2 _) ?_
      rintro _ qw6 ⟨rfl, qg7⟩
      refine ⟨_, rfl, ?_⟩
      replace qB2 := qB2.since qg7
      replace G := G.trans qg7
      have qg7_s := qg7.size
      refine wpList_frame (a' := { tmps := #[.agg #[.int .i64 r, .string d, .bool e, .int .i64 n, .int .i64 s, .string f, .bool g, .int .i64 m], .int .i64 (l - d.size), .pointer (some ⟨w.heap.size, 0, none⟩), undef, .int .i64 0, .pointer (some ⟨w.heap.size, 0, none⟩), .agg #[.int .i64 r, .string d, .bool e, .int .i64 n], .int .i64 l, .int .i64 (l - d.size), .int .i64 (l - d.size), .bool (decide (l - d.size < 0)), .pointer (some ⟨w.heap.size, 4, none⟩), .agg #[.int .i64 s, .string f, .bool g, .int .i64 m], .int .i64 (l - d.size), .int .i64 (-1), undef, undef, undef], defers := [] }) (by kernel_rfl) ?_
      refine step_val (w' := qw6) rfl (.int .i64 (-1)) (by kernel_rfl) ?_
      refine wpList_frame (a' := { tmps := #[.agg #[.int .i64 r, .string d, .bool e, .int .i64 n, .int .i64 s, .string f, .bool g, .int .i64 m], .int .i64 (-1), .pointer (some ⟨w.heap.size, 0, none⟩), undef, .int .i64 0, .pointer (some ⟨w.heap.size, 0, none⟩), .agg #[.int .i64 r, .string d, .bool e, .int .i64 n], .int .i64 l, .int .i64 (l - d.size), .int .i64 (l - d.size), .bool (decide (l - d.size < 0)), .pointer (some ⟨w.heap.size, 4, none⟩), .agg #[.int .i64 s, .string f, .bool g, .int .i64 m], .int .i64 (l - d.size), .int .i64 (-1), undef, undef, undef], defers := [] }) (by kernel_rfl) ?_
      go_wp2_with (fail)
      go_ret
      exact ⟨rfl, G⟩
    case pos =>
      rw [if_pos q2] at h2 ⊢
      have G := Since.refl w
      go_enter Try.func13, Try.ntmps13
      go_upto_region 0 with (fail)
      refine wp_region_lit ?_
      refine step_val (w' := w.alloc (.cells (#[.int .i64 r, .string d, .bool e, .int .i64 n, .int .i64 s, .string f, .bool g, .int .i64 m]) 36)) rfl (.pointer (some ⟨w.heap.size, 0, none⟩)) (by kernel_rfl) ?_
      have qB2 := Blk.new w (#[.int .i64 r, .string d, .bool e, .int .i64 n, .int .i64 s, .string f, .bool g, .int .i64 m]) 36
      have qg3 := (Since.refl w).alloc (.cells (#[.int .i64 r, .string d, .bool e, .int .i64 n, .int .i64 s, .string f, .bool g, .int .i64 m]) 36)
      replace G := G.trans qg3
      generalize w.alloc (.cells (#[.int .i64 r, .string d, .bool e, .int .i64 n, .int .i64 s, .string f, .bool g, .int .i64 m]) 36) = qw1 at  G qB2 qg3 ⊢
      have qB2_l := qB2.lt
      have qg3_s := qg3.size
      refine step_val (w' := qw1) rfl (.int .i64 0) (by kernel_rfl) ?_
      refine wpList_frame (a' := { tmps := #[.agg #[.int .i64 r, .string d, .bool e, .int .i64 n, .int .i64 s, .string f, .bool g, .int .i64 m], .int .i64 l, .pointer (some ⟨w.heap.size, 0, none⟩), undef, .int .i64 0, undef, undef, undef, undef, undef, undef, undef, undef, undef, undef, undef, undef, undef], defers := [] }) (by kernel_rfl) ?_
      go_upto_region 1 with (fail)
      refine wp_region_lit ?_
      refine step_val (w' := qw1) rfl (.pointer (some ⟨w.heap.size, 0, none⟩)) (by kernel_rfl) ?_
      refine load_part qB2 rfl lpp_big _ rfl 0 rfl [.int .i64 r, .string d, .bool e, .int .i64 n] rfl (fun j v hj => by match j, hj with | 0, h => exact h | 1, h => exact h | 2, h => exact h | 3, h => exact h | n + 4, h => exact absurd h (by simp)) ?_
      refine move_step rfl _ rfl ?_
      refine call_step rfl 6 #[.agg #[.int .i64 r, .string d, .bool e, .int .i64 n], .int .i64 l] (by kernel_rfl) (h1 _) ?_
      rintro _ qw4 ⟨rfl, qg5⟩
      refine ⟨_, rfl, ?_⟩
      replace qB2 := qB2.since qg5
      replace G := G.trans qg5
      have qg5_s := qg5.size
      refine wpList_frame (a' := { tmps := #[.agg #[.int .i64 r, .string d, .bool e, .int .i64 n, .int .i64 s, .string f, .bool g, .int .i64 m], .int .i64 l, .pointer (some ⟨w.heap.size, 0, none⟩), undef, .int .i64 0, .pointer (some ⟨w.heap.size, 0, none⟩), .agg #[.int .i64 r, .string d, .bool e, .int .i64 n], .int .i64 l, .int .i64 (l - d.size), undef, undef, undef, undef, undef, undef, undef, undef, undef], defers := [] }) (by kernel_rfl) ?_
      refine step_val (w' := qw4) rfl (.int .i64 (l - d.size)) (by kernel_rfl) ?_
      refine wpList_frame (a' := { tmps := #[.agg #[.int .i64 r, .string d, .bool e, .int .i64 n, .int .i64 s, .string f, .bool g, .int .i64 m], .int .i64 (l - d.size), .pointer (some ⟨w.heap.size, 0, none⟩), undef, .int .i64 0, .pointer (some ⟨w.heap.size, 0, none⟩), .agg #[.int .i64 r, .string d, .bool e, .int .i64 n], .int .i64 l, .int .i64 (l - d.size), undef, undef, undef, undef, undef, undef, undef, undef, undef], defers := [] }) (by kernel_rfl) ?_
      go_upto_region 4 with (fail)
      refine wp_region_lit ?_
      refine step_val (w' := qw4) rfl (.pointer (some ⟨w.heap.size, 4, none⟩)) (by kernel_rfl) ?_
      refine load_part qB2 rfl lpp_big _ rfl 4 rfl [.int .i64 s, .string f, .bool g, .int .i64 m] rfl (fun j v hj => by match j, hj with | 0, h => exact h | 1, h => exact h | 2, h => exact h | 3, h => exact h | n + 4, h => exact absurd h (by simp)) ?_
      refine move_step rfl _ rfl ?_
      refine call_step rfl 6 #[.agg #[.int .i64 s, .string f, .bool g, .int .i64 m], .int .i64 (l - d.size)] (by kernel_rfl) (h2 _) ?_
      rintro _ qw6 ⟨rfl, qg7⟩
      refine ⟨_, rfl, ?_⟩
      replace qB2 := qB2.since qg7
      replace G := G.trans qg7
      have qg7_s := qg7.size
      refine wpList_frame (a' := { tmps := #[.agg #[.int .i64 r, .string d, .bool e, .int .i64 n, .int .i64 s, .string f, .bool g, .int .i64 m], .int .i64 (l - d.size), .pointer (some ⟨w.heap.size, 0, none⟩), undef, .int .i64 0, .pointer (some ⟨w.heap.size, 0, none⟩), .agg #[.int .i64 r, .string d, .bool e, .int .i64 n], .int .i64 l, .int .i64 (l - d.size), .int .i64 (l - d.size), .bool (decide (l - d.size < 0)), .pointer (some ⟨w.heap.size, 4, none⟩), .agg #[.int .i64 s, .string f, .bool g, .int .i64 m], .int .i64 (l - d.size), .int .i64 (l - d.size - f.size), undef, undef, undef], defers := [] }) (by kernel_rfl) ?_
      refine step_val (w' := qw6) rfl (.int .i64 (l - d.size - f.size)) (by kernel_rfl) ?_
      refine wpList_frame (a' := { tmps := #[.agg #[.int .i64 r, .string d, .bool e, .int .i64 n, .int .i64 s, .string f, .bool g, .int .i64 m], .int .i64 (l - d.size - f.size), .pointer (some ⟨w.heap.size, 0, none⟩), undef, .int .i64 0, .pointer (some ⟨w.heap.size, 0, none⟩), .agg #[.int .i64 r, .string d, .bool e, .int .i64 n], .int .i64 l, .int .i64 (l - d.size), .int .i64 (l - d.size), .bool (decide (l - d.size < 0)), .pointer (some ⟨w.heap.size, 4, none⟩), .agg #[.int .i64 s, .string f, .bool g, .int .i64 m], .int .i64 (l - d.size), .int .i64 (l - d.size - f.size), undef, undef, undef], defers := [] }) (by kernel_rfl) ?_
      go_wp2_with (fail)
      go_ret
      exact ⟨rfl, G⟩

/-- How many bytes a pipe holds. -/
def heldP (r : Int) (d : ByteArray) (n : Int) : Int := if pipeOk r d n then d.size else 0

theorem held_bound (r : Int) (d : ByteArray) (n : Int) : 0 ≤ heldP r d n ∧ heldP r d n ≤ 2048 := by
  unfold heldP
  split
  · rename_i h
    have := (pipeOk_iff r d n).1 h
    omega
  · omega

theorem implHeldP (r : Int) (d : ByteArray) (e : Bool) (n : Int) (w : World) :
    Calls Try.prog 21 #[ppVal r d e n] w fun x w' => x = .returned (.int .i64 (heldP r d n)) ∧ Since w w' := by
  have hk := fun wx => implPipeOk r d e n wx
  unfold ppVal at hk ⊢
  unfold heldP
  generalize pipeOk r d n = b at hk ⊢
  cases b
  case false =>
    have G := Since.refl w
    go_enter Try.func21, Try.ntmps21
    go_upto_region 0 with (fail)
    refine wp_region_lit ?_
    refine step_val (w' := w.alloc (.cells (#[.int .i64 r, .string d, .bool e, .int .i64 n]) 26)) rfl (.pointer (some ⟨w.heap.size, 0, none⟩)) (by kernel_rfl) ?_
    have qB2 := Blk.new w (#[.int .i64 r, .string d, .bool e, .int .i64 n]) 26
    have qg3 := (Since.refl w).alloc (.cells (#[.int .i64 r, .string d, .bool e, .int .i64 n]) 26)
    replace G := G.trans qg3
    generalize w.alloc (.cells (#[.int .i64 r, .string d, .bool e, .int .i64 n]) 26) = qw1 at  G qB2 qg3 ⊢
    have qB2_l := qB2.lt
    have qg3_s := qg3.size
    refine step_val (w' := qw1) rfl (.int .i64 0) (by kernel_rfl) ?_
    refine wpList_frame (a' := { tmps := #[.agg #[.int .i64 r, .string d, .bool e, .int .i64 n], .pointer (some ⟨w.heap.size, 0, none⟩), .int .i64 0, undef, undef, undef, undef, undef, undef], defers := [] }) (by kernel_rfl) ?_
    go_upto_region 1 with (fail)
    refine wp_region_lit ?_
    refine load_big pp_big rfl qB2 rfl _ rfl rfl ?_
    refine call_step rfl 9 #[.agg #[.int .i64 r, .string d, .bool e, .int .i64 n]] (by kernel_rfl) (hk _) ?_
    rintro _ qw4 ⟨rfl, qg5⟩
    refine ⟨_, rfl, ?_⟩
    replace qB2 := qB2.since qg5
    replace G := G.trans qg5
    have qg5_s := qg5.size
    refine step_val (w' := qw4) rfl (.bool true) (by kernel_rfl) ?_
    refine wpList_frame (a' := { tmps := #[.agg #[.int .i64 r, .string d, .bool e, .int .i64 n], .pointer (some ⟨w.heap.size, 0, none⟩), .int .i64 0, .agg #[.int .i64 r, .string d, .bool e, .int .i64 n], .bool false, .bool true, undef, undef, undef], defers := [] }) (by kernel_rfl) ?_
    go_wp2_with (fail)
    go_ret
    exact ⟨rfl, G⟩
  case true =>
    have G := Since.refl w
    go_enter Try.func21, Try.ntmps21
    go_upto_region 0 with (fail)
    refine wp_region_lit ?_
    refine step_val (w' := w.alloc (.cells (#[.int .i64 r, .string d, .bool e, .int .i64 n]) 26)) rfl (.pointer (some ⟨w.heap.size, 0, none⟩)) (by kernel_rfl) ?_
    have qB2 := Blk.new w (#[.int .i64 r, .string d, .bool e, .int .i64 n]) 26
    have qg3 := (Since.refl w).alloc (.cells (#[.int .i64 r, .string d, .bool e, .int .i64 n]) 26)
    replace G := G.trans qg3
    generalize w.alloc (.cells (#[.int .i64 r, .string d, .bool e, .int .i64 n]) 26) = qw1 at  G qB2 qg3 ⊢
    have qB2_l := qB2.lt
    have qg3_s := qg3.size
    refine step_val (w' := qw1) rfl (.int .i64 0) (by kernel_rfl) ?_
    refine wpList_frame (a' := { tmps := #[.agg #[.int .i64 r, .string d, .bool e, .int .i64 n], .pointer (some ⟨w.heap.size, 0, none⟩), .int .i64 0, undef, undef, undef, undef, undef, undef], defers := [] }) (by kernel_rfl) ?_
    go_upto_region 1 with (fail)
    refine wp_region_lit ?_
    refine load_big pp_big rfl qB2 rfl _ rfl rfl ?_
    refine call_step rfl 9 #[.agg #[.int .i64 r, .string d, .bool e, .int .i64 n]] (by kernel_rfl) (hk _) ?_
    rintro _ qw4 ⟨rfl, qg5⟩
    refine ⟨_, rfl, ?_⟩
    replace qB2 := qB2.since qg5
    replace G := G.trans qg5
    have qg5_s := qg5.size
    refine step_val (w' := qw4) rfl (.bool false) (by kernel_rfl) ?_
    refine wpList_frame (a' := { tmps := #[.agg #[.int .i64 r, .string d, .bool e, .int .i64 n], .pointer (some ⟨w.heap.size, 0, none⟩), .int .i64 0, .agg #[.int .i64 r, .string d, .bool e, .int .i64 n], .bool true, .bool false, undef, undef, undef], defers := [] }) (by kernel_rfl) ?_
    have c1 : qw4.cell? ⟨w.heap.size, 1, none⟩ = some (.string d) := qB2.cell 1
    go_wp2_with (fail)
    go_ret
    exact ⟨rfl, G⟩

theorem implHeldR (r : Int) (d : ByteArray) (e : Bool) (n : Int) (s : Int) (f : ByteArray) (g : Bool) (m : Int) (w : World) :
    Calls Try.prog 16 #[rlVal r d e n s f g m] w fun x w' => x = .returned (.int .i64 (heldP r d n + heldP s f m)) ∧ Since w w' := by
  have h1 := fun wx => implHeldP r d e n wx
  have h2 := fun wx => implHeldP s f g m wx
  have q1 := held_bound r d n
  have q2 := held_bound s f m
  generalize heldP r d n = u1 at h1 q1 ⊢
  generalize heldP s f m = u2 at h2 q2 ⊢
  unfold ppVal at h1 h2
  unfold rlVal
  have G := Since.refl w
  go_enter Try.func16, Try.ntmps16
  go_upto_region 0 with (fail)
  refine wp_region_lit ?_
  refine step_val (w' := w.alloc (.cells (#[.int .i64 r, .string d, .bool e, .int .i64 n, .int .i64 s, .string f, .bool g, .int .i64 m]) 30)) rfl (.pointer (some ⟨w.heap.size, 0, none⟩)) (by kernel_rfl) ?_
  have qB2 := Blk.new w (#[.int .i64 r, .string d, .bool e, .int .i64 n, .int .i64 s, .string f, .bool g, .int .i64 m]) 30
  have qg3 := (Since.refl w).alloc (.cells (#[.int .i64 r, .string d, .bool e, .int .i64 n, .int .i64 s, .string f, .bool g, .int .i64 m]) 30)
  replace G := G.trans qg3
  generalize w.alloc (.cells (#[.int .i64 r, .string d, .bool e, .int .i64 n, .int .i64 s, .string f, .bool g, .int .i64 m]) 30) = qw1 at  G qB2 qg3 ⊢
  have qB2_l := qB2.lt
  have qg3_s := qg3.size
  refine step_val (w' := qw1) rfl (.int .i64 0) (by kernel_rfl) ?_
  refine wpList_frame (a' := { tmps := #[.agg #[.int .i64 r, .string d, .bool e, .int .i64 n, .int .i64 s, .string f, .bool g, .int .i64 m], .pointer (some ⟨w.heap.size, 0, none⟩), .int .i64 0, undef, undef, undef, undef, undef, undef, undef], defers := [] }) (by kernel_rfl) ?_
  go_upto_region 1 with (fail)
  refine wp_region_each (wb := qw1) (fun i x v => match i with
      | 0 => v = .pointer (some ⟨w.heap.size, 0, none⟩)
      | 1 => v = .agg #[.int .i64 r, .string d, .bool e, .int .i64 n]
      | 2 => v = .int .i64 u1
      | 3 => v = .pointer (some ⟨w.heap.size, 4, none⟩)
      | 4 => v = .agg #[.int .i64 s, .string f, .bool g, .int .i64 m]
      | 5 => v = .int .i64 u2
      | 6 => v = .int .i64 (u1 + u2)
      | 7 => v = .int .i64 (u1 + u2)
      | _ => True) (fun v => { tmps := #[.agg #[.int .i64 r, .string d, .bool e, .int .i64 n, .int .i64 s, .string f, .bool g, .int .i64 m], .pointer (some ⟨w.heap.size, 0, none⟩), v 7, v 0, v 1, v 2, v 3, v 4, v 5, v 6], defers := [] }) (by kernel_rfl) (by kernel_rfl) (Since.refl _) ?_ (fun vals => by kernel_rfl) ?_ ?_
  case refine_1 =>
    intro j x x' v h1 h2
    match j, h2 with
    | 0, h2 | 1, h2 | 2, h2 | 3, h2 | 4, h2 | 5, h2 | 6, h2 | 7, h2 => exact h2
    | n + 8, _ => trivial
  case refine_2 =>
    repeat (first | exact eachDoes_nil | refine eachDoes_cons ?_ ?_)
    all_goals intro vals x hx hv
    all_goals simp [Region.binds] at hv
    · simp [does, doesUpon, go_sem, hv, Since.refl]
    · have e1 : IntKind.i64.wrap (u1 + u2) = u1 + u2 := by rw [IntWalk.i64_left]; exact IntWalk.wrap64_in _ ⟨by omega, by omega⟩
      simp [does, doesUpon, go_sem, hv, Since.refl, e1]
    · simp [does, doesUpon, go_sem, hv]
      refine (h2 _).mono ?_
      rintro _ x' ⟨rfl, h1⟩
      simp [h1]
    · exact does_part_load (qB2.since hx) pp_big _ rfl 4 hv [.int .i64 s, .string f, .bool g, .int .i64 m] rfl (fun j v hj => by match j, hj with | 0, h => exact h | 1, h => exact h | 2, h => exact h | 3, h => exact h | n + 4, h => exact absurd h (by simp)) ⟨Since.refl _, rfl⟩
    · simp [does, doesUpon, go_sem, Since.refl]
    · simp [does, doesUpon, go_sem, hv]
      refine (h1 _).mono ?_
      rintro _ x' ⟨rfl, h1⟩
      simp [h1]
    · exact does_part_load (qB2.since hx) pp_big _ rfl 0 hv [.int .i64 r, .string d, .bool e, .int .i64 n] rfl (fun j v hj => by match j, hj with | 0, h => exact h | 1, h => exact h | 2, h => exact h | 3, h => exact h | n + 4, h => exact absurd h (by simp)) ⟨Since.refl _, rfl⟩
    · simp [does, doesUpon, go_sem, Since.refl]
  case refine_3 =>
    intro qv6 qw4 qh5 hv
    have hv0 : qv6 0 = _ := hv 0 (by decide)
    have hv1 : qv6 1 = _ := hv 1 (by decide)
    have hv2 : qv6 2 = _ := hv 2 (by decide)
    have hv3 : qv6 3 = _ := hv 3 (by decide)
    have hv4 : qv6 4 = _ := hv 4 (by decide)
    have hv5 : qv6 5 = _ := hv 5 (by decide)
    have hv6 : qv6 6 = _ := hv 6 (by decide)
    have hv7 : qv6 7 = _ := hv 7 (by decide)
    clear hv
    simp only [hv0, hv1, hv2, hv3, hv4, hv5, hv6, hv7]
    clear hv0 hv1 hv2 hv3 hv4 hv5 hv6 hv7
    replace qB2 := qB2.since qh5
    replace G := G.trans qh5
    have qh5_s := qh5.size
    go_wp2_with (fail)
    go_ret
    exact ⟨rfl, G⟩

theorem specHeldR (r : Int) (d : ByteArray) (e : Bool) (n : Int) (s : Int) (f : ByteArray) (g : Bool) (m : Int) (hd : d.size ≤ 1048576) (hf : f.size ≤ 1048576) (w : World) :
    Calls Try.prog 14 #[rlVal r d e n s f g m] w fun x w' => x = .returned (.int .i64 (heldP r d n + heldP s f m)) ∧ Since w w' := by
  have h1 := fun wx => specPipeOk r d e n wx
  have h2 := fun wx => specPipeOk s f g m wx
  unfold heldP
  unfold ppVal at h1 h2
  unfold rlVal
  generalize pipeOk r d n = b1 at h1 ⊢
  generalize pipeOk s f m = b2 at h2 ⊢
  cases b1
  case false =>
    cases b2
    case false =>
      have G := Since.refl w
      go_enter Try.func14, Try.ntmps14
      go_upto_region 0 with (fail)
      refine wp_region_lit ?_
      refine step_val (w' := w.alloc (.cells (#[.int .i64 r, .string d, .bool e, .int .i64 n, .int .i64 s, .string f, .bool g, .int .i64 m]) 30)) rfl (.pointer (some ⟨w.heap.size, 0, none⟩)) (by kernel_rfl) ?_
      have qB2 := Blk.new w (#[.int .i64 r, .string d, .bool e, .int .i64 n, .int .i64 s, .string f, .bool g, .int .i64 m]) 30
      have qg3 := (Since.refl w).alloc (.cells (#[.int .i64 r, .string d, .bool e, .int .i64 n, .int .i64 s, .string f, .bool g, .int .i64 m]) 30)
      replace G := G.trans qg3
      generalize w.alloc (.cells (#[.int .i64 r, .string d, .bool e, .int .i64 n, .int .i64 s, .string f, .bool g, .int .i64 m]) 30) = qw1 at  G qB2 qg3 ⊢
      have qB2_l := qB2.lt
      have qg3_s := qg3.size
      refine step_val (w' := qw1) rfl (.int .i64 0) (by kernel_rfl) ?_
      refine wpList_frame (a' := { tmps := #[.agg #[.int .i64 r, .string d, .bool e, .int .i64 n, .int .i64 s, .string f, .bool g, .int .i64 m], .pointer (some ⟨w.heap.size, 0, none⟩), .int .i64 0, undef, undef, undef, undef, undef, undef, undef, undef, undef, undef, undef, undef, undef, undef, undef, undef, undef, undef, undef, undef], defers := [] }) (by kernel_rfl) ?_
      go_upto_region 2 with (fail)
      refine wp_region_lit ?_
      refine step_val (w' := qw1) rfl (.pointer (some ⟨w.heap.size, 0, none⟩)) (by kernel_rfl) ?_
      refine load_part qB2 rfl pp_big _ rfl 0 rfl [.int .i64 r, .string d, .bool e, .int .i64 n] rfl (fun j v hj => by match j, hj with | 0, h => exact h | 1, h => exact h | 2, h => exact h | 3, h => exact h | n + 4, h => exact absurd h (by simp)) ?_
      refine call_step rfl 7 #[.agg #[.int .i64 r, .string d, .bool e, .int .i64 n]] (by kernel_rfl) (h1 _) ?_
      rintro _ qw4 ⟨rfl, qg5⟩
      refine ⟨_, rfl, ?_⟩
      replace qB2 := qB2.since qg5
      replace G := G.trans qg5
      have qg5_s := qg5.size
      refine wpList_frame (a' := { tmps := #[.agg #[.int .i64 r, .string d, .bool e, .int .i64 n, .int .i64 s, .string f, .bool g, .int .i64 m], .pointer (some ⟨w.heap.size, 0, none⟩), .int .i64 0, .int .i64 0, .pointer (some ⟨w.heap.size, 0, none⟩), .agg #[.int .i64 r, .string d, .bool e, .int .i64 n], .bool false, undef, undef, undef, undef, undef, undef, undef, undef, undef, undef, undef, undef, undef, undef, undef, undef], defers := [] }) (by kernel_rfl) ?_
      go_upto_region 4 with (fail)
      refine wp_region_lit ?_
      refine step_val (w' := qw4) rfl (.pointer (some ⟨w.heap.size, 4, none⟩)) (by kernel_rfl) ?_
      refine load_part qB2 rfl pp_big _ rfl 4 rfl [.int .i64 s, .string f, .bool g, .int .i64 m] rfl (fun j v hj => by match j, hj with | 0, h => exact h | 1, h => exact h | 2, h => exact h | 3, h => exact h | n + 4, h => exact absurd h (by simp)) ?_
      refine call_step rfl 7 #[.agg #[.int .i64 s, .string f, .bool g, .int .i64 m]] (by kernel_rfl) (h2 _) ?_
      rintro _ qw6 ⟨rfl, qg7⟩
      refine ⟨_, rfl, ?_⟩
      replace qB2 := qB2.since qg7
      replace G := G.trans qg7
      have qg7_s := qg7.size
      refine wpList_frame (a' := { tmps := #[.agg #[.int .i64 r, .string d, .bool e, .int .i64 n, .int .i64 s, .string f, .bool g, .int .i64 m], .pointer (some ⟨w.heap.size, 0, none⟩), .int .i64 0, .int .i64 0, .pointer (some ⟨w.heap.size, 0, none⟩), .agg #[.int .i64 r, .string d, .bool e, .int .i64 n], .bool false, undef, undef, undef, undef, undef, undef, .pointer (some ⟨w.heap.size, 4, none⟩), .agg #[.int .i64 s, .string f, .bool g, .int .i64 m], .bool false, undef, undef, undef, undef, undef, undef, undef], defers := [] }) (by kernel_rfl) ?_
      go_wp2_with (fail)
      go_ret
      exact ⟨by simp, G⟩
    case true =>
      have G := Since.refl w
      go_enter Try.func14, Try.ntmps14
      go_upto_region 0 with (fail)
      refine wp_region_lit ?_
      refine step_val (w' := w.alloc (.cells (#[.int .i64 r, .string d, .bool e, .int .i64 n, .int .i64 s, .string f, .bool g, .int .i64 m]) 30)) rfl (.pointer (some ⟨w.heap.size, 0, none⟩)) (by kernel_rfl) ?_
      have qB2 := Blk.new w (#[.int .i64 r, .string d, .bool e, .int .i64 n, .int .i64 s, .string f, .bool g, .int .i64 m]) 30
      have qg3 := (Since.refl w).alloc (.cells (#[.int .i64 r, .string d, .bool e, .int .i64 n, .int .i64 s, .string f, .bool g, .int .i64 m]) 30)
      replace G := G.trans qg3
      generalize w.alloc (.cells (#[.int .i64 r, .string d, .bool e, .int .i64 n, .int .i64 s, .string f, .bool g, .int .i64 m]) 30) = qw1 at  G qB2 qg3 ⊢
      have qB2_l := qB2.lt
      have qg3_s := qg3.size
      refine step_val (w' := qw1) rfl (.int .i64 0) (by kernel_rfl) ?_
      refine wpList_frame (a' := { tmps := #[.agg #[.int .i64 r, .string d, .bool e, .int .i64 n, .int .i64 s, .string f, .bool g, .int .i64 m], .pointer (some ⟨w.heap.size, 0, none⟩), .int .i64 0, undef, undef, undef, undef, undef, undef, undef, undef, undef, undef, undef, undef, undef, undef, undef, undef, undef, undef, undef, undef], defers := [] }) (by kernel_rfl) ?_
      go_upto_region 2 with (fail)
      refine wp_region_lit ?_
      refine step_val (w' := qw1) rfl (.pointer (some ⟨w.heap.size, 0, none⟩)) (by kernel_rfl) ?_
      refine load_part qB2 rfl pp_big _ rfl 0 rfl [.int .i64 r, .string d, .bool e, .int .i64 n] rfl (fun j v hj => by match j, hj with | 0, h => exact h | 1, h => exact h | 2, h => exact h | 3, h => exact h | n + 4, h => exact absurd h (by simp)) ?_
      refine call_step rfl 7 #[.agg #[.int .i64 r, .string d, .bool e, .int .i64 n]] (by kernel_rfl) (h1 _) ?_
      rintro _ qw4 ⟨rfl, qg5⟩
      refine ⟨_, rfl, ?_⟩
      replace qB2 := qB2.since qg5
      replace G := G.trans qg5
      have qg5_s := qg5.size
      refine wpList_frame (a' := { tmps := #[.agg #[.int .i64 r, .string d, .bool e, .int .i64 n, .int .i64 s, .string f, .bool g, .int .i64 m], .pointer (some ⟨w.heap.size, 0, none⟩), .int .i64 0, .int .i64 0, .pointer (some ⟨w.heap.size, 0, none⟩), .agg #[.int .i64 r, .string d, .bool e, .int .i64 n], .bool false, undef, undef, undef, undef, undef, undef, undef, undef, undef, undef, undef, undef, undef, undef, undef, undef], defers := [] }) (by kernel_rfl) ?_
      go_upto_region 4 with (fail)
      refine wp_region_lit ?_
      refine step_val (w' := qw4) rfl (.pointer (some ⟨w.heap.size, 4, none⟩)) (by kernel_rfl) ?_
      refine load_part qB2 rfl pp_big _ rfl 4 rfl [.int .i64 s, .string f, .bool g, .int .i64 m] rfl (fun j v hj => by match j, hj with | 0, h => exact h | 1, h => exact h | 2, h => exact h | 3, h => exact h | n + 4, h => exact absurd h (by simp)) ?_
      refine call_step rfl 7 #[.agg #[.int .i64 s, .string f, .bool g, .int .i64 m]] (by kernel_rfl) (h2 _) ?_
      rintro _ qw6 ⟨rfl, qg7⟩
      refine ⟨_, rfl, ?_⟩
      replace qB2 := qB2.since qg7
      replace G := G.trans qg7
      have qg7_s := qg7.size
      refine wpList_frame (a' := { tmps := #[.agg #[.int .i64 r, .string d, .bool e, .int .i64 n, .int .i64 s, .string f, .bool g, .int .i64 m], .pointer (some ⟨w.heap.size, 0, none⟩), .int .i64 0, .int .i64 0, .pointer (some ⟨w.heap.size, 0, none⟩), .agg #[.int .i64 r, .string d, .bool e, .int .i64 n], .bool false, undef, undef, undef, undef, undef, undef, .pointer (some ⟨w.heap.size, 4, none⟩), .agg #[.int .i64 s, .string f, .bool g, .int .i64 m], .bool true, undef, undef, undef, undef, undef, undef, undef], defers := [] }) (by kernel_rfl) ?_
      have c2 : qw6.cell? ⟨w.heap.size, 5, none⟩ = some (.string f) := qB2.cell 5
      go_wp2_with (fail)
      go_ret
      exact ⟨by simp, G⟩
  case true =>
    cases b2
    case false =>
      have G := Since.refl w
      go_enter Try.func14, Try.ntmps14
      go_upto_region 0 with (fail)
      refine wp_region_lit ?_
      refine step_val (w' := w.alloc (.cells (#[.int .i64 r, .string d, .bool e, .int .i64 n, .int .i64 s, .string f, .bool g, .int .i64 m]) 30)) rfl (.pointer (some ⟨w.heap.size, 0, none⟩)) (by kernel_rfl) ?_
      have qB2 := Blk.new w (#[.int .i64 r, .string d, .bool e, .int .i64 n, .int .i64 s, .string f, .bool g, .int .i64 m]) 30
      have qg3 := (Since.refl w).alloc (.cells (#[.int .i64 r, .string d, .bool e, .int .i64 n, .int .i64 s, .string f, .bool g, .int .i64 m]) 30)
      replace G := G.trans qg3
      generalize w.alloc (.cells (#[.int .i64 r, .string d, .bool e, .int .i64 n, .int .i64 s, .string f, .bool g, .int .i64 m]) 30) = qw1 at  G qB2 qg3 ⊢
      have qB2_l := qB2.lt
      have qg3_s := qg3.size
      refine step_val (w' := qw1) rfl (.int .i64 0) (by kernel_rfl) ?_
      refine wpList_frame (a' := { tmps := #[.agg #[.int .i64 r, .string d, .bool e, .int .i64 n, .int .i64 s, .string f, .bool g, .int .i64 m], .pointer (some ⟨w.heap.size, 0, none⟩), .int .i64 0, undef, undef, undef, undef, undef, undef, undef, undef, undef, undef, undef, undef, undef, undef, undef, undef, undef, undef, undef, undef], defers := [] }) (by kernel_rfl) ?_
      go_upto_region 2 with (fail)
      refine wp_region_lit ?_
      refine step_val (w' := qw1) rfl (.pointer (some ⟨w.heap.size, 0, none⟩)) (by kernel_rfl) ?_
      refine load_part qB2 rfl pp_big _ rfl 0 rfl [.int .i64 r, .string d, .bool e, .int .i64 n] rfl (fun j v hj => by match j, hj with | 0, h => exact h | 1, h => exact h | 2, h => exact h | 3, h => exact h | n + 4, h => exact absurd h (by simp)) ?_
      refine call_step rfl 7 #[.agg #[.int .i64 r, .string d, .bool e, .int .i64 n]] (by kernel_rfl) (h1 _) ?_
      rintro _ qw4 ⟨rfl, qg5⟩
      refine ⟨_, rfl, ?_⟩
      replace qB2 := qB2.since qg5
      replace G := G.trans qg5
      have qg5_s := qg5.size
      refine wpList_frame (a' := { tmps := #[.agg #[.int .i64 r, .string d, .bool e, .int .i64 n, .int .i64 s, .string f, .bool g, .int .i64 m], .pointer (some ⟨w.heap.size, 0, none⟩), .int .i64 0, .int .i64 0, .pointer (some ⟨w.heap.size, 0, none⟩), .agg #[.int .i64 r, .string d, .bool e, .int .i64 n], .bool true, undef, undef, undef, undef, undef, undef, undef, undef, undef, undef, undef, undef, undef, undef, undef, undef], defers := [] }) (by kernel_rfl) ?_
      have c1 : qw4.cell? ⟨w.heap.size, 1, none⟩ = some (.string d) := qB2.cell 1
      go_upto_region 4 with (fail)
      refine wp_region_lit ?_
      refine step_val (w' := qw4) rfl (.pointer (some ⟨w.heap.size, 4, none⟩)) (by kernel_rfl) ?_
      refine load_part qB2 rfl pp_big _ rfl 4 rfl [.int .i64 s, .string f, .bool g, .int .i64 m] rfl (fun j v hj => by match j, hj with | 0, h => exact h | 1, h => exact h | 2, h => exact h | 3, h => exact h | n + 4, h => exact absurd h (by simp)) ?_
      refine call_step rfl 7 #[.agg #[.int .i64 s, .string f, .bool g, .int .i64 m]] (by kernel_rfl) (h2 _) ?_
      rintro _ qw6 ⟨rfl, qg7⟩
      refine ⟨_, rfl, ?_⟩
      replace qB2 := qB2.since qg7
      replace G := G.trans qg7
      have qg7_s := qg7.size
      refine wpList_frame (a' := { tmps := #[.agg #[.int .i64 r, .string d, .bool e, .int .i64 n, .int .i64 s, .string f, .bool g, .int .i64 m], .pointer (some ⟨w.heap.size, 0, none⟩), .int .i64 0, .int .i64 (d.size : Int), .pointer (some ⟨w.heap.size, 0, none⟩), .agg #[.int .i64 r, .string d, .bool e, .int .i64 n], .bool true, .int .i64 0, .pointer (some ⟨w.heap.size, 0, none⟩), .pointer (some ⟨w.heap.size, 1, none⟩), .string d, .int .i64 (d.size : Int), .int .i64 (d.size : Int), .pointer (some ⟨w.heap.size, 4, none⟩), .agg #[.int .i64 s, .string f, .bool g, .int .i64 m], .bool false, undef, undef, undef, undef, undef, undef, undef], defers := [] }) (by kernel_rfl) ?_
      go_wp2_with (fail)
      go_ret
      exact ⟨by simp, G⟩
    case true =>
      have G := Since.refl w
      go_enter Try.func14, Try.ntmps14
      go_upto_region 0 with (fail)
      refine wp_region_lit ?_
      refine step_val (w' := w.alloc (.cells (#[.int .i64 r, .string d, .bool e, .int .i64 n, .int .i64 s, .string f, .bool g, .int .i64 m]) 30)) rfl (.pointer (some ⟨w.heap.size, 0, none⟩)) (by kernel_rfl) ?_
      have qB2 := Blk.new w (#[.int .i64 r, .string d, .bool e, .int .i64 n, .int .i64 s, .string f, .bool g, .int .i64 m]) 30
      have qg3 := (Since.refl w).alloc (.cells (#[.int .i64 r, .string d, .bool e, .int .i64 n, .int .i64 s, .string f, .bool g, .int .i64 m]) 30)
      replace G := G.trans qg3
      generalize w.alloc (.cells (#[.int .i64 r, .string d, .bool e, .int .i64 n, .int .i64 s, .string f, .bool g, .int .i64 m]) 30) = qw1 at  G qB2 qg3 ⊢
      have qB2_l := qB2.lt
      have qg3_s := qg3.size
      refine step_val (w' := qw1) rfl (.int .i64 0) (by kernel_rfl) ?_
      refine wpList_frame (a' := { tmps := #[.agg #[.int .i64 r, .string d, .bool e, .int .i64 n, .int .i64 s, .string f, .bool g, .int .i64 m], .pointer (some ⟨w.heap.size, 0, none⟩), .int .i64 0, undef, undef, undef, undef, undef, undef, undef, undef, undef, undef, undef, undef, undef, undef, undef, undef, undef, undef, undef, undef], defers := [] }) (by kernel_rfl) ?_
      go_upto_region 2 with (fail)
      refine wp_region_lit ?_
      refine step_val (w' := qw1) rfl (.pointer (some ⟨w.heap.size, 0, none⟩)) (by kernel_rfl) ?_
      refine load_part qB2 rfl pp_big _ rfl 0 rfl [.int .i64 r, .string d, .bool e, .int .i64 n] rfl (fun j v hj => by match j, hj with | 0, h => exact h | 1, h => exact h | 2, h => exact h | 3, h => exact h | n + 4, h => exact absurd h (by simp)) ?_
      refine call_step rfl 7 #[.agg #[.int .i64 r, .string d, .bool e, .int .i64 n]] (by kernel_rfl) (h1 _) ?_
      rintro _ qw4 ⟨rfl, qg5⟩
      refine ⟨_, rfl, ?_⟩
      replace qB2 := qB2.since qg5
      replace G := G.trans qg5
      have qg5_s := qg5.size
      refine wpList_frame (a' := { tmps := #[.agg #[.int .i64 r, .string d, .bool e, .int .i64 n, .int .i64 s, .string f, .bool g, .int .i64 m], .pointer (some ⟨w.heap.size, 0, none⟩), .int .i64 0, .int .i64 0, .pointer (some ⟨w.heap.size, 0, none⟩), .agg #[.int .i64 r, .string d, .bool e, .int .i64 n], .bool true, undef, undef, undef, undef, undef, undef, undef, undef, undef, undef, undef, undef, undef, undef, undef, undef], defers := [] }) (by kernel_rfl) ?_
      have c1 : qw4.cell? ⟨w.heap.size, 1, none⟩ = some (.string d) := qB2.cell 1
      go_upto_region 4 with (fail)
      refine wp_region_lit ?_
      refine step_val (w' := qw4) rfl (.pointer (some ⟨w.heap.size, 4, none⟩)) (by kernel_rfl) ?_
      refine load_part qB2 rfl pp_big _ rfl 4 rfl [.int .i64 s, .string f, .bool g, .int .i64 m] rfl (fun j v hj => by match j, hj with | 0, h => exact h | 1, h => exact h | 2, h => exact h | 3, h => exact h | n + 4, h => exact absurd h (by simp)) ?_
      refine call_step rfl 7 #[.agg #[.int .i64 s, .string f, .bool g, .int .i64 m]] (by kernel_rfl) (h2 _) ?_
      rintro _ qw6 ⟨rfl, qg7⟩
      refine ⟨_, rfl, ?_⟩
      replace qB2 := qB2.since qg7
      replace G := G.trans qg7
      have qg7_s := qg7.size
      refine wpList_frame (a' := { tmps := #[.agg #[.int .i64 r, .string d, .bool e, .int .i64 n, .int .i64 s, .string f, .bool g, .int .i64 m], .pointer (some ⟨w.heap.size, 0, none⟩), .int .i64 0, .int .i64 (d.size : Int), .pointer (some ⟨w.heap.size, 0, none⟩), .agg #[.int .i64 r, .string d, .bool e, .int .i64 n], .bool true, .int .i64 0, .pointer (some ⟨w.heap.size, 0, none⟩), .pointer (some ⟨w.heap.size, 1, none⟩), .string d, .int .i64 (d.size : Int), .int .i64 (d.size : Int), .pointer (some ⟨w.heap.size, 4, none⟩), .agg #[.int .i64 s, .string f, .bool g, .int .i64 m], .bool true, undef, undef, undef, undef, undef, undef, undef], defers := [] }) (by kernel_rfl) ?_
      have c2 : qw6.cell? ⟨w.heap.size, 5, none⟩ = some (.string f) := qB2.cell 5
      go_wp2_with (fail)
      go_ret
      exact ⟨by simp, G⟩

/-- What RelayStart answers. -/
def startV (x : Int) : Value := if 1 ≤ x ∧ x ≤ 2048 then .tuple #[.agg #[.int .i64 x, .string ByteArray.empty, .bool false, .int .i64 0, .int .i64 x, .string ByteArray.empty, .bool false, .int .i64 0], .bool true] else .tuple #[.agg #[.int .i64 0, .string ByteArray.empty, .bool false, .int .i64 0, .int .i64 0, .string ByteArray.empty, .bool false, .int .i64 0], .bool false]

theorem implRStart (x : Int) (w : World) : Calls Try.prog 11 #[.int .i64 x] w fun e w' => e = .returned (startV x) ∧ Since w w' := by
  have h1 := fun wx => isPipeRoom x wx
  unfold startV
  by_cases h : 1 ≤ x ∧ x ≤ 2048
  case pos =>
    rw [if_pos h]
    rw [decide_eq_true h] at h1
    clear h
    have G := Since.refl w
    go_enter Try.func11, Try.ntmps11
    go_upto_region 0 with (fail)
    refine wp_region_lit ?_
    refine step_val (w' := w.alloc (.cells (#[.int .i64 0, .string ByteArray.empty, .bool false, .int .i64 0, .int .i64 0, .string ByteArray.empty, .bool false, .int .i64 0]) 30)) rfl (.pointer (some ⟨w.heap.size, 0, none⟩)) (by kernel_rfl) ?_
    have qB2 := Blk.new w (#[.int .i64 0, .string ByteArray.empty, .bool false, .int .i64 0, .int .i64 0, .string ByteArray.empty, .bool false, .int .i64 0]) 30
    have qg3 := (Since.refl w).alloc (.cells (#[.int .i64 0, .string ByteArray.empty, .bool false, .int .i64 0, .int .i64 0, .string ByteArray.empty, .bool false, .int .i64 0]) 30)
    replace G := G.trans qg3
    generalize w.alloc (.cells (#[.int .i64 0, .string ByteArray.empty, .bool false, .int .i64 0, .int .i64 0, .string ByteArray.empty, .bool false, .int .i64 0]) 30) = qw1 at  G qB2 qg3 ⊢
    have qB2_l := qB2.lt
    have qg3_s := qg3.size
    refine step_val (w' := qw1) rfl (.bool false) (by kernel_rfl) ?_
    refine wpList_frame (a' := { tmps := #[.int .i64 x, undef, .pointer (some ⟨w.heap.size, 0, none⟩), .bool false, undef, undef, undef, undef, undef, undef, undef, undef, undef], defers := [] }) (by kernel_rfl) ?_
    go_upto_region 1 with (fail)
    refine wp_region_lit ?_
    refine move_step rfl _ rfl ?_
    refine call_step rfl 18 #[.int .i64 x] (by kernel_rfl) (h1 _) ?_
    rintro _ _ ⟨rfl, rfl⟩
    refine ⟨_, rfl, ?_⟩
    refine step_val (w' := qw1) rfl (.bool false) (by kernel_rfl) ?_
    refine wpList_frame (a' := { tmps := #[.int .i64 x, undef, .pointer (some ⟨w.heap.size, 0, none⟩), .bool false, .int .i64 x, .bool true, .bool false, undef, undef, undef, undef, undef, undef], defers := [] }) (by kernel_rfl) ?_
    go_upto_region 3 with (fail)
    refine wp_region_lit ?_
    refine move_step rfl _ rfl ?_
    refine step_val (w' := qw1) rfl (.agg #[.int .i64 x, .string ByteArray.empty, .bool false, .int .i64 0]) (by kernel_rfl) ?_
    refine move_step rfl _ rfl ?_
    refine step_val (w' := qw1) rfl (.agg #[.int .i64 x, .string ByteArray.empty, .bool false, .int .i64 0]) (by kernel_rfl) ?_
    refine wpList_frame (a' := { tmps := #[.int .i64 x, undef, .pointer (some ⟨w.heap.size, 0, none⟩), .bool false, .int .i64 x, .bool true, .bool false, undef, .int .i64 x, .agg #[.int .i64 x, .string ByteArray.empty, .bool false, .int .i64 0], .int .i64 x, .agg #[.int .i64 x, .string ByteArray.empty, .bool false, .int .i64 0], undef], defers := [] }) (by kernel_rfl) ?_
    refine step_val (w' := qw1) rfl (.agg #[.int .i64 x, .string ByteArray.empty, .bool false, .int .i64 0, .int .i64 x, .string ByteArray.empty, .bool false, .int .i64 0]) (by kernel_rfl) ?_
    refine store_big rl_big rfl rfl (by simp [Value.oneCell']) qB2 rfl _ _ rfl rfl rfl ?_
    intro qw4 qt5 qB6
    clear qB2
    replace G := since_touch G qt5 (by omega)
    have qt5_s := qt5.size
    refine step_val (w' := qw4) rfl (.bool true) (by kernel_rfl) ?_
    refine wpList_frame (a' := { tmps := #[.int .i64 x, undef, .pointer (some ⟨w.heap.size, 0, none⟩), .bool true, .int .i64 x, .bool true, .bool false, undef, .int .i64 x, .agg #[.int .i64 x, .string ByteArray.empty, .bool false, .int .i64 0], .int .i64 x, .agg #[.int .i64 x, .string ByteArray.empty, .bool false, .int .i64 0], .agg #[.int .i64 x, .string ByteArray.empty, .bool false, .int .i64 0, .int .i64 x, .string ByteArray.empty, .bool false, .int .i64 0]], defers := [] }) (by kernel_rfl) ?_
    go_wp2_with (fail)
    refine bodyPost_ret (v := .tuple #[.agg #[.int .i64 x, .string ByteArray.empty, .bool false, .int .i64 0, .int .i64 x, .string ByteArray.empty, .bool false, .int .i64 0], .bool true]) ?_ rfl ⟨rfl, G⟩
    exact results_rl2 (hs := rfl) (t := 2) (u := 3) rfl _ rfl qB6
  case neg =>
    rw [if_neg h]
    rw [decide_eq_false h] at h1
    clear h
    have G := Since.refl w
    go_enter Try.func11, Try.ntmps11
    go_upto_region 0 with (fail)
    refine wp_region_lit ?_
    refine step_val (w' := w.alloc (.cells (#[.int .i64 0, .string ByteArray.empty, .bool false, .int .i64 0, .int .i64 0, .string ByteArray.empty, .bool false, .int .i64 0]) 30)) rfl (.pointer (some ⟨w.heap.size, 0, none⟩)) (by kernel_rfl) ?_
    have qB2 := Blk.new w (#[.int .i64 0, .string ByteArray.empty, .bool false, .int .i64 0, .int .i64 0, .string ByteArray.empty, .bool false, .int .i64 0]) 30
    have qg3 := (Since.refl w).alloc (.cells (#[.int .i64 0, .string ByteArray.empty, .bool false, .int .i64 0, .int .i64 0, .string ByteArray.empty, .bool false, .int .i64 0]) 30)
    replace G := G.trans qg3
    generalize w.alloc (.cells (#[.int .i64 0, .string ByteArray.empty, .bool false, .int .i64 0, .int .i64 0, .string ByteArray.empty, .bool false, .int .i64 0]) 30) = qw1 at  G qB2 qg3 ⊢
    have qB2_l := qB2.lt
    have qg3_s := qg3.size
    refine step_val (w' := qw1) rfl (.bool false) (by kernel_rfl) ?_
    refine wpList_frame (a' := { tmps := #[.int .i64 x, undef, .pointer (some ⟨w.heap.size, 0, none⟩), .bool false, undef, undef, undef, undef, undef, undef, undef, undef, undef], defers := [] }) (by kernel_rfl) ?_
    go_upto_region 1 with (fail)
    refine wp_region_lit ?_
    refine move_step rfl _ rfl ?_
    refine call_step rfl 18 #[.int .i64 x] (by kernel_rfl) (h1 _) ?_
    rintro _ _ ⟨rfl, rfl⟩
    refine ⟨_, rfl, ?_⟩
    refine step_val (w' := qw1) rfl (.bool true) (by kernel_rfl) ?_
    refine wpList_frame (a' := { tmps := #[.int .i64 x, undef, .pointer (some ⟨w.heap.size, 0, none⟩), .bool false, .int .i64 x, .bool false, .bool true, undef, undef, undef, undef, undef, undef], defers := [] }) (by kernel_rfl) ?_
    go_upto_region 2 with (fail)
    refine wp_region_lit ?_
    refine step_val (w' := qw1) rfl (.agg #[.int .i64 0, .string ByteArray.empty, .bool false, .int .i64 0, .int .i64 0, .string ByteArray.empty, .bool false, .int .i64 0]) (by kernel_rfl) ?_
    refine store_big rl_big rfl rfl (by simp [Value.oneCell']) qB2 rfl _ _ rfl rfl rfl ?_
    intro qw4 qt5 qB6
    clear qB2
    replace G := since_touch G qt5 (by omega)
    have qt5_s := qt5.size
    refine step_val (w' := qw4) rfl (.bool false) (by kernel_rfl) ?_
    refine wpList_frame (a' := { tmps := #[.int .i64 x, undef, .pointer (some ⟨w.heap.size, 0, none⟩), .bool false, .int .i64 x, .bool false, .bool true, .agg #[.int .i64 0, .string ByteArray.empty, .bool false, .int .i64 0, .int .i64 0, .string ByteArray.empty, .bool false, .int .i64 0], undef, undef, undef, undef, undef], defers := [] }) (by kernel_rfl) ?_
    go_wp2_with (fail)
    refine bodyPost_ret (v := .tuple #[.agg #[.int .i64 0, .string ByteArray.empty, .bool false, .int .i64 0, .int .i64 0, .string ByteArray.empty, .bool false, .int .i64 0], .bool false]) ?_ rfl ⟨rfl, G⟩
    exact results_rl2 (hs := rfl) (t := 2) (u := 3) rfl _ rfl qB6

theorem specRStart (x : Int) (w : World) : Calls Try.prog 10 #[.int .i64 x] w fun e w' => e = .returned (startV x) ∧ Since w w' := by
  have h1 := fun wx => specIn x 1 2048 wx
  unfold startV
  by_cases h : 1 ≤ x ∧ x ≤ 2048
  case pos =>
    rw [if_pos h]
    rw [decide_eq_true h] at h1
    clear h
    have G := Since.refl w
    go_enter Try.func10, Try.ntmps10
    go_upto_region 0 with (fail)
    refine wp_region_lit ?_
    refine step_val (w' := w.alloc (.cells (#[.int .i64 0, .string ByteArray.empty, .bool false, .int .i64 0, .int .i64 0, .string ByteArray.empty, .bool false, .int .i64 0]) 30)) rfl (.pointer (some ⟨w.heap.size, 0, none⟩)) (by kernel_rfl) ?_
    have qB2 := Blk.new w (#[.int .i64 0, .string ByteArray.empty, .bool false, .int .i64 0, .int .i64 0, .string ByteArray.empty, .bool false, .int .i64 0]) 30
    have qg3 := (Since.refl w).alloc (.cells (#[.int .i64 0, .string ByteArray.empty, .bool false, .int .i64 0, .int .i64 0, .string ByteArray.empty, .bool false, .int .i64 0]) 30)
    replace G := G.trans qg3
    generalize w.alloc (.cells (#[.int .i64 0, .string ByteArray.empty, .bool false, .int .i64 0, .int .i64 0, .string ByteArray.empty, .bool false, .int .i64 0]) 30) = qw1 at  G qB2 qg3 ⊢
    have qB2_l := qB2.lt
    have qg3_s := qg3.size
    refine step_val (w' := qw1) rfl (.bool false) (by kernel_rfl) ?_
    refine wpList_frame (a' := { tmps := #[.int .i64 x, undef, .pointer (some ⟨w.heap.size, 0, none⟩), .bool false, undef, undef, undef, undef, undef, undef, undef, undef, undef], defers := [] }) (by kernel_rfl) ?_
    go_upto_region 1 with (fail)
    refine wp_region_lit ?_
    refine move_step rfl _ rfl ?_
    refine call_step rfl 17 #[.int .i64 x, .int .i64 1, .int .i64 2048] (by kernel_rfl) (h1 _) ?_
    rintro _ _ ⟨rfl, rfl⟩
    refine ⟨_, rfl, ?_⟩
    refine step_val (w' := qw1) rfl (.bool false) (by kernel_rfl) ?_
    refine wpList_frame (a' := { tmps := #[.int .i64 x, undef, .pointer (some ⟨w.heap.size, 0, none⟩), .bool false, .int .i64 x, .bool true, .bool false, undef, undef, undef, undef, undef, undef], defers := [] }) (by kernel_rfl) ?_
    go_upto_region 3 with (fail)
    refine wp_region_lit ?_
    refine move_step rfl _ rfl ?_
    refine step_val (w' := qw1) rfl (.agg #[.int .i64 x, .string ByteArray.empty, .bool false, .int .i64 0]) (by kernel_rfl) ?_
    refine move_step rfl _ rfl ?_
    refine step_val (w' := qw1) rfl (.agg #[.int .i64 x, .string ByteArray.empty, .bool false, .int .i64 0]) (by kernel_rfl) ?_
    refine wpList_frame (a' := { tmps := #[.int .i64 x, undef, .pointer (some ⟨w.heap.size, 0, none⟩), .bool false, .int .i64 x, .bool true, .bool false, undef, .int .i64 x, .agg #[.int .i64 x, .string ByteArray.empty, .bool false, .int .i64 0], .int .i64 x, .agg #[.int .i64 x, .string ByteArray.empty, .bool false, .int .i64 0], undef], defers := [] }) (by kernel_rfl) ?_
    refine step_val (w' := qw1) rfl (.agg #[.int .i64 x, .string ByteArray.empty, .bool false, .int .i64 0, .int .i64 x, .string ByteArray.empty, .bool false, .int .i64 0]) (by kernel_rfl) ?_
    refine store_big rl_big rfl rfl (by simp [Value.oneCell']) qB2 rfl _ _ rfl rfl rfl ?_
    intro qw4 qt5 qB6
    clear qB2
    replace G := since_touch G qt5 (by omega)
    have qt5_s := qt5.size
    refine step_val (w' := qw4) rfl (.bool true) (by kernel_rfl) ?_
    refine wpList_frame (a' := { tmps := #[.int .i64 x, undef, .pointer (some ⟨w.heap.size, 0, none⟩), .bool true, .int .i64 x, .bool true, .bool false, undef, .int .i64 x, .agg #[.int .i64 x, .string ByteArray.empty, .bool false, .int .i64 0], .int .i64 x, .agg #[.int .i64 x, .string ByteArray.empty, .bool false, .int .i64 0], .agg #[.int .i64 x, .string ByteArray.empty, .bool false, .int .i64 0, .int .i64 x, .string ByteArray.empty, .bool false, .int .i64 0]], defers := [] }) (by kernel_rfl) ?_
    go_wp2_with (fail)
    refine bodyPost_ret (v := .tuple #[.agg #[.int .i64 x, .string ByteArray.empty, .bool false, .int .i64 0, .int .i64 x, .string ByteArray.empty, .bool false, .int .i64 0], .bool true]) ?_ rfl ⟨rfl, G⟩
    exact results_rl2 (hs := rfl) (t := 2) (u := 3) rfl _ rfl qB6
  case neg =>
    rw [if_neg h]
    rw [decide_eq_false h] at h1
    clear h
    have G := Since.refl w
    go_enter Try.func10, Try.ntmps10
    go_upto_region 0 with (fail)
    refine wp_region_lit ?_
    refine step_val (w' := w.alloc (.cells (#[.int .i64 0, .string ByteArray.empty, .bool false, .int .i64 0, .int .i64 0, .string ByteArray.empty, .bool false, .int .i64 0]) 30)) rfl (.pointer (some ⟨w.heap.size, 0, none⟩)) (by kernel_rfl) ?_
    have qB2 := Blk.new w (#[.int .i64 0, .string ByteArray.empty, .bool false, .int .i64 0, .int .i64 0, .string ByteArray.empty, .bool false, .int .i64 0]) 30
    have qg3 := (Since.refl w).alloc (.cells (#[.int .i64 0, .string ByteArray.empty, .bool false, .int .i64 0, .int .i64 0, .string ByteArray.empty, .bool false, .int .i64 0]) 30)
    replace G := G.trans qg3
    generalize w.alloc (.cells (#[.int .i64 0, .string ByteArray.empty, .bool false, .int .i64 0, .int .i64 0, .string ByteArray.empty, .bool false, .int .i64 0]) 30) = qw1 at  G qB2 qg3 ⊢
    have qB2_l := qB2.lt
    have qg3_s := qg3.size
    refine step_val (w' := qw1) rfl (.bool false) (by kernel_rfl) ?_
    refine wpList_frame (a' := { tmps := #[.int .i64 x, undef, .pointer (some ⟨w.heap.size, 0, none⟩), .bool false, undef, undef, undef, undef, undef, undef, undef, undef, undef], defers := [] }) (by kernel_rfl) ?_
    go_upto_region 1 with (fail)
    refine wp_region_lit ?_
    refine move_step rfl _ rfl ?_
    refine call_step rfl 17 #[.int .i64 x, .int .i64 1, .int .i64 2048] (by kernel_rfl) (h1 _) ?_
    rintro _ _ ⟨rfl, rfl⟩
    refine ⟨_, rfl, ?_⟩
    refine step_val (w' := qw1) rfl (.bool true) (by kernel_rfl) ?_
    refine wpList_frame (a' := { tmps := #[.int .i64 x, undef, .pointer (some ⟨w.heap.size, 0, none⟩), .bool false, .int .i64 x, .bool false, .bool true, undef, undef, undef, undef, undef, undef], defers := [] }) (by kernel_rfl) ?_
    go_upto_region 2 with (fail)
    refine wp_region_lit ?_
    refine step_val (w' := qw1) rfl (.agg #[.int .i64 0, .string ByteArray.empty, .bool false, .int .i64 0, .int .i64 0, .string ByteArray.empty, .bool false, .int .i64 0]) (by kernel_rfl) ?_
    refine store_big rl_big rfl rfl (by simp [Value.oneCell']) qB2 rfl _ _ rfl rfl rfl ?_
    intro qw4 qt5 qB6
    clear qB2
    replace G := since_touch G qt5 (by omega)
    have qt5_s := qt5.size
    refine step_val (w' := qw4) rfl (.bool false) (by kernel_rfl) ?_
    refine wpList_frame (a' := { tmps := #[.int .i64 x, undef, .pointer (some ⟨w.heap.size, 0, none⟩), .bool false, .int .i64 x, .bool false, .bool true, .agg #[.int .i64 0, .string ByteArray.empty, .bool false, .int .i64 0, .int .i64 0, .string ByteArray.empty, .bool false, .int .i64 0], undef, undef, undef, undef, undef], defers := [] }) (by kernel_rfl) ?_
    go_wp2_with (fail)
    refine bodyPost_ret (v := .tuple #[.agg #[.int .i64 0, .string ByteArray.empty, .bool false, .int .i64 0, .int .i64 0, .string ByteArray.empty, .bool false, .int .i64 0], .bool false]) ?_ rfl ⟨rfl, G⟩
    exact results_rl2 (hs := rfl) (t := 2) (u := 3) rfl _ rfl qB6

/-- Two pipes that came in as data, opened. -/
theorem open_relay {H : Type} {enc : TypeId × Value → H} {W : World} {base : Nat} {v : Value} {d : DataW H} {p : List MemPlace} (hv : Value.okWide Try.prog W .any base 36 v) (h : DataW.Trod enc Try.prog W 0 (fun _ => true) true 36 v d p) :
    ∃ (r : Int) (d : ByteArray) (e : Bool) (n : Int) (s : Int) (f : ByteArray) (g : Bool) (m : Int), v = .agg #[.int .i64 r, .string d, .bool e, .int .i64 n, .int .i64 s, .string f, .bool g, .int .i64 m] ∧ ((Lit.int .i64 r).wf = true ∧ (Lit.int .i64 s).wf = true) ∧ (d.size ≤ maxLen ∧ f.size ≤ maxLen) ∧ ((Lit.int .i64 n).wf = true ∧ (Lit.int .i64 m).wf = true) := by
  obtain ⟨cs, rfl, hsz⟩ := okWide_struct Try.underlying36 hv
  have hC : Try.prog.cellsOf 36 = 8 := by kernel_rfl
  rw [hC] at hsz
  obtain ⟨fuel, hf⟩ := h
  obtain ⟨ys, n, _, hx, _, hlen, hg⟩ := DataW.trod_struct Try.underlying36 hf
  clear hx hf
  obtain ⟨l⟩ := cs
  have z1 : Try.prog.cellsOf 3 = 1 := by kernel_rfl
  have z3 : Try.prog.cellsOf 9 = 1 := by kernel_rfl
  have z4 : Try.prog.cellsOf 4 = 1 := by kernel_rfl
  have z6 : Try.prog.cellsOf 23 = 4 := by kernel_rfl
  match l, hsz with
  | u0 :: u1 :: u2 :: u3 :: u4 :: u5 :: u6 :: u7 :: [], _ =>
    match ys, hlen with
    | y0 :: y1 :: [], _ =>
      have g0 := hg 0 _ rfl
      have g1 := hg 1 _ rfl
      simp [z6, Value.cells] at g0 g1
      obtain ⟨ys0, n0, _, hx0, _, hlen0, hg0⟩ := DataW.trod_struct Try.underlying23 g0
      clear hx0
      obtain ⟨ys1, n1, _, hx1, _, hlen1, hg1⟩ := DataW.trod_struct Try.underlying23 g1
      clear hx1
      match ys0, hlen0, ys1, hlen1 with
      | a0 :: a1 :: a2 :: a3 :: [], _, b0 :: b1 :: b2 :: b3 :: [], _ =>
        have k00 := hg0 0 _ rfl
        simp [z1, z3, z4] at k00
        obtain ⟨x00, e00, _, w00⟩ := DataW.trod_int Try.underlying3 k00
        simp only [List.cons.injEq, and_true] at e00
        subst e00
        have k01 := hg0 1 _ rfl
        simp [z1, z3, z4] at k01
        obtain ⟨x01, e01, _, w01⟩ := DataW.trod_string Try.underlying9 k01
        simp only [List.cons.injEq, and_true] at e01
        subst e01
        have k02 := hg0 2 _ rfl
        simp [z1, z3, z4] at k02
        obtain ⟨x02, e02, _⟩ := DataW.trod_bool Try.underlying4 k02
        simp only [List.cons.injEq, and_true] at e02
        subst e02
        have k03 := hg0 3 _ rfl
        simp [z1, z3, z4] at k03
        obtain ⟨x03, e03, _, w03⟩ := DataW.trod_int Try.underlying3 k03
        simp only [List.cons.injEq, and_true] at e03
        subst e03
        have k10 := hg1 0 _ rfl
        simp [z1, z3, z4] at k10
        obtain ⟨x10, e10, _, w10⟩ := DataW.trod_int Try.underlying3 k10
        simp only [List.cons.injEq, and_true] at e10
        subst e10
        have k11 := hg1 1 _ rfl
        simp [z1, z3, z4] at k11
        obtain ⟨x11, e11, _, w11⟩ := DataW.trod_string Try.underlying9 k11
        simp only [List.cons.injEq, and_true] at e11
        subst e11
        have k12 := hg1 2 _ rfl
        simp [z1, z3, z4] at k12
        obtain ⟨x12, e12, _⟩ := DataW.trod_bool Try.underlying4 k12
        simp only [List.cons.injEq, and_true] at e12
        subst e12
        have k13 := hg1 3 _ rfl
        simp [z1, z3, z4] at k13
        obtain ⟨x13, e13, _, w13⟩ := DataW.trod_int Try.underlying3 k13
        simp only [List.cons.injEq, and_true] at e13
        subst e13
        exact ⟨x00, x01, x02, x03, x10, x11, x12, x13, rfl, ⟨w00, w10⟩, ⟨w01, w11⟩, ⟨w03, w13⟩⟩
end Go.Proofs.Ytipaaddjpmlajaa
