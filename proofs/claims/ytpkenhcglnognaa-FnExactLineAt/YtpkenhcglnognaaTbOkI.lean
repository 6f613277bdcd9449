/-
  Whether a table is one: impl's TableOk by contract.
-/
import Derived.Test.YtpkenhcglnognaaTbOk
import Derived.Test.YtpkenhcglnognaaConnOkI
import Derived.Test.YtpkenhcglnognaaLow
import Derived.Test.YtpkenhcglnognaaSeg
import Derived.Test.YtpkenhcglnognaaOut
import Derived.Laws.StructEq
namespace Go.Proofs.Ytpkenhcglnognaa
open Go.ChangeShapes Go.WideShapes Go.ChangeAt Go.RowKit Go.Deep
set_option linter.unusedVariables false
set_option maxRecDepth 10000
set_option linter.unusedSimpArgs false

theorem rt_big : IsBig 64 4 := ⟨⟨_, Try.underlying64, rfl⟩, by kernel_rfl⟩

theorem as_big : IsBig 62 2 := ⟨⟨_, Try.underlying62, rfl⟩, by kernel_rfl⟩

theorem isPortB (x : Int) (q : Bool) (h : decide (1 ≤ x ∧ x ≤ 65535) = q) (w : World) : Calls Try.prog 35 #[.int .i64 x] w fun e w' => e = .returned (.bool q) ∧ w = w' := by
  rw [← h]
  exact isPort x w

theorem isRoomB (x : Int) (q : Bool) (h : decide (1 ≤ x ∧ x ≤ 4096) = q) (w : World) : Calls Try.prog 36 #[.int .i64 x] w fun e w' => e = .returned (.bool q) ∧ w = w' := by
  rw [← h]
  exact isRoom x w

theorem isTickB (x : Int) (q : Bool) (h : decide (0 ≤ x ∧ x ≤ 1000000000) = q) (w : World) : Calls Try.prog 37 #[.int .i64 x] w fun e w' => e = .returned (.bool q) ∧ w = w' := by
  rw [← h]
  by_cases h1 : 0 ≤ x
  · have e1 : decide (0 ≤ x ∧ x ≤ 1000000000) = decide (x ≤ 1000000000) := by simp [h1]
    rw [e1]
    clear e1
    go_enter Try.func37, Try.ntmps37
    go_wp2
    go_ret
    exact ⟨rfl, rfl⟩
  · have e1 : decide (0 ≤ x ∧ x ≤ 1000000000) = false := by simp [h1]
    rw [e1]
    clear e1
    go_enter Try.func37, Try.ntmps37
    go_wp2
    go_ret
    exact ⟨rfl, rfl⟩

theorem eq_as (d : Nat) (a b c e : Int) (w : World) : (Op.equalIn (d + 1 + 1) 62 (.agg #[.int .i64 a, .int .i64 b]) (.agg #[.int .i64 c, .int .i64 e])).run Try.prog w = .ok (a == c && b == e) w := by
  have h3 : Try.prog.underlying 3 = some (.int .i64) := Try.underlying3
  have z : ∀ w, (sizeOf 3).run Try.prog w = .ok 1 w := fun w => by kernel_rfl
  have hp : ∀ (w : World) (x y : Value), (Go.part 3 #[x, y] 0).run Try.prog w = .ok x w := fun w x y => by kernel_rfl
  have hq : ∀ (w : World) (x y : Value), (Go.part 3 #[x, y] 1).run Try.prog w = .ok y w := fun w x y => by kernel_rfl
  have hi : ∀ (w : World) (x y : Int), (Op.equalIn (d + 1) 3 (.int .i64 x) (.int .i64 y)).run Try.prog w = .ok (x == y) w := fun w x y => run_equalIn_int (P := Try.prog) w d 3 .i64 .i64 x y h3
  rw [Op.equalIn, Sem.run_bind, run_underlying Try.underlying62 w]
  simp only [Result.andThen_ok, Sem.run_bind, z]
  simp [Std.Legacy.Range.forIn_eq_forIn_range', Std.Legacy.Range.size, List.range', Sem.run_bind, hp, hq, hi]
  cases h : a == c <;> cases h' : b == e <;> simp_all

theorem eq_as1 (a b c e : Int) (w : World) : (Op.equalIn 10000 62 (.agg #[.int .i64 a, .int .i64 b]) (.agg #[.int .i64 c, .int .i64 e])).run Try.prog w = .ok (a == c && b == e) w := eq_as 9998 a b c e w

set_option maxRecDepth 20000 in
set_option maxHeartbeats 8000000 in
theorem addressOf (h p : Int) (h0 : 0 ≤ h ∧ h < 4294967296) (w : World) :
    Calls Try.prog 41 #[.agg #[.int .u32 h, .int .i64 p]] w fun e w' => e = .returned (.agg #[.int .i64 h, .int .i64 p]) ∧ Since w w' := by
  have G := Since.refl w
  have hw : IntKind.i64.wrap h = h := by rw [IntWalk.i64_left]; exact IntWalk.wrap64_in _ ⟨by omega, by omega⟩
  go_enter Try.func41, Try.ntmps41
  go_upto_region 0 with (fail)
  refine vR ?_
  refine vW (w.alloc (.cells #[.int .u32 h, .int .i64 p] 37)) (.pointer (some ⟨w.heap.size, 0, none⟩)) ?_
  have qB2 := Blk.new w #[.int .u32 h, .int .i64 p] 37
  have qg3 := (Since.refl w).alloc (.cells #[.int .u32 h, .int .i64 p] 37)
  replace G := G.trans qg3
  generalize w.alloc (.cells #[.int .u32 h, .int .i64 p] 37) = qw1 at  G qB2 qg3 ⊢
  have qB2_l := qB2.lt
  have qg3_s := qg3.size
  refine vW (qw1.alloc (.cells #[.int .i64 0, .int .i64 0] 62)) (.pointer (some ⟨qw1.heap.size, 0, none⟩)) ?_
  have qB5 := Blk.new qw1 #[.int .i64 0, .int .i64 0] 62
  have qg6 := (Since.refl qw1).alloc (.cells #[.int .i64 0, .int .i64 0] 62)
  replace qB2 := qB2.since qg6
  replace G := G.trans qg6
  generalize qw1.alloc (.cells #[.int .i64 0, .int .i64 0] 62) = qw4 at qB2 G qB5 qg6 ⊢
  have qB5_l := qB5.lt
  have qg6_s := qg6.size
  refine vE #[.agg #[.int .u32 h, .int .i64 p],.pointer (some ⟨w.heap.size, 0, none⟩),.pointer (some ⟨qw1.heap.size, 0, none⟩),U,U,U,U,U,U] ?_
  go_upto_region 1 with (fail)
  refine vR ?_
  refine vV (.pointer (some ⟨w.heap.size, 0, none⟩)) ?_
  refine vD (.int .u32 h) (qB2.cell 0) ?_
  refine vV (.int .i64 h) ?_ (hrun := by simp [execOp, go_sem, hw])
  refine vV (.pointer (some ⟨w.heap.size, 1, none⟩)) ?_
  refine vD (.int .i64 p) (qB2.cell 1) ?_
  refine vV (.agg #[.int .i64 h, .int .i64 p]) ?_
  refine sB #[.int .i64 h, .int .i64 p] as_big qB5 rfl rfl (by simp [Value.oneCell']) ?_
  intro qw7 qt8 qB9
  clear qB5
  replace qB2 := qB2.touch qt8 (by omega)
  replace G := since_touch G qt8 (by omega)
  have qt8_s := qt8.size
  refine vE #[.agg #[.int .u32 h, .int .i64 p],.pointer (some ⟨w.heap.size, 0, none⟩),.pointer (some ⟨qw1.heap.size, 0, none⟩),.pointer (some ⟨w.heap.size, 0, none⟩),.int .u32 h,.int .i64 h,.pointer (some ⟨w.heap.size, 1, none⟩),.int .i64 p,.agg #[.int .i64 h, .int .i64 p]] ?_
  go_wp2_with (fail)
  exact bodyPost_ret (v := .agg #[.int .i64 h, .int .i64 p]) (results_big (u := 2) as_big rfl rfl _ rfl qB9) rfl ⟨rfl, G⟩

set_option maxRecDepth 20000 in
set_option maxHeartbeats 8000000 in
theorem routeOf (hh hp th tp : Int) (b1 : 0 ≤ hh ∧ hh < 4294967296) (b2 : 0 ≤ th ∧ th < 4294967296) (w : World) :
    Calls Try.prog 21 #[.agg #[.int .u32 hh, .int .i64 hp], .agg #[.int .u32 th, .int .i64 tp]] w fun e w' => e = .returned (.agg #[.int .i64 hh, .int .i64 hp, .int .i64 th, .int .i64 tp]) ∧ Since w w' := by
  have G := Since.refl w
  go_enter Try.func21, Try.ntmps21
  go_upto_region 0 with (fail)
  refine vR ?_
  refine vW (w.alloc (.cells #[.int .u32 hh, .int .i64 hp] 37)) (.pointer (some ⟨w.heap.size, 0, none⟩)) ?_
  have qB2 := Blk.new w #[.int .u32 hh, .int .i64 hp] 37
  have qg3 := (Since.refl w).alloc (.cells #[.int .u32 hh, .int .i64 hp] 37)
  replace G := G.trans qg3
  generalize w.alloc (.cells #[.int .u32 hh, .int .i64 hp] 37) = qw1 at  G qB2 qg3 ⊢
  have qB2_l := qB2.lt
  have qg3_s := qg3.size
  refine vW (qw1.alloc (.cells #[.int .u32 th, .int .i64 tp] 37)) (.pointer (some ⟨qw1.heap.size, 0, none⟩)) ?_
  have qB5 := Blk.new qw1 #[.int .u32 th, .int .i64 tp] 37
  have qg6 := (Since.refl qw1).alloc (.cells #[.int .u32 th, .int .i64 tp] 37)
  replace qB2 := qB2.since qg6
  replace G := G.trans qg6
  generalize qw1.alloc (.cells #[.int .u32 th, .int .i64 tp] 37) = qw4 at qB2 G qB5 qg6 ⊢
  have qB5_l := qB5.lt
  have qg6_s := qg6.size
  refine vW (qw4.alloc (.cells #[.int .i64 0, .int .i64 0, .int .i64 0, .int .i64 0] 64)) (.pointer (some ⟨qw4.heap.size, 0, none⟩)) ?_
  have qB8 := Blk.new qw4 #[.int .i64 0, .int .i64 0, .int .i64 0, .int .i64 0] 64
  have qg9 := (Since.refl qw4).alloc (.cells #[.int .i64 0, .int .i64 0, .int .i64 0, .int .i64 0] 64)
  replace qB2 := qB2.since qg9
  replace qB5 := qB5.since qg9
  replace G := G.trans qg9
  generalize qw4.alloc (.cells #[.int .i64 0, .int .i64 0, .int .i64 0, .int .i64 0] 64) = qw7 at qB2 qB5 G qB8 qg9 ⊢
  have qB8_l := qB8.lt
  have qg9_s := qg9.size
  refine vE #[.agg #[.int .u32 hh, .int .i64 hp],.agg #[.int .u32 th, .int .i64 tp],.pointer (some ⟨w.heap.size, 0, none⟩),.pointer (some ⟨qw1.heap.size, 0, none⟩),.pointer (some ⟨qw4.heap.size, 0, none⟩),U,U,U,U,U] ?_
  go_upto_region 1 with (fail)
  have hN0 : 0 < qw7.heap.size := by have := qB2.lt; omega
  refine wp_region_low (Low (fun b => b < qw7.heap.size)) (fun i x v => match i with
      | 0 => v = .agg #[.int .u32 hh, .int .i64 hp]
      | 1 => v = .agg #[.int .i64 hh, .int .i64 hp]
      | 2 => v = .agg #[.int .u32 th, .int .i64 tp]
      | 3 => v = .agg #[.int .i64 th, .int .i64 tp]
      | 4 => v = .agg #[.int .i64 hh, .int .i64 hp, .int .i64 th, .int .i64 tp]
      | 5 => True
      | _ => True) (fun f vals x => Blk w.heap.size x #[.int .u32 hh, .int .i64 hp] ∧ Blk qw1.heap.size x #[.int .u32 th, .int .i64 tp] ∧ Blk qw4.heap.size x (if f 5 then #[.int .i64 hh, .int .i64 hp, .int .i64 th, .int .i64 tp] else #[.int .i64 0, .int .i64 0, .int .i64 0, .int .i64 0]) ∧ qw7.heap.size ≤ x.heap.size ∧ Since w x) (fun v => { tmps := #[.agg #[.int .u32 hh, .int .i64 hp], .agg #[.int .u32 th, .int .i64 tp], .pointer (some ⟨w.heap.size, 0, none⟩), .pointer (some ⟨qw1.heap.size, 0, none⟩), .pointer (some ⟨qw4.heap.size, 0, none⟩), v 0, v 1, v 2, v 3, v 4], defers := [] }) (by kernel_rfl) (by kernel_rfl) ?_ ?_ (fun vals => by kernel_rfl) ?_ ?_
  case refine_1 =>
    intro j x y v hl hv
    match j, hv with
    | 0, hv | 1, hv | 2, hv | 3, hv | 4, hv => exact hv
    | 5, hv => trivial
    | n + 6, _ => trivial
  case refine_2 =>
    intro f vals hf
    refine ⟨qB2.since ((Since.refl _).drew), qB5.since ((Since.refl _).drew), (by rw [hf 5]; exact qB8.since ((Since.refl _).drew)), ((Since.refl _).drew).size, G.trans ((Since.refl _).drew)⟩
  case refine_3 =>
    repeat (first | exact eachLow_nil | refine eachLow_cons ?_ ?_)
    all_goals intro f vals x hf hr hK
    all_goals obtain ⟨k0, k1, k2, k3, k4⟩ := hK
    · have ev : vals 4 = .agg #[.int .i64 hh, .int .i64 hp, .int .i64 th, .int .i64 tp] := (hr ⟨4, .data⟩ (by simp) rfl).2
      have kz : Blk qw4.heap.size x #[.int .i64 0, .int .i64 0, .int .i64 0, .int .i64 0] := by have := k2; rw [hf] at this; exact this
      refine does_store rt_big rfl (Raw.of kz rfl) (by simp [Value.oneCell']) _ _ rfl rfl ev ?_
      intro z t B
      exact ⟨Low.touch t (show qw4.heap.size < qw7.heap.size by omega), ⟨k0.touch t (by omega), k1.touch t (by omega), B, Nat.le_trans k3 t.size, since_touch k4 t (by omega)⟩, trivial⟩
    · skip
      have e1 : vals 1 = .agg #[.int .i64 hh, .int .i64 hp] := (hr ⟨1, .data⟩ (by simp) rfl).2
      have e3 : vals 3 = .agg #[.int .i64 th, .int .i64 tp] := (hr ⟨3, .data⟩ (by simp) rfl).2
      simp [does, doesUpon, go_sem, e1, e3]
      exact ⟨Low.since (b := 0) (Since.refl _) (hN0), ⟨k0, k1, k2, k3, k4⟩⟩
    · skip
      have e2 : vals 2 = .agg #[.int .u32 th, .int .i64 tp] := (hr ⟨2, .data⟩ (by simp) rfl).2
      simp [does, doesUpon, go_sem, e2]
      refine (addressOf th tp b2 _).mono ?_
      rintro _ x' ⟨rfl, h1⟩
      exact ⟨_, rfl, Low.since (b := 0) h1 (hN0), ⟨k0.since h1, k1.since h1, k2.since h1, Nat.le_trans k3 h1.size, k4.trans h1⟩, rfl⟩
    · exact does_load ad_big rfl k1 _ rfl rfl ⟨Low.since (b := 0) (Since.refl _) (hN0), ⟨k0, k1, k2, k3, k4⟩, rfl⟩
    · skip
      have e0 : vals 0 = .agg #[.int .u32 hh, .int .i64 hp] := (hr ⟨0, .data⟩ (by simp) rfl).2
      simp [does, doesUpon, go_sem, e0]
      refine (addressOf hh hp b1 _).mono ?_
      rintro _ x' ⟨rfl, h1⟩
      exact ⟨_, rfl, Low.since (b := 0) h1 (hN0), ⟨k0.since h1, k1.since h1, k2.since h1, Nat.le_trans k3 h1.size, k4.trans h1⟩, rfl⟩
    · exact does_load ad_big rfl k0 _ rfl rfl ⟨Low.since (b := 0) (Since.refl _) (hN0), ⟨k0, k1, k2, k3, k4⟩, rfl⟩
  intro f qv11 qw10 hK hf hv
  obtain ⟨k0, k1, k2, k3, k4⟩ := hK
  clear qB2 qB5 qB8 G
  have hv0 : qv11 0 = _ := hv 0 (by decide)
  have hv1 : qv11 1 = _ := hv 1 (by decide)
  have hv2 : qv11 2 = _ := hv 2 (by decide)
  have hv3 : qv11 3 = _ := hv 3 (by decide)
  have hv4 : qv11 4 = _ := hv 4 (by decide)
  clear hv
  simp only [hv0, hv1, hv2, hv3, hv4]
  clear hv0 hv1 hv2 hv3 hv4
  have qB2 := k0
  clear k0
  have qB5 := k1
  clear k1
  have qB8 : Blk qw4.heap.size qw10 #[.int .i64 hh, .int .i64 hp, .int .i64 th, .int .i64 tp] := by have := k2; rw [hf 5 (by decide)] at this; exact this
  clear k2
  have G := k4
  clear k4
  have qw10_l := qB8.lt
  have qw10_n := k3
  clear k3
  go_wp2_with (fail)
  exact bodyPost_ret (v := .agg #[.int .i64 hh, .int .i64 hp, .int .i64 th, .int .i64 tp]) (results_big (u := 4) rt_big rfl rfl _ rfl qB8) rfl ⟨rfl, G⟩

set_option maxRecDepth 20000 in
set_option maxHeartbeats 8000000 in
theorem isGone (l : Ln) (w : World) :
    Calls Try.prog 38 #[.agg (lnCells l)] w fun e w' => e = .returned (.bool (decide (l.c.st = 0))) ∧ Since w w' := by
  have G := Since.refl w
  go_enter Try.func38, Try.ntmps38
  by_cases h : l.c.st = 0
  · skip
    go_upto_region 0 with (fail)
    refine vR ?_
    refine vW (w.alloc (.cells (lnCells l) 55)) (.pointer (some ⟨w.heap.size, 0, none⟩)) ?_
    have qB2 := Blk.new w (lnCells l) 55
    have qg3 := (Since.refl w).alloc (.cells (lnCells l) 55)
    replace G := G.trans qg3
    generalize w.alloc (.cells (lnCells l) 55) = qw1 at  G qB2 qg3 ⊢
    have qB2_l := qB2.lt
    have qg3_s := qg3.size
    refine vV (.bool false) ?_
    refine vE #[.agg (lnCells l),.pointer (some ⟨w.heap.size, 0, none⟩),.bool false,U,U,U,U] ?_
    go_upto_region 1 with (fail)
    refine vR ?_
    refine vV (.pointer (some ⟨w.heap.size, 4, none⟩)) ?_
    refine vV (.pointer (some ⟨w.heap.size, 4, none⟩)) ?_
    refine vD (.int .i64 l.c.st) (qB2.cell 4) ?_
    refine vV (.bool true) ?_ (hrun := by simp [execOp, go_sem, h])
    refine vV (.bool true) ?_
    refine vE #[.agg (lnCells l),.pointer (some ⟨w.heap.size, 0, none⟩),.bool true,.pointer (some ⟨w.heap.size, 4, none⟩),.pointer (some ⟨w.heap.size, 4, none⟩),.int .i64 l.c.st,.bool true] ?_
    go_wp2_with (fail)
    go_ret
    exact ⟨by simp [h], G⟩
  · skip
    go_upto_region 0 with (fail)
    refine vR ?_
    refine vW (w.alloc (.cells (lnCells l) 55)) (.pointer (some ⟨w.heap.size, 0, none⟩)) ?_
    have qB2 := Blk.new w (lnCells l) 55
    have qg3 := (Since.refl w).alloc (.cells (lnCells l) 55)
    replace G := G.trans qg3
    generalize w.alloc (.cells (lnCells l) 55) = qw1 at  G qB2 qg3 ⊢
    have qB2_l := qB2.lt
    have qg3_s := qg3.size
    refine vV (.bool false) ?_
    refine vE #[.agg (lnCells l),.pointer (some ⟨w.heap.size, 0, none⟩),.bool false,U,U,U,U] ?_
    go_upto_region 1 with (fail)
    refine vR ?_
    refine vV (.pointer (some ⟨w.heap.size, 4, none⟩)) ?_
    refine vV (.pointer (some ⟨w.heap.size, 4, none⟩)) ?_
    refine vD (.int .i64 l.c.st) (qB2.cell 4) ?_
    refine vV (.bool false) ?_ (hrun := by simp [execOp, go_sem, h])
    refine vV (.bool false) ?_
    refine vE #[.agg (lnCells l),.pointer (some ⟨w.heap.size, 0, none⟩),.bool false,.pointer (some ⟨w.heap.size, 4, none⟩),.pointer (some ⟨w.heap.size, 4, none⟩),.int .i64 l.c.st,.bool false] ?_
    go_wp2_with (fail)
    go_ret
    exact ⟨by simp [h], G⟩

theorem isGoneB (l : Ln) (q : Bool) (h : decide (l.c.st = 0) = q) (w : World) : Calls Try.prog 38 #[.agg (lnCells l)] w fun e w' => e = .returned (.bool q) ∧ Since w w' := by
  rw [← h]
  exact isGone l w

set_option maxRecDepth 20000 in
set_option maxHeartbeats 8000000 in
theorem lineIsOk (l : Ln) (ps : List (Int × ByteArray)) (q : Bool) (hq : q = true ↔ LineOk l ps) (gc : GoodC l.c ps) (w : World) (R : Rd shP w l.c.pa l.c.pn ps) :
    Calls Try.prog 19 #[.agg (lnCells l)] w fun e w' => e = .returned (.bool q) ∧ Since w w' := by
  have G := Since.refl w
  have hC := fun wx Rx => implConnOk l.c ps gc wx Rx
  unfold cnVal at hC
  go_enter Try.func19, Try.ntmps19
  go_upto_region 0 with (fail)
  refine vR ?_
  refine vW (w.alloc (.cells (lnCells l) 55)) (.pointer (some ⟨w.heap.size, 0, none⟩)) ?_
  have qB2 := Blk.new w (lnCells l) 55
  have qg3 := (Since.refl w).alloc (.cells (lnCells l) 55)
  replace G := G.trans qg3
  generalize w.alloc (.cells (lnCells l) 55) = qw1 at  G qB2 qg3 ⊢
  have qB2_l := qB2.lt
  have qg3_s := qg3.size
  refine vV (.bool false) ?_
  refine vE #[.agg (lnCells l),.pointer (some ⟨w.heap.size, 0, none⟩),.bool false,U,U,U,U,U,U,U,U,U,U,U,U,U,U,U,U,U,U,U,U] ?_
  go_upto_region 1 with (fail)
  by_cases d0 : 1 ≤ l.hP ∧ l.hP ≤ 65535
  case neg =>
    have hqf : q = false := by
      cases q
      · rfl
      · exact absurd (hq.1 rfl).2.2.1 d0
    subst hqf
    clear hq
    refine vR ?_
    refine vV (.pointer (some ⟨w.heap.size, 0, none⟩)) ?_
    refine vV (.pointer (some ⟨w.heap.size, 1, none⟩)) ?_
    refine vD (.int .i64 l.hP) (qB2.cell 1) ?_
    refine vC (isPortB l.hP false (decide_eq_false d0) _) ?_
    rintro _ _ ⟨rfl, rfl⟩
    refine ⟨_, rfl, ?_⟩
    refine vV (.bool false) ?_
    refine vS ?_
    refine vS ?_
    refine vS ?_
    refine vS ?_
    refine vV (.bool false) ?_
    refine vV (.bool false) ?_
    refine vS ?_
    refine vS ?_
    refine vS ?_
    refine vV (.bool false) ?_
    refine vV (.bool false) ?_
    refine vS ?_
    refine vS ?_
    refine vS ?_
    refine vV (.bool false) ?_
    refine vV (.bool false) ?_
    refine vE #[.agg (lnCells l),.pointer (some ⟨w.heap.size, 0, none⟩),.bool false,.pointer (some ⟨w.heap.size, 0, none⟩),.pointer (some ⟨w.heap.size, 1, none⟩),.int .i64 l.hP,.bool false,.bool false,U,U,U,U,.bool false,.bool false,U,U,U,.bool false,.bool false,U,U,U,.bool false] ?_
    go_wp2_with (fail)
    go_ret
    exact ⟨rfl, G⟩
  by_cases d1 : 1 ≤ l.tP ∧ l.tP ≤ 65535
  case neg =>
    have hqf : q = false := by
      cases q
      · rfl
      · exact absurd (hq.1 rfl).2.2.2 d1
    subst hqf
    clear hq
    refine vR ?_
    refine vV (.pointer (some ⟨w.heap.size, 0, none⟩)) ?_
    refine vV (.pointer (some ⟨w.heap.size, 1, none⟩)) ?_
    refine vD (.int .i64 l.hP) (qB2.cell 1) ?_
    refine vC (isPortB l.hP true (decide_eq_true d0) _) ?_
    rintro _ _ ⟨rfl, rfl⟩
    refine ⟨_, rfl, ?_⟩
    refine vV (.bool true) ?_
    refine vV (.pointer (some ⟨w.heap.size, 2, none⟩)) ?_
    refine vV (.pointer (some ⟨w.heap.size, 3, none⟩)) ?_
    refine vD (.int .i64 l.tP) (qB2.cell 3) ?_
    refine vC (isPortB l.tP false (decide_eq_false d1) _) ?_
    rintro _ _ ⟨rfl, rfl⟩
    refine ⟨_, rfl, ?_⟩
    refine vV (.bool false) ?_
    refine vV (.bool false) ?_
    refine vS ?_
    refine vS ?_
    refine vS ?_
    refine vV (.bool false) ?_
    refine vV (.bool false) ?_
    refine vS ?_
    refine vS ?_
    refine vS ?_
    refine vV (.bool false) ?_
    refine vV (.bool false) ?_
    refine vE #[.agg (lnCells l),.pointer (some ⟨w.heap.size, 0, none⟩),.bool false,.pointer (some ⟨w.heap.size, 0, none⟩),.pointer (some ⟨w.heap.size, 1, none⟩),.int .i64 l.hP,.bool true,.bool true,.pointer (some ⟨w.heap.size, 2, none⟩),.pointer (some ⟨w.heap.size, 3, none⟩),.int .i64 l.tP,.bool false,.bool false,.bool false,U,U,U,.bool false,.bool false,U,U,U,.bool false] ?_
    go_wp2_with (fail)
    go_ret
    exact ⟨rfl, G⟩
  by_cases d2 : l.c.st ≠ 0
  case neg =>
    have hqf : q = false := by
      cases q
      · rfl
      · exact absurd (hq.1 rfl).2.1 d2
    subst hqf
    clear hq
    replace d2 : l.c.st = 0 := by omega
    refine vR ?_
    refine vV (.pointer (some ⟨w.heap.size, 0, none⟩)) ?_
    refine vV (.pointer (some ⟨w.heap.size, 1, none⟩)) ?_
    refine vD (.int .i64 l.hP) (qB2.cell 1) ?_
    refine vC (isPortB l.hP true (decide_eq_true d0) _) ?_
    rintro _ _ ⟨rfl, rfl⟩
    refine ⟨_, rfl, ?_⟩
    refine vV (.bool true) ?_
    refine vV (.pointer (some ⟨w.heap.size, 2, none⟩)) ?_
    refine vV (.pointer (some ⟨w.heap.size, 3, none⟩)) ?_
    refine vD (.int .i64 l.tP) (qB2.cell 3) ?_
    refine vC (isPortB l.tP true (decide_eq_true d1) _) ?_
    rintro _ _ ⟨rfl, rfl⟩
    refine ⟨_, rfl, ?_⟩
    refine vV (.bool true) ?_
    refine vV (.bool true) ?_
    refine vB ln_big qB2 (ln_size _) ?_
    refine vK (isGoneB l true (decide_eq_true (d2)) _) ?_
    intro qw4 qg5
    replace qB2 := qB2.since qg5
    replace G := G.trans qg5
    have qg5_s := qg5.size
    refine vV (.bool false) ?_
    refine vV (.bool false) ?_
    refine vV (.bool false) ?_
    refine vS ?_
    refine vS ?_
    refine vS ?_
    refine vV (.bool false) ?_
    refine vV (.bool false) ?_
    refine vE #[.agg (lnCells l),.pointer (some ⟨w.heap.size, 0, none⟩),.bool false,.pointer (some ⟨w.heap.size, 0, none⟩),.pointer (some ⟨w.heap.size, 1, none⟩),.int .i64 l.hP,.bool true,.bool true,.pointer (some ⟨w.heap.size, 2, none⟩),.pointer (some ⟨w.heap.size, 3, none⟩),.int .i64 l.tP,.bool true,.bool true,.bool true,.agg (lnCells l),.bool true,.bool false,.bool false,.bool false,U,U,U,.bool false] ?_
    go_wp2_with (fail)
    go_ret
    exact ⟨rfl, G⟩
  by_cases d3 : connOk l.c ps = true
  case neg =>
    have hqf : q = false := by
      cases q
      · rfl
      · exact absurd (hq.1 rfl).1 d3
    subst hqf
    clear hq
    replace d3 : connOk l.c ps = false := by simpa using d3
    rw [d3] at hC
    refine vR ?_
    refine vV (.pointer (some ⟨w.heap.size, 0, none⟩)) ?_
    refine vV (.pointer (some ⟨w.heap.size, 1, none⟩)) ?_
    refine vD (.int .i64 l.hP) (qB2.cell 1) ?_
    refine vC (isPortB l.hP true (decide_eq_true d0) _) ?_
    rintro _ _ ⟨rfl, rfl⟩
    refine ⟨_, rfl, ?_⟩
    refine vV (.bool true) ?_
    refine vV (.pointer (some ⟨w.heap.size, 2, none⟩)) ?_
    refine vV (.pointer (some ⟨w.heap.size, 3, none⟩)) ?_
    refine vD (.int .i64 l.tP) (qB2.cell 3) ?_
    refine vC (isPortB l.tP true (decide_eq_true d1) _) ?_
    rintro _ _ ⟨rfl, rfl⟩
    refine ⟨_, rfl, ?_⟩
    refine vV (.bool true) ?_
    refine vV (.bool true) ?_
    refine vB ln_big qB2 (ln_size _) ?_
    refine vK (isGoneB l false (decide_eq_false (d2)) _) ?_
    intro qw4 qg5
    replace qB2 := qB2.since qg5
    replace G := G.trans qg5
    have qg5_s := qg5.size
    refine vV (.bool true) ?_
    refine vV (.bool true) ?_
    refine vV (.bool true) ?_
    refine vV (.pointer (some ⟨w.heap.size, 4, none⟩)) ?_
    refine vLc cn_big qB2 ?_
    refine vK (hC _ (R.since G)) ?_
    intro qw6 qg7
    replace qB2 := qB2.since qg7
    replace G := G.trans qg7
    have qg7_s := qg7.size
    refine vV (.bool false) ?_
    refine vV (.bool false) ?_
    refine vE #[.agg (lnCells l),.pointer (some ⟨w.heap.size, 0, none⟩),.bool false,.pointer (some ⟨w.heap.size, 0, none⟩),.pointer (some ⟨w.heap.size, 1, none⟩),.int .i64 l.hP,.bool true,.bool true,.pointer (some ⟨w.heap.size, 2, none⟩),.pointer (some ⟨w.heap.size, 3, none⟩),.int .i64 l.tP,.bool true,.bool true,.bool true,.agg (lnCells l),.bool false,.bool true,.bool true,.bool true,.pointer (some ⟨w.heap.size, 4, none⟩),.agg (cnCells l.c),.bool false,.bool false] ?_
    go_wp2_with (fail)
    go_ret
    exact ⟨rfl, G⟩
  have hqt : q = true := hq.2 ⟨d3, d2, d0, d1⟩
  subst hqt
  clear hq
  rw [d3] at hC
  refine vR ?_
  refine vV (.pointer (some ⟨w.heap.size, 0, none⟩)) ?_
  refine vV (.pointer (some ⟨w.heap.size, 1, none⟩)) ?_
  refine vD (.int .i64 l.hP) (qB2.cell 1) ?_
  refine vC (isPortB l.hP true (decide_eq_true d0) _) ?_
  rintro _ _ ⟨rfl, rfl⟩
  refine ⟨_, rfl, ?_⟩
  refine vV (.bool true) ?_
  refine vV (.pointer (some ⟨w.heap.size, 2, none⟩)) ?_
  refine vV (.pointer (some ⟨w.heap.size, 3, none⟩)) ?_
  refine vD (.int .i64 l.tP) (qB2.cell 3) ?_
  refine vC (isPortB l.tP true (decide_eq_true d1) _) ?_
  rintro _ _ ⟨rfl, rfl⟩
  refine ⟨_, rfl, ?_⟩
  refine vV (.bool true) ?_
  refine vV (.bool true) ?_
  refine vB ln_big qB2 (ln_size _) ?_
  refine vK (isGoneB l false (decide_eq_false (d2)) _) ?_
  intro qw4 qg5
  replace qB2 := qB2.since qg5
  replace G := G.trans qg5
  have qg5_s := qg5.size
  refine vV (.bool true) ?_
  refine vV (.bool true) ?_
  refine vV (.bool true) ?_
  refine vV (.pointer (some ⟨w.heap.size, 4, none⟩)) ?_
  refine vLc cn_big qB2 ?_
  refine vK (hC _ (R.since G)) ?_
  intro qw6 qg7
  replace qB2 := qB2.since qg7
  replace G := G.trans qg7
  have qg7_s := qg7.size
  refine vV (.bool true) ?_
  refine vV (.bool true) ?_
  refine vE #[.agg (lnCells l),.pointer (some ⟨w.heap.size, 0, none⟩),.bool true,.pointer (some ⟨w.heap.size, 0, none⟩),.pointer (some ⟨w.heap.size, 1, none⟩),.int .i64 l.hP,.bool true,.bool true,.pointer (some ⟨w.heap.size, 2, none⟩),.pointer (some ⟨w.heap.size, 3, none⟩),.int .i64 l.tP,.bool true,.bool true,.bool true,.agg (lnCells l),.bool false,.bool true,.bool true,.bool true,.pointer (some ⟨w.heap.size, 4, none⟩),.agg (cnCells l.c),.bool true,.bool true] ?_
  go_wp2_with (fail)
  go_ret
  exact ⟨rfl, G⟩

set_option maxRecDepth 20000 in
set_option maxHeartbeats 8000000 in
theorem numsOk (t : Tb) (q : Bool) (hq : q = true ↔ ((1 ≤ t.po ∧ t.po ≤ 65535) ∧ (1 ≤ t.rm ∧ t.rm ≤ 4096) ∧ (0 ≤ t.ep ∧ t.ep ≤ 1000000000) ∧ (0 ≤ t.nw ∧ t.nw ≤ 1000000000))) (w : World) :
    Calls Try.prog 18 #[.agg (tbCells t)] w fun e w' => e = .returned (.bool q) ∧ Since w w' := by
  have G := Since.refl w
  go_enter Try.func18, Try.ntmps18
  go_upto_region 0 with (fail)
  refine vR ?_
  refine vW (w.alloc (.cells (tbCells t) 30)) (.pointer (some ⟨w.heap.size, 0, none⟩)) ?_
  have qB2 := Blk.new w (tbCells t) 30
  have qg3 := (Since.refl w).alloc (.cells (tbCells t) 30)
  replace G := G.trans qg3
  generalize w.alloc (.cells (tbCells t) 30) = qw1 at  G qB2 qg3 ⊢
  have qB2_l := qB2.lt
  have qg3_s := qg3.size
  refine vV (.bool false) ?_
  refine vE #[.agg (tbCells t),.pointer (some ⟨w.heap.size, 0, none⟩),.bool false,U,U,U,U,U,U,U,U,U,U,U,U,U,U,U,U,U,U] ?_
  go_upto_region 1 with (fail)
  by_cases c0 : 1 ≤ t.po ∧ t.po ≤ 65535
  case neg =>
    have hqf : q = false := by
      cases q
      · rfl
      · exact absurd (hq.1 rfl).1 c0
    subst hqf
    clear hq
    refine vR ?_
    refine vV (.pointer (some ⟨w.heap.size, 0, none⟩)) ?_
    refine vD (.int .i64 t.po) (qB2.cell 0) ?_
    refine vC (isPortB t.po false (decide_eq_false c0) _) ?_
    rintro _ _ ⟨rfl, rfl⟩
    refine ⟨_, rfl, ?_⟩
    refine vV (.bool false) ?_
    refine vS ?_
    refine vS ?_
    refine vS ?_
    refine vV (.bool false) ?_
    refine vV (.bool false) ?_
    refine vS ?_
    refine vS ?_
    refine vS ?_
    refine vV (.bool false) ?_
    refine vV (.bool false) ?_
    refine vS ?_
    refine vS ?_
    refine vS ?_
    refine vV (.bool false) ?_
    refine vV (.bool false) ?_
    refine vE #[.agg (tbCells t),.pointer (some ⟨w.heap.size, 0, none⟩),.bool false,.pointer (some ⟨w.heap.size, 0, none⟩),.int .i64 t.po,.bool false,.bool false,U,U,U,.bool false,.bool false,U,U,U,.bool false,.bool false,U,U,U,.bool false] ?_
    go_wp2_with (fail)
    go_ret
    exact ⟨rfl, G⟩
  by_cases c1 : 1 ≤ t.rm ∧ t.rm ≤ 4096
  case neg =>
    have hqf : q = false := by
      cases q
      · rfl
      · exact absurd (hq.1 rfl).2.1 c1
    subst hqf
    clear hq
    refine vR ?_
    refine vV (.pointer (some ⟨w.heap.size, 0, none⟩)) ?_
    refine vD (.int .i64 t.po) (qB2.cell 0) ?_
    refine vC (isPortB t.po true (decide_eq_true c0) _) ?_
    rintro _ _ ⟨rfl, rfl⟩
    refine ⟨_, rfl, ?_⟩
    refine vV (.bool true) ?_
    refine vV (.pointer (some ⟨w.heap.size, 1, none⟩)) ?_
    refine vD (.int .i64 t.rm) (qB2.cell 1) ?_
    refine vC (isRoomB t.rm false (decide_eq_false c1) _) ?_
    rintro _ _ ⟨rfl, rfl⟩
    refine ⟨_, rfl, ?_⟩
    refine vV (.bool false) ?_
    refine vV (.bool false) ?_
    refine vS ?_
    refine vS ?_
    refine vS ?_
    refine vV (.bool false) ?_
    refine vV (.bool false) ?_
    refine vS ?_
    refine vS ?_
    refine vS ?_
    refine vV (.bool false) ?_
    refine vV (.bool false) ?_
    refine vE #[.agg (tbCells t),.pointer (some ⟨w.heap.size, 0, none⟩),.bool false,.pointer (some ⟨w.heap.size, 0, none⟩),.int .i64 t.po,.bool true,.bool true,.pointer (some ⟨w.heap.size, 1, none⟩),.int .i64 t.rm,.bool false,.bool false,.bool false,U,U,U,.bool false,.bool false,U,U,U,.bool false] ?_
    go_wp2_with (fail)
    go_ret
    exact ⟨rfl, G⟩
  by_cases c2 : 0 ≤ t.ep ∧ t.ep ≤ 1000000000
  case neg =>
    have hqf : q = false := by
      cases q
      · rfl
      · exact absurd (hq.1 rfl).2.2.1 c2
    subst hqf
    clear hq
    refine vR ?_
    refine vV (.pointer (some ⟨w.heap.size, 0, none⟩)) ?_
    refine vD (.int .i64 t.po) (qB2.cell 0) ?_
    refine vC (isPortB t.po true (decide_eq_true c0) _) ?_
    rintro _ _ ⟨rfl, rfl⟩
    refine ⟨_, rfl, ?_⟩
    refine vV (.bool true) ?_
    refine vV (.pointer (some ⟨w.heap.size, 1, none⟩)) ?_
    refine vD (.int .i64 t.rm) (qB2.cell 1) ?_
    refine vC (isRoomB t.rm true (decide_eq_true c1) _) ?_
    rintro _ _ ⟨rfl, rfl⟩
    refine ⟨_, rfl, ?_⟩
    refine vV (.bool true) ?_
    refine vV (.bool true) ?_
    refine vV (.pointer (some ⟨w.heap.size, 3, none⟩)) ?_
    refine vD (.int .i64 t.ep) (qB2.cell 3) ?_
    refine vC (isTickB t.ep false (decide_eq_false c2) _) ?_
    rintro _ _ ⟨rfl, rfl⟩
    refine ⟨_, rfl, ?_⟩
    refine vV (.bool false) ?_
    refine vV (.bool false) ?_
    refine vS ?_
    refine vS ?_
    refine vS ?_
    refine vV (.bool false) ?_
    refine vV (.bool false) ?_
    refine vE #[.agg (tbCells t),.pointer (some ⟨w.heap.size, 0, none⟩),.bool false,.pointer (some ⟨w.heap.size, 0, none⟩),.int .i64 t.po,.bool true,.bool true,.pointer (some ⟨w.heap.size, 1, none⟩),.int .i64 t.rm,.bool true,.bool true,.bool true,.pointer (some ⟨w.heap.size, 3, none⟩),.int .i64 t.ep,.bool false,.bool false,.bool false,U,U,U,.bool false] ?_
    go_wp2_with (fail)
    go_ret
    exact ⟨rfl, G⟩
  by_cases c3 : 0 ≤ t.nw ∧ t.nw ≤ 1000000000
  case neg =>
    have hqf : q = false := by
      cases q
      · rfl
      · exact absurd (hq.1 rfl).2.2.2 c3
    subst hqf
    clear hq
    refine vR ?_
    refine vV (.pointer (some ⟨w.heap.size, 0, none⟩)) ?_
    refine vD (.int .i64 t.po) (qB2.cell 0) ?_
    refine vC (isPortB t.po true (decide_eq_true c0) _) ?_
    rintro _ _ ⟨rfl, rfl⟩
    refine ⟨_, rfl, ?_⟩
    refine vV (.bool true) ?_
    refine vV (.pointer (some ⟨w.heap.size, 1, none⟩)) ?_
    refine vD (.int .i64 t.rm) (qB2.cell 1) ?_
    refine vC (isRoomB t.rm true (decide_eq_true c1) _) ?_
    rintro _ _ ⟨rfl, rfl⟩
    refine ⟨_, rfl, ?_⟩
    refine vV (.bool true) ?_
    refine vV (.bool true) ?_
    refine vV (.pointer (some ⟨w.heap.size, 3, none⟩)) ?_
    refine vD (.int .i64 t.ep) (qB2.cell 3) ?_
    refine vC (isTickB t.ep true (decide_eq_true c2) _) ?_
    rintro _ _ ⟨rfl, rfl⟩
    refine ⟨_, rfl, ?_⟩
    refine vV (.bool true) ?_
    refine vV (.bool true) ?_
    refine vV (.pointer (some ⟨w.heap.size, 4, none⟩)) ?_
    refine vD (.int .i64 t.nw) (qB2.cell 4) ?_
    refine vC (isTickB t.nw false (decide_eq_false c3) _) ?_
    rintro _ _ ⟨rfl, rfl⟩
    refine ⟨_, rfl, ?_⟩
    refine vV (.bool false) ?_
    refine vV (.bool false) ?_
    refine vE #[.agg (tbCells t),.pointer (some ⟨w.heap.size, 0, none⟩),.bool false,.pointer (some ⟨w.heap.size, 0, none⟩),.int .i64 t.po,.bool true,.bool true,.pointer (some ⟨w.heap.size, 1, none⟩),.int .i64 t.rm,.bool true,.bool true,.bool true,.pointer (some ⟨w.heap.size, 3, none⟩),.int .i64 t.ep,.bool true,.bool true,.bool true,.pointer (some ⟨w.heap.size, 4, none⟩),.int .i64 t.nw,.bool false,.bool false] ?_
    go_wp2_with (fail)
    go_ret
    exact ⟨rfl, G⟩
  have hqt : q = true := hq.2 ⟨c0, c1, c2, c3⟩
  subst hqt
  clear hq
  refine vR ?_
  refine vV (.pointer (some ⟨w.heap.size, 0, none⟩)) ?_
  refine vD (.int .i64 t.po) (qB2.cell 0) ?_
  refine vC (isPortB t.po true (decide_eq_true c0) _) ?_
  rintro _ _ ⟨rfl, rfl⟩
  refine ⟨_, rfl, ?_⟩
  refine vV (.bool true) ?_
  refine vV (.pointer (some ⟨w.heap.size, 1, none⟩)) ?_
  refine vD (.int .i64 t.rm) (qB2.cell 1) ?_
  refine vC (isRoomB t.rm true (decide_eq_true c1) _) ?_
  rintro _ _ ⟨rfl, rfl⟩
  refine ⟨_, rfl, ?_⟩
  refine vV (.bool true) ?_
  refine vV (.bool true) ?_
  refine vV (.pointer (some ⟨w.heap.size, 3, none⟩)) ?_
  refine vD (.int .i64 t.ep) (qB2.cell 3) ?_
  refine vC (isTickB t.ep true (decide_eq_true c2) _) ?_
  rintro _ _ ⟨rfl, rfl⟩
  refine ⟨_, rfl, ?_⟩
  refine vV (.bool true) ?_
  refine vV (.bool true) ?_
  refine vV (.pointer (some ⟨w.heap.size, 4, none⟩)) ?_
  refine vD (.int .i64 t.nw) (qB2.cell 4) ?_
  refine vC (isTickB t.nw true (decide_eq_true c3) _) ?_
  rintro _ _ ⟨rfl, rfl⟩
  refine ⟨_, rfl, ?_⟩
  refine vV (.bool true) ?_
  refine vV (.bool true) ?_
  refine vE #[.agg (tbCells t),.pointer (some ⟨w.heap.size, 0, none⟩),.bool true,.pointer (some ⟨w.heap.size, 0, none⟩),.int .i64 t.po,.bool true,.bool true,.pointer (some ⟨w.heap.size, 1, none⟩),.int .i64 t.rm,.bool true,.bool true,.bool true,.pointer (some ⟨w.heap.size, 3, none⟩),.int .i64 t.ep,.bool true,.bool true,.bool true,.pointer (some ⟨w.heap.size, 4, none⟩),.int .i64 t.nw,.bool true,.bool true] ?_
  go_wp2_with (fail)
  go_ret
  exact ⟨rfl, G⟩

set_option maxRecDepth 20000 in
set_option maxHeartbeats 8000000 in
theorem isThat (m l : Ln) (q : Bool) (hq : q = true ↔ SameAd l m) (b1 : 0 ≤ l.hH ∧ l.hH < 4294967296) (b2 : 0 ≤ l.tH ∧ l.tH < 4294967296) (w : World) :
    Calls Try.prog 22 #[.agg #[.int .i64 m.hH, .int .i64 m.hP, .int .i64 m.tH, .int .i64 m.tP], .agg (lnCells l)] w fun e w' => e = .returned (.bool q) ∧ Since w w' := by
  have G := Since.refl w
  go_enter Try.func22, Try.ntmps22
  go_upto_region 0 with (fail)
  refine vR ?_
  refine vW (w.alloc (.cells #[.int .i64 m.hH, .int .i64 m.hP, .int .i64 m.tH, .int .i64 m.tP] 64)) (.pointer (some ⟨w.heap.size, 0, none⟩)) ?_
  have qB2 := Blk.new w #[.int .i64 m.hH, .int .i64 m.hP, .int .i64 m.tH, .int .i64 m.tP] 64
  have qg3 := (Since.refl w).alloc (.cells #[.int .i64 m.hH, .int .i64 m.hP, .int .i64 m.tH, .int .i64 m.tP] 64)
  replace G := G.trans qg3
  generalize w.alloc (.cells #[.int .i64 m.hH, .int .i64 m.hP, .int .i64 m.tH, .int .i64 m.tP] 64) = qw1 at  G qB2 qg3 ⊢
  have qB2_l := qB2.lt
  have qg3_s := qg3.size
  refine vW (qw1.alloc (.cells (lnCells l) 55)) (.pointer (some ⟨qw1.heap.size, 0, none⟩)) ?_
  have qB5 := Blk.new qw1 (lnCells l) 55
  have qg6 := (Since.refl qw1).alloc (.cells (lnCells l) 55)
  replace qB2 := qB2.since qg6
  replace G := G.trans qg6
  generalize qw1.alloc (.cells (lnCells l) 55) = qw4 at qB2 G qB5 qg6 ⊢
  have qB5_l := qB5.lt
  have qg6_s := qg6.size
  refine vV (.bool false) ?_
  refine vE #[.agg #[.int .i64 m.hH, .int .i64 m.hP, .int .i64 m.tH, .int .i64 m.tP],.agg (lnCells l),.pointer (some ⟨w.heap.size, 0, none⟩),.pointer (some ⟨qw1.heap.size, 0, none⟩),.bool false,U,U,U,U,U,U,U,U,U,U,U,U,U,U] ?_
  go_upto_region 1 with (fail)
  by_cases e1 : l.hH = m.hH ∧ l.hP = m.hP
  case neg =>
    have e1' : m.hH = l.hH → ¬ m.hP = l.hP := fun a b => e1 ⟨a.symm, b.symm⟩
    have hqf : q = false := by
      cases q
      · rfl
      · exact absurd (hq.1 rfl).1 e1
    subst hqf
    clear hq
    refine wp_region_qs (wb := qw4) (by kernel_rfl) (by kernel_rfl) (Since.refl _) ?_
    refine q_val (by kernel_rfl) (.pointer (some ⟨w.heap.size, 0, none⟩)) (fun x hx => by kernel_rfl) ?_
    refine q_part qB2 (by kernel_rfl) as_big _ rfl 0 (by kernel_rfl) [.int .i64 m.hH, .int .i64 m.hP] rfl (fun j v hj => by match j, hj with | 0, h => exact h | 1, h => exact h | n + 2, h => exact absurd h (by simp)) ?_
    refine q_val (by kernel_rfl) (.pointer (some ⟨qw1.heap.size, 0, none⟩)) (fun x hx => by kernel_rfl) ?_
    refine q_part qB5 (by kernel_rfl) ad_big _ rfl 0 (by kernel_rfl) [.int .u32 l.hH, .int .i64 l.hP] rfl (fun j v hj => by match j, hj with | 0, h => exact h | 1, h => exact h | n + 2, h => exact absurd h (by simp)) ?_
    refine q_call (by kernel_rfl) 41 #[.agg #[.int .u32 l.hH, .int .i64 l.hP]] (.agg #[.int .i64 l.hH, .int .i64 l.hP]) (fun x => by kernel_rfl) (fun x hx => addressOf l.hH l.hP b1 x) ?_
    refine q_val (by kernel_rfl) (.bool false) (fun x hx => by simp [execOp, go_sem, eq_as1]; exact e1') ?_
    refine q_val (by kernel_rfl) (.bool false) (fun x hx => by kernel_rfl) ?_
    refine q_skip (by kernel_rfl) ?_
    refine q_skip (by kernel_rfl) ?_
    refine q_skip (by kernel_rfl) ?_
    refine q_skip (by kernel_rfl) ?_
    refine q_skip (by kernel_rfl) ?_
    refine q_skip (by kernel_rfl) ?_
    refine q_val (by kernel_rfl) (.bool false) (fun x hx => by kernel_rfl) ?_
    refine q_val (by kernel_rfl) (.bool false) (fun x hx => by kernel_rfl) ?_
    refine q_frame (a' := { tmps := #[.agg #[.int .i64 m.hH, .int .i64 m.hP, .int .i64 m.tH, .int .i64 m.tP],.agg (lnCells l),.pointer (some ⟨w.heap.size, 0, none⟩),.pointer (some ⟨qw1.heap.size, 0, none⟩),.bool false,.pointer (some ⟨w.heap.size, 0, none⟩),.agg #[.int .i64 m.hH, .int .i64 m.hP],.pointer (some ⟨qw1.heap.size, 0, none⟩),.agg #[.int .u32 l.hH, .int .i64 l.hP],.agg #[.int .i64 l.hH, .int .i64 l.hP],.bool false,.bool false,U,U,U,U,U,U,.bool false], defers := [] }) (by kernel_rfl) ?_
    refine q_nil ?_
    intro qw7 qh8
    replace qB2 := qB2.since qh8
    replace qB5 := qB5.since qh8
    replace G := G.trans qh8
    have qh8_s := qh8.size
    go_wp2_with (fail)
    go_ret
    exact ⟨rfl, G⟩
  by_cases e2 : l.tH = m.tH ∧ l.tP = m.tP
  case neg =>
    have e2' : m.tH = l.tH → ¬ m.tP = l.tP := fun a b => e2 ⟨a.symm, b.symm⟩
    have hqf : q = false := by
      cases q
      · rfl
      · exact absurd (hq.1 rfl).2 e2
    obtain ⟨h1, h2⟩ := e1
    subst hqf
    clear hq
    refine wp_region_qs (wb := qw4) (by kernel_rfl) (by kernel_rfl) (Since.refl _) ?_
    refine q_val (by kernel_rfl) (.pointer (some ⟨w.heap.size, 0, none⟩)) (fun x hx => by kernel_rfl) ?_
    refine q_part qB2 (by kernel_rfl) as_big _ rfl 0 (by kernel_rfl) [.int .i64 m.hH, .int .i64 m.hP] rfl (fun j v hj => by match j, hj with | 0, h => exact h | 1, h => exact h | n + 2, h => exact absurd h (by simp)) ?_
    refine q_val (by kernel_rfl) (.pointer (some ⟨qw1.heap.size, 0, none⟩)) (fun x hx => by kernel_rfl) ?_
    refine q_part qB5 (by kernel_rfl) ad_big _ rfl 0 (by kernel_rfl) [.int .u32 l.hH, .int .i64 l.hP] rfl (fun j v hj => by match j, hj with | 0, h => exact h | 1, h => exact h | n + 2, h => exact absurd h (by simp)) ?_
    refine q_call (by kernel_rfl) 41 #[.agg #[.int .u32 l.hH, .int .i64 l.hP]] (.agg #[.int .i64 l.hH, .int .i64 l.hP]) (fun x => by kernel_rfl) (fun x hx => addressOf l.hH l.hP b1 x) ?_
    refine q_val (by kernel_rfl) (.bool true) (fun x hx => by simp [execOp, go_sem, eq_as1, h1, h2]) ?_
    refine q_val (by kernel_rfl) (.bool true) (fun x hx => by kernel_rfl) ?_
    refine q_val (by kernel_rfl) (.pointer (some ⟨w.heap.size, 2, none⟩)) (fun x hx => by kernel_rfl) ?_
    refine q_part qB2 (by kernel_rfl) as_big _ rfl 2 (by kernel_rfl) [.int .i64 m.tH, .int .i64 m.tP] rfl (fun j v hj => by match j, hj with | 0, h => exact h | 1, h => exact h | n + 2, h => exact absurd h (by simp)) ?_
    refine q_val (by kernel_rfl) (.pointer (some ⟨qw1.heap.size, 2, none⟩)) (fun x hx => by kernel_rfl) ?_
    refine q_part qB5 (by kernel_rfl) ad_big _ rfl 2 (by kernel_rfl) [.int .u32 l.tH, .int .i64 l.tP] rfl (fun j v hj => by match j, hj with | 0, h => exact h | 1, h => exact h | n + 2, h => exact absurd h (by simp)) ?_
    refine q_call (by kernel_rfl) 41 #[.agg #[.int .u32 l.tH, .int .i64 l.tP]] (.agg #[.int .i64 l.tH, .int .i64 l.tP]) (fun x => by kernel_rfl) (fun x hx => addressOf l.tH l.tP b2 x) ?_
    refine q_val (by kernel_rfl) (.bool false) (fun x hx => by simp [execOp, go_sem, eq_as1]; exact e2') ?_
    refine q_val (by kernel_rfl) (.bool false) (fun x hx => by kernel_rfl) ?_
    refine q_val (by kernel_rfl) (.bool false) (fun x hx => by kernel_rfl) ?_
    refine q_frame (a' := { tmps := #[.agg #[.int .i64 m.hH, .int .i64 m.hP, .int .i64 m.tH, .int .i64 m.tP],.agg (lnCells l),.pointer (some ⟨w.heap.size, 0, none⟩),.pointer (some ⟨qw1.heap.size, 0, none⟩),.bool false,.pointer (some ⟨w.heap.size, 0, none⟩),.agg #[.int .i64 m.hH, .int .i64 m.hP],.pointer (some ⟨qw1.heap.size, 0, none⟩),.agg #[.int .u32 l.hH, .int .i64 l.hP],.agg #[.int .i64 l.hH, .int .i64 l.hP],.bool true,.bool true,.pointer (some ⟨w.heap.size, 2, none⟩),.agg #[.int .i64 m.tH, .int .i64 m.tP],.pointer (some ⟨qw1.heap.size, 2, none⟩),.agg #[.int .u32 l.tH, .int .i64 l.tP],.agg #[.int .i64 l.tH, .int .i64 l.tP],.bool false,.bool false], defers := [] }) (by kernel_rfl) ?_
    refine q_nil ?_
    intro qw7 qh8
    replace qB2 := qB2.since qh8
    replace qB5 := qB5.since qh8
    replace G := G.trans qh8
    have qh8_s := qh8.size
    go_wp2_with (fail)
    go_ret
    exact ⟨rfl, G⟩
  have hqf : q = true := hq.2 ⟨e1, e2⟩
  obtain ⟨h3, h4⟩ := e2
  obtain ⟨h1, h2⟩ := e1
  subst hqf
  clear hq
  refine wp_region_qs (wb := qw4) (by kernel_rfl) (by kernel_rfl) (Since.refl _) ?_
  refine q_val (by kernel_rfl) (.pointer (some ⟨w.heap.size, 0, none⟩)) (fun x hx => by kernel_rfl) ?_
  refine q_part qB2 (by kernel_rfl) as_big _ rfl 0 (by kernel_rfl) [.int .i64 m.hH, .int .i64 m.hP] rfl (fun j v hj => by match j, hj with | 0, h => exact h | 1, h => exact h | n + 2, h => exact absurd h (by simp)) ?_
  refine q_val (by kernel_rfl) (.pointer (some ⟨qw1.heap.size, 0, none⟩)) (fun x hx => by kernel_rfl) ?_
  refine q_part qB5 (by kernel_rfl) ad_big _ rfl 0 (by kernel_rfl) [.int .u32 l.hH, .int .i64 l.hP] rfl (fun j v hj => by match j, hj with | 0, h => exact h | 1, h => exact h | n + 2, h => exact absurd h (by simp)) ?_
  refine q_call (by kernel_rfl) 41 #[.agg #[.int .u32 l.hH, .int .i64 l.hP]] (.agg #[.int .i64 l.hH, .int .i64 l.hP]) (fun x => by kernel_rfl) (fun x hx => addressOf l.hH l.hP b1 x) ?_
  refine q_val (by kernel_rfl) (.bool true) (fun x hx => by simp [execOp, go_sem, eq_as1, h1, h2]) ?_
  refine q_val (by kernel_rfl) (.bool true) (fun x hx => by kernel_rfl) ?_
  refine q_val (by kernel_rfl) (.pointer (some ⟨w.heap.size, 2, none⟩)) (fun x hx => by kernel_rfl) ?_
  refine q_part qB2 (by kernel_rfl) as_big _ rfl 2 (by kernel_rfl) [.int .i64 m.tH, .int .i64 m.tP] rfl (fun j v hj => by match j, hj with | 0, h => exact h | 1, h => exact h | n + 2, h => exact absurd h (by simp)) ?_
  refine q_val (by kernel_rfl) (.pointer (some ⟨qw1.heap.size, 2, none⟩)) (fun x hx => by kernel_rfl) ?_
  refine q_part qB5 (by kernel_rfl) ad_big _ rfl 2 (by kernel_rfl) [.int .u32 l.tH, .int .i64 l.tP] rfl (fun j v hj => by match j, hj with | 0, h => exact h | 1, h => exact h | n + 2, h => exact absurd h (by simp)) ?_
  refine q_call (by kernel_rfl) 41 #[.agg #[.int .u32 l.tH, .int .i64 l.tP]] (.agg #[.int .i64 l.tH, .int .i64 l.tP]) (fun x => by kernel_rfl) (fun x hx => addressOf l.tH l.tP b2 x) ?_
  refine q_val (by kernel_rfl) (.bool true) (fun x hx => by simp [execOp, go_sem, eq_as1, h3, h4]) ?_
  refine q_val (by kernel_rfl) (.bool true) (fun x hx => by kernel_rfl) ?_
  refine q_val (by kernel_rfl) (.bool true) (fun x hx => by kernel_rfl) ?_
  refine q_frame (a' := { tmps := #[.agg #[.int .i64 m.hH, .int .i64 m.hP, .int .i64 m.tH, .int .i64 m.tP],.agg (lnCells l),.pointer (some ⟨w.heap.size, 0, none⟩),.pointer (some ⟨qw1.heap.size, 0, none⟩),.bool true,.pointer (some ⟨w.heap.size, 0, none⟩),.agg #[.int .i64 m.hH, .int .i64 m.hP],.pointer (some ⟨qw1.heap.size, 0, none⟩),.agg #[.int .u32 l.hH, .int .i64 l.hP],.agg #[.int .i64 l.hH, .int .i64 l.hP],.bool true,.bool true,.pointer (some ⟨w.heap.size, 2, none⟩),.agg #[.int .i64 m.tH, .int .i64 m.tP],.pointer (some ⟨qw1.heap.size, 2, none⟩),.agg #[.int .u32 l.tH, .int .i64 l.tP],.agg #[.int .i64 l.tH, .int .i64 l.tP],.bool true,.bool true], defers := [] }) (by kernel_rfl) ?_
  refine q_nil ?_
  intro qw7 qh8
  replace qB2 := qB2.since qh8
  replace qB5 := qB5.since qh8
  replace G := G.trans qh8
  have qh8_s := qh8.size
  go_wp2_with (fail)
  go_ret
  exact ⟨rfl, G⟩
end Go.Proofs.Ytpkenhcglnognaa
