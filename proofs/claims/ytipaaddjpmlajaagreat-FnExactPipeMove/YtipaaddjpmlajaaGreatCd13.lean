/-
  A pipe in memory of its own, as impl moves it.
-/
import Derived.Test.YtipaaddjpmlajaaGreatMv13
import Derived.Test.YtipaaddjpmlajaaGreatM7
import Derived.Deep.DeepCutAuto
namespace Go.Proofs.YtipaaddjpmlajaaGreat
open Go.ChangeShapes Go.WideShapes Go.ChangeAt Go.RowKit
set_option linter.unusedVariables false
set_option maxRecDepth 10000

theorem cd_big : IsBig 85 4 := ⟨⟨_, Tryz.underlying85, rfl⟩, by kernel_rfl⟩

theorem touch_any {c b : Nat} {w x y : World} (h : Touch c w x) (t : Touch b x y) (k : b = c ∨ w.heap.size ≤ b) : Touch c w y := by
  refine ⟨t.os.trans h.os, t.tape.trans h.tape, t.output.trans h.output, Nat.le_trans h.size t.size, fun j hj hne => ?_⟩
  rw [t.block j (Nat.lt_of_lt_of_le hj h.size) (by omega)]
  exact h.block j hj hne

theorem condOf (r : Int) (d : ByteArray) (e : Bool) (n : Int) (hd : d.size ≤ 1048576) (w : World) :
    Calls Tryz.prog 36 #[.agg #[.int .i64 r, .string d, .bool e, .int .i64 n]] w fun x w' => x = .returned (.agg #[.int .i64 r, .string d, .bool e, .int .i64 n]) ∧ Since w w' := by
  have hcl := fun wx => clone d hd wx
  go_enter Tryz.func36, Tryz.ntmps36
  have G := Since.refl w
  go_upto_region 0 with (fail)
  refine vR ?_
  refine vW (w.alloc (.cells #[.int .i64 r, .string d, .bool e, .int .i64 n] 38)) (.pointer (some ⟨w.heap.size, 0, none⟩)) ?_
  have qB2 := Blk.new w #[.int .i64 r, .string d, .bool e, .int .i64 n] 38
  have qg3 := (Since.refl w).alloc (.cells #[.int .i64 r, .string d, .bool e, .int .i64 n] 38)
  replace G := G.trans qg3
  generalize w.alloc (.cells #[.int .i64 r, .string d, .bool e, .int .i64 n] 38) = qw1 at  G qB2 qg3 ⊢
  have qB2_l := qB2.lt
  have qg3_s := qg3.size
  refine vW (qw1.alloc (.cells #[.int .i64 0, .string ByteArray.empty, .bool false, .int .i64 0] 85)) (.pointer (some ⟨qw1.heap.size, 0, none⟩)) ?_
  have qB5 := Blk.new qw1 #[.int .i64 0, .string ByteArray.empty, .bool false, .int .i64 0] 85
  have qg6 := (Since.refl qw1).alloc (.cells #[.int .i64 0, .string ByteArray.empty, .bool false, .int .i64 0] 85)
  replace qB2 := qB2.since qg6
  replace G := G.trans qg6
  generalize qw1.alloc (.cells #[.int .i64 0, .string ByteArray.empty, .bool false, .int .i64 0] 85) = qw4 at qB2 G qB5 qg6 ⊢
  have qB5_l := qB5.lt
  have qg6_s := qg6.size
  refine vE #[.agg #[.int .i64 r, .string d, .bool e, .int .i64 n], .pointer (some ⟨w.heap.size, 0, none⟩), .pointer (some ⟨qw1.heap.size, 0, none⟩), undef, undef, undef, undef, undef, undef, undef, undef, undef, undef, undef] ?_
  go_upto_region 1 with (fail)
  refine wp_region_tail (wb := qw4) 11 (fun i x v => match i with
      | 0 => v = .pointer (some ⟨w.heap.size, 0, none⟩)
      | 1 => v = .int .i64 r
      | 2 => v = .pointer (some ⟨w.heap.size, 1, none⟩)
      | 3 => v = .string d
      | 4 => v = .string d
      | 5 => v = .agg #[.int .i64 r, .string d]
      | 6 => v = .pointer (some ⟨w.heap.size, 2, none⟩)
      | 7 => v = .bool e
      | 8 => v = .pointer (some ⟨w.heap.size, 3, none⟩)
      | 9 => v = .int .i64 n
      | 10 => v = .agg #[.int .i64 r, .string d, .bool e, .int .i64 n]
      | _ => True) (fun v => { tmps := #[.agg #[.int .i64 r, .string d, .bool e, .int .i64 n], .pointer (some ⟨w.heap.size, 0, none⟩), .pointer (some ⟨qw1.heap.size, 0, none⟩), v 0, v 1, v 2, v 3, v 4, v 5, v 6, v 7, v 8, v 9, v 10], defers := [] }) (by kernel_rfl) (by kernel_rfl) (by kernel_rfl) (Since.refl _) ?_ (fun vals => by kernel_rfl) ?_ ?_
  case refine_1 =>
    intro j x x' v h1 h2
    match j, h2 with
    | 0, h2 | 1, h2 | 2, h2 | 3, h2 | 4, h2 | 5, h2 | 6, h2 | 7, h2 | 8, h2 | 9, h2 | 10, h2 => exact h2
    | n + 11, _ => trivial
  case refine_2 =>
    repeat (first | exact eachDoes_nil | refine eachDoes_cons ?_ ?_)
    all_goals intro vals x hx hv
    all_goals simp [Region.binds] at hv
    · simp [does, doesUpon, go_sem, hv, Since.refl]
    · have fl0 : x.cell? ⟨w.heap.size, 3, none⟩ = some (.int .i64 n) := (qB2.since hx).cell 3
      simp [does, doesUpon, go_sem, hv, fl0, Since.refl]
    · simp [does, doesUpon, go_sem, Since.refl]
    · have fl0 : x.cell? ⟨w.heap.size, 2, none⟩ = some (.bool e) := (qB2.since hx).cell 2
      simp [does, doesUpon, go_sem, hv, fl0, Since.refl]
    · simp [does, doesUpon, go_sem, Since.refl]
    · simp [does, doesUpon, go_sem, hv, Since.refl]
    · simp [does, doesUpon, go_sem, hv]
      refine (hcl _).mono ?_
      rintro _ x' ⟨rfl, h1⟩
      simp [h1]
    · have fl0 : x.cell? ⟨w.heap.size, 1, none⟩ = some (.string d) := (qB2.since hx).cell 1
      simp [does, doesUpon, go_sem, hv, fl0, Since.refl]
    · simp [does, doesUpon, go_sem, Since.refl]
    · have fl0 : x.cell? ⟨w.heap.size, 0, none⟩ = some (.int .i64 r) := (qB2.since hx).cell 0
      simp [does, doesUpon, go_sem, hv, fl0, Since.refl]
    · simp [does, doesUpon, go_sem, Since.refl]
  case refine_3 =>
    intro qv9 qw7 qh8 hv
    have hv0 : qv9 0 = _ := hv 0 (by decide)
    have hv1 : qv9 1 = _ := hv 1 (by decide)
    have hv2 : qv9 2 = _ := hv 2 (by decide)
    have hv3 : qv9 3 = _ := hv 3 (by decide)
    have hv4 : qv9 4 = _ := hv 4 (by decide)
    have hv5 : qv9 5 = _ := hv 5 (by decide)
    have hv6 : qv9 6 = _ := hv 6 (by decide)
    have hv7 : qv9 7 = _ := hv 7 (by decide)
    have hv8 : qv9 8 = _ := hv 8 (by decide)
    have hv9 : qv9 9 = _ := hv 9 (by decide)
    have hv10 : qv9 10 = _ := hv 10 (by decide)
    clear hv
    simp only [hv0, hv1, hv2, hv3, hv4, hv5, hv6, hv7, hv8, hv9, hv10, List.drop]
    clear hv0 hv1 hv2 hv3 hv4 hv5 hv6 hv7 hv8 hv9 hv10
    replace qB2 := qB2.since qh8
    replace qB5 := qB5.since qh8
    replace G := G.trans qh8
    have qh8_s := qh8.size
    refine VL.out ?_
    refine sB #[.int .i64 r, .string d, .bool e, .int .i64 n] cd_big qB5 rfl rfl (by simp [Value.oneCell']) ?_
    intro qw10 qt11 qB12
    clear qB5
    replace qB2 := qB2.touch qt11 (by omega)
    replace G := since_touch G qt11 (by omega)
    have qt11_s := qt11.size
    refine vE #[.agg #[.int .i64 r, .string d, .bool e, .int .i64 n], .pointer (some ⟨w.heap.size, 0, none⟩), .pointer (some ⟨qw1.heap.size, 0, none⟩), .pointer (some ⟨w.heap.size, 0, none⟩), .int .i64 r, .pointer (some ⟨w.heap.size, 1, none⟩), .string d, .string d, .agg #[.int .i64 r, .string d], .pointer (some ⟨w.heap.size, 2, none⟩), .bool e, .pointer (some ⟨w.heap.size, 3, none⟩), .int .i64 n, .agg #[.int .i64 r, .string d, .bool e, .int .i64 n]] ?_
    go_wp2_with (fail)
    exact bodyPost_ret (results_big cd_big rfl (u := 2) rfl _ rfl qB12) rfl ⟨rfl, G⟩

theorem condPipe (r : Int) (d : ByteArray) (e : Bool) (n : Int) (c : Nat) (w : World) (C : Blk c w #[.int .i64 r, .string d, .bool e, .int .i64 n]) :
    Calls Tryz.prog 39 #[.pointer (some ⟨c, 0, none⟩)] w fun x w' => x = .returned (.agg #[.int .i64 r, .string d, .bool e, .int .i64 n]) ∧ Since w w' := by
  go_enter Tryz.func39, Tryz.ntmps39
  have G := Since.refl w
  have hC0 := C.lt
  go_upto_region 0 with (fail)
  refine vR ?_
  refine vW (w.alloc (.cells #[.int .i64 0, .string ByteArray.empty, .bool false, .int .i64 0] 38)) (.pointer (some ⟨w.heap.size, 0, none⟩)) ?_
  have qB2 := Blk.new w #[.int .i64 0, .string ByteArray.empty, .bool false, .int .i64 0] 38
  have qg3 := (Since.refl w).alloc (.cells #[.int .i64 0, .string ByteArray.empty, .bool false, .int .i64 0] 38)
  replace C := C.since qg3
  replace G := G.trans qg3
  generalize w.alloc (.cells #[.int .i64 0, .string ByteArray.empty, .bool false, .int .i64 0] 38) = qw1 at C G qB2 qg3 ⊢
  have qB2_l := qB2.lt
  have qg3_s := qg3.size
  refine vE #[.pointer (some ⟨c, 0, none⟩), undef, .pointer (some ⟨w.heap.size, 0, none⟩), undef, undef, undef, undef, undef, undef, undef, undef, undef, undef, undef, undef, undef, undef, undef, undef, undef, undef, undef] ?_
  go_upto_region 1 with (fail)
  refine wp_region_tail (wb := qw1) 19 (fun i x v => match i with
      | 0 => v = .pointer (some ⟨c, 0, none⟩)
      | 1 => v = .pointer (some ⟨c, 0, none⟩)
      | 2 => v = .pointer (some ⟨c, 0, none⟩)
      | 3 => v = .pointer (some ⟨c, 0, none⟩)
      | 4 => v = .int .i64 r
      | 5 => v = .pointer (some ⟨c, 0, none⟩)
      | 6 => v = .pointer (some ⟨c, 0, none⟩)
      | 7 => v = .pointer (some ⟨c, 0, none⟩)
      | 8 => v = .pointer (some ⟨c, 1, none⟩)
      | 9 => v = .string d
      | 10 => v = .pointer (some ⟨c, 0, none⟩)
      | 11 => v = .pointer (some ⟨c, 0, none⟩)
      | 12 => v = .pointer (some ⟨c, 2, none⟩)
      | 13 => v = .bool e
      | 14 => v = .pointer (some ⟨c, 0, none⟩)
      | 15 => v = .pointer (some ⟨c, 0, none⟩)
      | 16 => v = .pointer (some ⟨c, 3, none⟩)
      | 17 => v = .int .i64 n
      | 18 => v = .agg #[.int .i64 r, .string d, .bool e, .int .i64 n]
      | _ => True) (fun v => { tmps := #[.pointer (some ⟨c, 0, none⟩), undef, .pointer (some ⟨w.heap.size, 0, none⟩), v 0, v 1, v 2, v 3, v 4, v 5, v 6, v 7, v 8, v 9, v 10, v 11, v 12, v 13, v 14, v 15, v 16, v 17, v 18], defers := [] }) (by kernel_rfl) (by kernel_rfl) (by kernel_rfl) (Since.refl _) ?_ (fun vals => by kernel_rfl) ?_ ?_
  case refine_1 =>
    intro j x x' v h1 h2
    match j, h2 with
    | 0, h2 | 1, h2 | 2, h2 | 3, h2 | 4, h2 | 5, h2 | 6, h2 | 7, h2 | 8, h2 | 9, h2 | 10, h2 | 11, h2 | 12, h2 | 13, h2 | 14, h2 | 15, h2 | 16, h2 | 17, h2 | 18, h2 => exact h2
    | n + 19, _ => trivial
  case refine_2 =>
    repeat (first | exact eachDoes_nil | refine eachDoes_cons ?_ ?_)
    all_goals intro vals x hx hv
    all_goals simp [Region.binds] at hv
    · simp [does, doesUpon, go_sem, hv, Since.refl]
    · have fl0 : x.cell? ⟨c, 3, none⟩ = some (.int .i64 n) := (C.since hx).cell 3
      simp [does, doesUpon, go_sem, hv, fl0, Since.refl]
    · simp [does, doesUpon, go_sem, hv, Since.refl]
    · simp [does, doesUpon, go_sem, hv, Since.refl]
    · simp [does, doesUpon, go_sem, Since.refl]
    · have fl0 : x.cell? ⟨c, 2, none⟩ = some (.bool e) := (C.since hx).cell 2
      simp [does, doesUpon, go_sem, hv, fl0, Since.refl]
    · simp [does, doesUpon, go_sem, hv, Since.refl]
    · simp [does, doesUpon, go_sem, hv, Since.refl]
    · simp [does, doesUpon, go_sem, Since.refl]
    · have fl0 : x.cell? ⟨c, 1, none⟩ = some (.string d) := (C.since hx).cell 1
      simp [does, doesUpon, go_sem, hv, fl0, Since.refl]
    · simp [does, doesUpon, go_sem, hv, Since.refl]
    · simp [does, doesUpon, go_sem, hv, Since.refl]
    · simp [does, doesUpon, go_sem, hv, Since.refl]
    · simp [does, doesUpon, go_sem, Since.refl]
    · have fl0 : x.cell? ⟨c, 0, none⟩ = some (.int .i64 r) := (C.since hx).cell 0
      simp [does, doesUpon, go_sem, hv, fl0, Since.refl]
    · simp [does, doesUpon, go_sem, hv, Since.refl]
    · simp [does, doesUpon, go_sem, hv, Since.refl]
    · simp [does, doesUpon, go_sem, hv, Since.refl]
    · simp [does, doesUpon, go_sem, Since.refl]
  case refine_3 =>
    intro qv6 qw4 qh5 hv
    have hv0 : qv6 0 = _ := hv 0 (by decide)
    have hv1 : qv6 1 = _ := hv 1 (by decide)
    have hv2 : qv6 2 = _ := hv 2 (by decide)
    have hv3 : qv6 3 = _ := hv 3 (by decide)
    have hv4 : qv6 4 = _ := hv 4 (by decide)
    have hv5 : qv6 5 = _ := hv 5 (by decide)
    have hv6 : qv6 6 = _ := hv 6 (by decide)
    have hv7 : qv6 7 = _ := hv 7 (by decide)
    have hv8 : qv6 8 = _ := hv 8 (by decide)
    have hv9 : qv6 9 = _ := hv 9 (by decide)
    have hv10 : qv6 10 = _ := hv 10 (by decide)
    have hv11 : qv6 11 = _ := hv 11 (by decide)
    have hv12 : qv6 12 = _ := hv 12 (by decide)
    have hv13 : qv6 13 = _ := hv 13 (by decide)
    have hv14 : qv6 14 = _ := hv 14 (by decide)
    have hv15 : qv6 15 = _ := hv 15 (by decide)
    have hv16 : qv6 16 = _ := hv 16 (by decide)
    have hv17 : qv6 17 = _ := hv 17 (by decide)
    have hv18 : qv6 18 = _ := hv 18 (by decide)
    clear hv
    simp only [hv0, hv1, hv2, hv3, hv4, hv5, hv6, hv7, hv8, hv9, hv10, hv11, hv12, hv13, hv14, hv15, hv16, hv17, hv18, List.drop]
    clear hv0 hv1 hv2 hv3 hv4 hv5 hv6 hv7 hv8 hv9 hv10 hv11 hv12 hv13 hv14 hv15 hv16 hv17 hv18
    replace C := C.since qh5
    replace qB2 := qB2.since qh5
    replace G := G.trans qh5
    have qh5_s := qh5.size
    refine VL.out ?_
    refine sB #[.int .i64 r, .string d, .bool e, .int .i64 n] pp_big qB2 rfl rfl (by simp [Value.oneCell']) ?_
    intro qw7 qt8 qB9
    clear qB2
    replace C := C.touch qt8 (by omega)
    replace G := since_touch G qt8 (by omega)
    have qt8_s := qt8.size
    refine vE #[.pointer (some ⟨c, 0, none⟩), undef, .pointer (some ⟨w.heap.size, 0, none⟩), .pointer (some ⟨c, 0, none⟩), .pointer (some ⟨c, 0, none⟩), .pointer (some ⟨c, 0, none⟩), .pointer (some ⟨c, 0, none⟩), .int .i64 r, .pointer (some ⟨c, 0, none⟩), .pointer (some ⟨c, 0, none⟩), .pointer (some ⟨c, 0, none⟩), .pointer (some ⟨c, 1, none⟩), .string d, .pointer (some ⟨c, 0, none⟩), .pointer (some ⟨c, 0, none⟩), .pointer (some ⟨c, 2, none⟩), .bool e, .pointer (some ⟨c, 0, none⟩), .pointer (some ⟨c, 0, none⟩), .pointer (some ⟨c, 3, none⟩), .int .i64 n, .agg #[.int .i64 r, .string d, .bool e, .int .i64 n]] ?_
    go_wp2_with (fail)
    exact bodyPost_ret (results_big pp_big rfl (u := 2) rfl _ rfl qB9) rfl ⟨rfl, G⟩

theorem condFree (r : Int) (d : ByteArray) (e : Bool) (n : Int) (hd : d.size ≤ 1048576) (hr : 0 ≤ r ∧ r ≤ 2048) (c : Nat) (w : World) (C : Blk c w #[.int .i64 r, .string d, .bool e, .int .i64 n]) :
    Calls Tryz.prog 99 #[.pointer (some ⟨c, 0, none⟩)] w fun x w' => x = .returned (.int .i64 (r - d.size)) ∧ Since w w' := by
  have e1 : IntKind.i64.wrap (r - (d.size : Int)) = r - (d.size : Int) := by rw [IntWalk.i64_left]; exact IntWalk.wrap64_in _ ⟨by omega, by omega⟩
  go_enter Tryz.func99, Tryz.ntmps99
  have G := Since.refl w
  have hC0 := C.lt
  go_upto_region 1 with (fail)
  refine wp_region_each (wb := w) (fun i x v => match i with
      | 0 => v = .pointer (some ⟨c, 0, none⟩)
      | 1 => v = .pointer (some ⟨c, 0, none⟩)
      | 2 => v = .pointer (some ⟨c, 0, none⟩)
      | 3 => v = .int .i64 r
      | 4 => v = .pointer (some ⟨c, 0, none⟩)
      | 5 => v = .pointer (some ⟨c, 0, none⟩)
      | 6 => v = .pointer (some ⟨c, 1, none⟩)
      | 7 => v = .string d
      | 8 => v = .int .i64 (d.size : Int)
      | 9 => v = .int .i64 (r - (d.size : Int))
      | 10 => v = .int .i64 (r - (d.size : Int))
      | _ => True) (fun v => { tmps := #[.pointer (some ⟨c, 0, none⟩), undef, v 10, v 0, v 1, v 2, v 3, v 4, v 5, v 6, v 7, v 8, v 9], defers := [] }) (by kernel_rfl) (by kernel_rfl) (Since.refl _) ?_ (fun vals => by kernel_rfl) ?_ ?_
  case refine_1 =>
    intro j x x' v h1 h2
    match j, h2 with
    | 0, h2 | 1, h2 | 2, h2 | 3, h2 | 4, h2 | 5, h2 | 6, h2 | 7, h2 | 8, h2 | 9, h2 | 10, h2 => exact h2
    | n + 11, _ => trivial
  case refine_2 =>
    repeat (first | exact eachDoes_nil | refine eachDoes_cons ?_ ?_)
    all_goals intro vals x hx hv
    all_goals simp [Region.binds] at hv
    · simp [does, doesUpon, go_sem, hv, Since.refl]
    · simp [does, doesUpon, go_sem, hv, Since.refl, e1]
    · simp [does, doesUpon, go_sem, hv, Since.refl]
    · have fl0 : x.cell? ⟨c, 1, none⟩ = some (.string d) := (C.since hx).cell 1
      simp [does, doesUpon, go_sem, hv, fl0, Since.refl]
    · simp [does, doesUpon, go_sem, hv, Since.refl]
    · simp [does, doesUpon, go_sem, hv, Since.refl]
    · simp [does, doesUpon, go_sem, Since.refl]
    · have fl0 : x.cell? ⟨c, 0, none⟩ = some (.int .i64 r) := (C.since hx).cell 0
      simp [does, doesUpon, go_sem, hv, fl0, Since.refl]
    · simp [does, doesUpon, go_sem, hv, Since.refl]
    · simp [does, doesUpon, go_sem, hv, Since.refl]
    · simp [does, doesUpon, go_sem, Since.refl]
  case refine_3 =>
    intro qv3 qw1 qh2 hv
    have hv0 : qv3 0 = _ := hv 0 (by decide)
    have hv1 : qv3 1 = _ := hv 1 (by decide)
    have hv2 : qv3 2 = _ := hv 2 (by decide)
    have hv3 : qv3 3 = _ := hv 3 (by decide)
    have hv4 : qv3 4 = _ := hv 4 (by decide)
    have hv5 : qv3 5 = _ := hv 5 (by decide)
    have hv6 : qv3 6 = _ := hv 6 (by decide)
    have hv7 : qv3 7 = _ := hv 7 (by decide)
    have hv8 : qv3 8 = _ := hv 8 (by decide)
    have hv9 : qv3 9 = _ := hv 9 (by decide)
    have hv10 : qv3 10 = _ := hv 10 (by decide)
    clear hv
    simp only [hv0, hv1, hv2, hv3, hv4, hv5, hv6, hv7, hv8, hv9, hv10]
    clear hv0 hv1 hv2 hv3 hv4 hv5 hv6 hv7 hv8 hv9 hv10
    replace C := C.since qh2
    replace G := G.trans qh2
    have qh2_s := qh2.size
    go_wp2_with (fail)
    go_ret
    exact ⟨rfl, G⟩

theorem condEmpty (r : Int) (d : ByteArray) (e : Bool) (n : Int) (c : Nat) (b : Bool) (hb : emp d = b) (w : World) (C : Blk c w #[.int .i64 r, .string d, .bool e, .int .i64 n]) :
    Calls Tryz.prog 103 #[.pointer (some ⟨c, 0, none⟩)] w fun x w' => x = .returned (.bool b) ∧ Since w w' := by
  replace hb : Hid _ := hb
  go_enter Tryz.func103, Tryz.ntmps103
  have G := Since.refl w
  have hC0 := C.lt
  go_upto_region 1 with (fail)
  refine vR ?_
  refine vV (.pointer (some ⟨c, 0, none⟩)) ?_
  refine vV (.pointer (some ⟨c, 0, none⟩)) ?_
  refine vV (.pointer (some ⟨c, 1, none⟩)) ?_
  refine vD (.string d) (C.cell 1) ?_
  refine vEmp (d) b (hb.out) ?_
  refine vV (.bool b) ?_
  refine vE #[.pointer (some ⟨c, 0, none⟩), undef, .bool b, .pointer (some ⟨c, 0, none⟩), .pointer (some ⟨c, 0, none⟩), .pointer (some ⟨c, 1, none⟩), .string d, .bool b] ?_
  go_wp2_with (fail)
  go_ret
  exact ⟨rfl, G⟩

theorem condPut (r : Int) (d : ByteArray) (e : Bool) (n : Int) (s t : ByteArray) (hz : d.size + s.size ≤ 9223372036854775807) (ht : d ++ s = t) (c : Nat) (w : World) (C : Blk c w #[.int .i64 r, .string d, .bool e, .int .i64 n]) :
    Calls Tryz.prog 100 #[.pointer (some ⟨c, 0, none⟩), .string s] w fun x w' => x = .returned (.tuple #[]) ∧ Touch c w w' ∧ Blk c w' #[.int .i64 r, .string t, .bool e, .int .i64 n] := by
  replace ht : Hid _ := ht
  go_enter Tryz.func100, Tryz.ntmps100
  have G := Touch.refl c w
  have hC0 := C.lt
  go_upto_region 0 with (fail)
  refine vR ?_
  refine vV (.pointer (some ⟨c, 0, none⟩)) ?_
  refine vV (.pointer (some ⟨c, 0, none⟩)) ?_
  refine vV (.pointer (some ⟨c, 1, none⟩)) ?_
  refine vD (.string d) (C.cell 1) ?_
  refine vV (.string s) ?_
  refine vAdd d s (by omega) ?_
  rw [ht.out]
  refine vV (.pointer (some ⟨c, 0, none⟩)) ?_
  refine vV (.pointer (some ⟨c, 1, none⟩)) ?_
  refine sC #[.int .i64 r, .string t, .bool e, .int .i64 n] C 1 (.string t) rfl ?_
  intro qw1 qt2 qB3
  clear C
  replace G := touch_any G qt2 (by omega)
  have qt2_s := qt2.size
  refine vE #[.pointer (some ⟨c, 0, none⟩), .string s, undef, undef, .pointer (some ⟨c, 0, none⟩), .pointer (some ⟨c, 0, none⟩), .pointer (some ⟨c, 1, none⟩), .string d, .string s, .string t, .pointer (some ⟨c, 0, none⟩), .pointer (some ⟨c, 1, none⟩)] ?_
  go_wp2_with (fail)
  exact bodyPost_end (v := .tuple #[]) (results_none rfl _ _ _) rfl ⟨rfl, G, qB3⟩

theorem condDrop (r : Int) (d : ByteArray) (e : Bool) (n : Int) (m : Nat) (t : ByteArray) (hm : m ≤ d.size) (hz : d.size ≤ 9223372036854775807) (ht : t = d.extract m d.size) (c : Nat) (w : World) (C : Blk c w #[.int .i64 r, .string d, .bool e, .int .i64 n]) :
    Calls Tryz.prog 102 #[.pointer (some ⟨c, 0, none⟩), .int .i64 (m : Int)] w fun x w' => x = .returned (.tuple #[]) ∧ Touch c w w' ∧ Blk c w' #[.int .i64 r, .string t, .bool e, .int .i64 n] := by
  replace ht : Hid _ := ht
  go_enter Tryz.func102, Tryz.ntmps102
  have G := Touch.refl c w
  have hC0 := C.lt
  go_upto_region 0 with (fail)
  refine vR ?_
  refine vV (.pointer (some ⟨c, 0, none⟩)) ?_
  refine vV (.pointer (some ⟨c, 0, none⟩)) ?_
  refine vV (.pointer (some ⟨c, 0, none⟩)) ?_
  refine vV (.pointer (some ⟨c, 1, none⟩)) ?_
  refine vD (.string d) (C.cell 1) ?_
  refine vV (.int .i64 (m : Int)) ?_
  refine vCut d m (by omega) (by omega) ?_
  rw [← ht.out]
  refine vV (.pointer (some ⟨c, 0, none⟩)) ?_
  refine vV (.pointer (some ⟨c, 1, none⟩)) ?_
  refine sC #[.int .i64 r, .string t, .bool e, .int .i64 n] C 1 (.string t) rfl ?_
  intro qw1 qt2 qB3
  clear C
  replace G := touch_any G qt2 (by omega)
  have qt2_s := qt2.size
  refine vE #[.pointer (some ⟨c, 0, none⟩), .int .i64 (m : Int), undef, undef, .pointer (some ⟨c, 0, none⟩), .pointer (some ⟨c, 0, none⟩), .pointer (some ⟨c, 0, none⟩), .pointer (some ⟨c, 1, none⟩), .string d, .int .i64 (m : Int), .string t, .pointer (some ⟨c, 0, none⟩), .pointer (some ⟨c, 1, none⟩)] ?_
  go_wp2_with (fail)
  exact bodyPost_end (v := .tuple #[]) (results_none rfl _ _ _) rfl ⟨rfl, G, qB3⟩

set_option maxRecDepth 20000 in
set_option maxHeartbeats 8000000 in
theorem condFill (r : Int) (d : ByteArray) (e : Bool) (n : Int) (hd : d.size ≤ 2048) (hr : 0 ≤ r ∧ r ≤ 2048) {F : Cn} {ps : List (Int × ByteArray)} (gF : GoodC F ps) (F1 : Cn) (hF1 : F1 = readC F ps (r - d.size)) (S1 : ByteArray) (hS1 : S1 = readS F ps (r - d.size)) (D1 : ByteArray) (hD1 : d ++ S1 = D1) (q p : Nat) (c : Nat) (w : World) (C : Blk c w #[.int .i64 r, .string d, .bool e, .int .i64 n]) (R : Rd shP w (some ⟨q, 0, none⟩) F.pn ps) :
    Calls Tryz.prog 77 #[.pointer (some ⟨c, 0, none⟩), .agg (cnCells { F with pa := some ⟨q, 0, none⟩, pc := p })] w fun x w' => ∃ g cp, x = .returned (.agg (cnCells { F1 with pa := some ⟨g, 0, none⟩, pc := cp })) ∧ Held shP w' w.heap.size g F.pn cp ps ∧ Touch c w w' ∧ Blk c w' #[.int .i64 r, .string D1, .bool e, .int .i64 n] := by
  have hSz := readS_size F ps (r - d.size)
  rw [← hS1] at hSz
  have hfr := fun wx Cx => condFree r d e n (by omega) hr c wx Cx
  have hrd := fun wx Rx => iRead gF (r - d.size) (by unfold IsInt; omega) (some ⟨q, 0, none⟩) p (fun h => by cases h) wx Rx
  rw [← hF1, ← hS1] at hrd
  replace hF1 : Hid _ := hF1
  replace hS1 : Hid _ := hS1
  have hpt := fun wx Cx => condPut r d e n S1 D1 (by omega) hD1 c wx Cx
  replace hD1 : Hid _ := hD1
  go_enter Tryz.func77, Tryz.ntmps77
  have G := Touch.refl c w
  have hC0 := C.lt
  go_upto_region 0 with (fail)
  refine vR ?_
  refine vW (w.alloc (.cells (cnCells { F with pa := some ⟨q, 0, none⟩, pc := p }) 46)) (.pointer (some ⟨w.heap.size, 0, none⟩)) ?_
  have qB2 := Blk.new w (cnCells { F with pa := some ⟨q, 0, none⟩, pc := p }) 46
  have qg3 := (Since.refl w).alloc (.cells (cnCells { F with pa := some ⟨q, 0, none⟩, pc := p }) 46)
  replace C := C.since qg3
  replace R := R.since qg3
  replace G := G.trans (Touch.of_since qg3 c)
  generalize w.alloc (.cells (cnCells { F with pa := some ⟨q, 0, none⟩, pc := p }) 46) = qw1 at C R G qB2 qg3 ⊢
  have qB2_l := qB2.lt
  have qg3_s := qg3.size
  refine vW (qw1.alloc (.cells (cnCells cnZero) 46)) (.pointer (some ⟨qw1.heap.size, 0, none⟩)) ?_
  have qB5 := Blk.new qw1 (cnCells cnZero) 46
  have qg6 := (Since.refl qw1).alloc (.cells (cnCells cnZero) 46)
  replace C := C.since qg6
  replace qB2 := qB2.since qg6
  replace R := R.since qg6
  replace G := G.trans (Touch.of_since qg6 c)
  generalize qw1.alloc (.cells (cnCells cnZero) 46) = qw4 at C qB2 R G qB5 qg6 ⊢
  have qB5_l := qB5.lt
  have qg6_s := qg6.size
  refine vE #[.pointer (some ⟨c, 0, none⟩), .agg (cnCells { F with pa := some ⟨q, 0, none⟩, pc := p }), undef, .pointer (some ⟨w.heap.size, 0, none⟩), .pointer (some ⟨qw1.heap.size, 0, none⟩), undef, undef, undef, undef, undef, undef, undef, undef, undef, undef, undef, undef, undef, undef, undef, undef, undef] ?_
  go_upto_region 1 with (fail)
  refine wp_region_store (wb := qw4) 10 (fun i x v => match i with
      | 0 => v = .agg (cnCells { F with pa := some ⟨q, 0, none⟩, pc := p })
      | 1 => v = .pointer (some ⟨c, 0, none⟩)
      | 2 => v = .pointer (some ⟨c, 0, none⟩)
      | 3 => v = .pointer (some ⟨c, 0, none⟩)
      | 4 => v = .int .i64 (r - (d.size : Int))
      | 5 => ∃ g cp, v = .tuple #[.agg (cnCells { F1 with pa := some ⟨g, 0, none⟩, pc := cp }), .string S1] ∧ Held shP x qw4.heap.size g F.pn cp ps
      | 6 => ∃ g cp, v = .tuple #[.agg (cnCells { F1 with pa := some ⟨g, 0, none⟩, pc := cp }), .string S1] ∧ Held shP x qw4.heap.size g F.pn cp ps
      | 7 => ∃ g cp, v = .agg (cnCells { F1 with pa := some ⟨g, 0, none⟩, pc := cp }) ∧ Held shP x qw4.heap.size g F.pn cp ps
      | 8 => v = .string S1
      | 9 => BoxB qw4.heap.size 37 x v
      | 10 => True
      | 11 => v = .string S1
      | _ => True) (fun vals x => ∃ b cs, vals 9 = .pointer (some ⟨b, 0, none⟩) ∧ vals 7 = .agg cs ∧ qw4.heap.size ≤ b ∧ Blk b x cs) (fun v => { tmps := #[.pointer (some ⟨c, 0, none⟩), .agg (cnCells { F with pa := some ⟨q, 0, none⟩, pc := p }), undef, .pointer (some ⟨w.heap.size, 0, none⟩), .pointer (some ⟨qw1.heap.size, 0, none⟩), v 9, v 11, v 6, v 0, v 1, v 2, v 3, v 4, v 5, v 7, v 8, undef, undef, undef, undef, undef, undef], defers := [] }) (by kernel_rfl) (by decide) (by kernel_rfl) (Since.refl _) (fun vals => by kernel_rfl) ?_ ?_ ?_ ?_ ?_ ?_ ?_
  case refine_1 =>
    intro i x x' v h1 h2
    match i, h2 with
    | 5, ⟨g, cp, e, H⟩ => exact ⟨g, cp, e, H.since h1⟩
    | 6, ⟨g, cp, e, H⟩ => exact ⟨g, cp, e, H.since h1⟩
    | 7, ⟨g, cp, e, H⟩ => exact ⟨g, cp, e, H.since h1⟩
    | 9, h2 => exact h2.since h1
    | 0, h2 | 1, h2 | 2, h2 | 3, h2 | 4, h2 | 8, h2 | 10, h2 | 11, h2 => exact h2
    | n + 12, _ => trivial
  case refine_2 => exact fun _ _ => trivial
  case refine_3 => exact fun _ _ _ h1 ⟨b, cs, e1, e2, l, B⟩ => ⟨b, cs, e1, e2, l, B.since h1⟩
  case refine_4 =>
    intro vals vals' x h
    rintro ⟨b, cs, e1, e2, l, B⟩
    exact ⟨b, cs, by rw [← h _ rfl ⟨9, .data⟩ (by simp) rfl]; exact e1, by rw [← h _ rfl ⟨7, .data⟩ (by simp) rfl]; exact e2, l, B⟩
  case refine_5 =>
    repeat (first | exact eachBut_nil | refine eachBut_skip ?_ | refine eachBut_cons ?_ ?_)
    all_goals intro vals x hx hv
    all_goals simp [Region.binds] at hv
    · have hb := by first | exact hv | exact hv.1 | exact hv.2.1
      simp [does, doesUpon, go_sem, hb, Since.refl]
    · simp [does, doesUpon, go_sem]
      exact ⟨(Since.refl _).alloc _, BoxB.new _ _ _ hx.size rfl⟩
    · obtain ⟨g, cp, h1, h2⟩ := hv
      simp [does, doesUpon, go_sem, h1, Since.refl]
    · obtain ⟨g, cp, h1, h2⟩ := hv
      simp [does, doesUpon, go_sem, h1, Since.refl]
      exact ⟨g, cp, rfl, h2⟩
    · obtain ⟨g, cp, h1, h2⟩ := hv
      simp [does, doesUpon, go_sem, h1, Since.refl]
      exact ⟨g, cp, rfl, h2⟩
    · simp [does, doesUpon, go_sem, hv]
      refine (hrd _ (R.since hx)).mono ?_
      rintro _ x' ⟨g, cp, rfl, H, h1⟩
      exact ⟨_, rfl, h1, g, cp, rfl, H.raise (by have := H.low'; have := hx.size; omega)⟩
    · simp [does, doesUpon, go_sem, hv]
      refine (hfr _ (C.since hx)).mono ?_
      rintro _ x' ⟨rfl, h1⟩
      simp [h1]
    · simp [does, doesUpon, go_sem, hv, Since.refl]
    · simp [does, doesUpon, go_sem, hv, Since.refl]
    · simp [does, doesUpon, go_sem, Since.refl]
    · exact does_load cn_big (cn_size _) (qB2.since hx) _ rfl rfl ⟨Since.refl _, rfl⟩
  case refine_6 =>
    intro op ho vals x hx hv
    obtain rfl := Option.some.inj ho
    obtain ⟨b, eb, lb, hraw⟩ := hv ⟨9, .data⟩ (by simp) rfl
    obtain ⟨g, cp, ev, H⟩ := hv ⟨7, .data⟩ (by simp) rfl
    obtain ⟨c0, z0, B0⟩ := hraw
    refine does_store cn_big (cn_size _) ⟨c0, z0, B0⟩ (cn_one _) _ _ rfl eb ev ?_
    intro z t B
    refine ⟨since_touch hx t lb, ?_, b, _, eb, ev, lb, B⟩
    intro j u hu
    match j, hu with
    | 5, ⟨g, cp, e, H⟩ => exact ⟨g, cp, e, H.touch t (held_ne H B0 z0)⟩
    | 6, ⟨g, cp, e, H⟩ => exact ⟨g, cp, e, H.touch t (held_ne H B0 z0)⟩
    | 7, ⟨g, cp, e, H⟩ => exact ⟨g, cp, e, H.touch t (held_ne H B0 z0)⟩
    | 9, hu => exact hu.stored t B (cn_size _)
    | 0, hu | 1, hu | 2, hu | 3, hu | 4, hu | 8, hu | 10, hu | 11, hu => exact hu
    | n + 12, _ => trivial
  case refine_7 =>
    intro qv9 qw7 qh8 hv hS
    obtain ⟨qx10, cs, eb, ec, lb, qB11⟩ := hS
    have hv0 : qv9 0 = _ := hv 0 (by decide)
    have hv1 : qv9 1 = _ := hv 1 (by decide)
    have hv2 : qv9 2 = _ := hv 2 (by decide)
    have hv3 : qv9 3 = _ := hv 3 (by decide)
    have hv4 : qv9 4 = _ := hv 4 (by decide)
    have hv8 : qv9 8 = _ := hv 8 (by decide)
    have hv11 : qv9 11 = _ := hv 11 (by decide)
    obtain ⟨gH, cpH, hv7, H⟩ := hv 7 (by decide)
    obtain ⟨gg1, cc1, hv5, -⟩ := hv 5 (by decide)
    obtain ⟨gg2, cc2, hv6, -⟩ := hv 6 (by decide)
    clear hv
    rw [hv7] at ec
    obtain rfl := Value.agg.inj ec
    clear ec
    simp only [hv0, hv1, hv2, hv3, hv4, hv5, hv6, hv7, hv8, hv11, eb]
    clear hv0 hv1 hv2 hv3 hv4 hv5 hv6 hv7 hv8 hv11 eb
    replace C := C.since qh8
    replace qB2 := qB2.since qh8
    replace qB5 := qB5.since qh8
    replace G := G.trans (Touch.of_since qh8 c)
    have qh8_s := qh8.size
    have qB11_l := qB11.lt
    have H_n := held_ne H qB11 (cn_size _)
    have H_0 := H.low'
    replace H := H.raise (show w.heap.size ≤ gH by omega)
    have H_1 := H.lt
    clear R
    go_upto_region 2 with (fail)
    refine vR ?_
    refine vV (.pointer (some ⟨c, 0, none⟩)) ?_
    refine vV (.pointer (some ⟨c, 0, none⟩)) ?_
    refine vV (.pointer (some ⟨c, 0, none⟩)) ?_
    refine vV (.string S1) ?_
    refine vC (hpt _ C) ?_
    rintro _ qw12 ⟨rfl, qt13, qB14⟩
    refine ⟨_, rfl, ?_⟩
    clear C
    replace qB2 := qB2.touch qt13 (by omega)
    replace qB5 := qB5.touch qt13 (by omega)
    replace qB11 := qB11.touch qt13 (by omega)
    replace H := H.touch qt13 (by omega)
    replace G := touch_any G qt13 (by omega)
    have qt13_s := qt13.size
    refine vE #[.pointer (some ⟨c, 0, none⟩), .agg (cnCells { F with pa := some ⟨q, 0, none⟩, pc := p }), undef, .pointer (some ⟨w.heap.size, 0, none⟩), .pointer (some ⟨qw1.heap.size, 0, none⟩), .pointer (some ⟨qx10, 0, none⟩), .string S1, .tuple #[.agg (cnCells { F1 with pa := some ⟨gg2, 0, none⟩, pc := cc2 }), .string S1], .agg (cnCells { F with pa := some ⟨q, 0, none⟩, pc := p }), .pointer (some ⟨c, 0, none⟩), .pointer (some ⟨c, 0, none⟩), .pointer (some ⟨c, 0, none⟩), .int .i64 (r - (d.size : Int)), .tuple #[.agg (cnCells { F1 with pa := some ⟨gg1, 0, none⟩, pc := cc1 }), .string S1], .agg (cnCells { F1 with pa := some ⟨gH, 0, none⟩, pc := cpH }), .string S1, .pointer (some ⟨c, 0, none⟩), .pointer (some ⟨c, 0, none⟩), .pointer (some ⟨c, 0, none⟩), .string S1, .tuple #[], undef] ?_
    go_upto_region 3 with (fail)
    refine vR ?_
    refine vB cn_big qB11 (cn_size _) ?_
    refine sB (cnCells { F1 with pa := some ⟨gH, 0, none⟩, pc := cpH }) cn_big qB5 (cn_size _) (cn_size _) (cn_one _) ?_
    intro qw15 qt16 qB17
    clear qB5
    replace qB14 := qB14.touch qt16 (by omega)
    replace qB2 := qB2.touch qt16 (by omega)
    replace qB11 := qB11.touch qt16 (by omega)
    replace H := H.touch qt16 (by omega)
    replace G := touch_any G qt16 (by omega)
    have qt16_s := qt16.size
    refine vE #[.pointer (some ⟨c, 0, none⟩), .agg (cnCells { F with pa := some ⟨q, 0, none⟩, pc := p }), undef, .pointer (some ⟨w.heap.size, 0, none⟩), .pointer (some ⟨qw1.heap.size, 0, none⟩), .pointer (some ⟨qx10, 0, none⟩), .string S1, .tuple #[.agg (cnCells { F1 with pa := some ⟨gg2, 0, none⟩, pc := cc2 }), .string S1], .agg (cnCells { F with pa := some ⟨q, 0, none⟩, pc := p }), .pointer (some ⟨c, 0, none⟩), .pointer (some ⟨c, 0, none⟩), .pointer (some ⟨c, 0, none⟩), .int .i64 (r - (d.size : Int)), .tuple #[.agg (cnCells { F1 with pa := some ⟨gg1, 0, none⟩, pc := cc1 }), .string S1], .agg (cnCells { F1 with pa := some ⟨gH, 0, none⟩, pc := cpH }), .string S1, .pointer (some ⟨c, 0, none⟩), .pointer (some ⟨c, 0, none⟩), .pointer (some ⟨c, 0, none⟩), .string S1, .tuple #[], .agg (cnCells { F1 with pa := some ⟨gH, 0, none⟩, pc := cpH })] ?_
    go_wp2_with (fail)
    exact bodyPost_ret (results_cn (t := 4) rfl _ rfl qB17) rfl ⟨_, _, rfl, H, G, qB14⟩

set_option maxRecDepth 20000 in
set_option maxHeartbeats 8000000 in
theorem condPour (r : Int) (d : ByteArray) (e : Bool) (n : Int) (hd : d.size ≤ 1048576) (hn : 0 ≤ n ∧ n ≤ 1000000000) {T : Cn} {qs : List (Int × ByteArray)} (gT : GoodC T qs) (T1 : Cn) (hT1 : T1 = writeC T qs d) (M : Nat) (hM : M = writeM T qs d) (D2 : ByteArray) (hD2 : D2 = d.extract M d.size) (q p : Nat) (c : Nat) (w : World) (C : Blk c w #[.int .i64 r, .string d, .bool e, .int .i64 n]) (R : Rd shP w (some ⟨q, 0, none⟩) T.pn qs) :
    Calls Tryz.prog 78 #[.pointer (some ⟨c, 0, none⟩), .agg (cnCells { T with pa := some ⟨q, 0, none⟩, pc := p })] w fun x w' => ∃ g cp, x = .returned (.agg (cnCells { T1 with pa := some ⟨g, 0, none⟩, pc := cp })) ∧ Held shP w' w.heap.size g T.pn cp qs ∧ Touch c w w' ∧ Blk c w' #[.int .i64 r, .string D2, .bool e, .int .i64 (capP n M)] := by
  have hMl := writeM_le T qs d
  rw [← hM] at hMl
  have hwr := fun wx Rx => iWrite gT d hd (some ⟨q, 0, none⟩) p wx Rx
  rw [← hT1, ← hM] at hwr
  replace hT1 : Hid _ := hT1
  replace hM : Hid _ := hM
  have hdr := fun wx Cx => condDrop r d e n M D2 hMl (by omega) hD2 c wx Cx
  replace hD2 : Hid _ := hD2
  have ewn : IntKind.i64.wrap (n + (M : Int)) = n + (M : Int) := by rw [IntWalk.i64_left]; exact IntWalk.wrap64_in _ ⟨by omega, by omega⟩
  go_enter Tryz.func78, Tryz.ntmps78
  have G := Touch.refl c w
  have hC0 := C.lt
  go_upto_region 0 with (fail)
  refine vR ?_
  refine vW (w.alloc (.cells (cnCells { T with pa := some ⟨q, 0, none⟩, pc := p }) 46)) (.pointer (some ⟨w.heap.size, 0, none⟩)) ?_
  have qB2 := Blk.new w (cnCells { T with pa := some ⟨q, 0, none⟩, pc := p }) 46
  have qg3 := (Since.refl w).alloc (.cells (cnCells { T with pa := some ⟨q, 0, none⟩, pc := p }) 46)
  replace C := C.since qg3
  replace R := R.since qg3
  replace G := G.trans (Touch.of_since qg3 c)
  generalize w.alloc (.cells (cnCells { T with pa := some ⟨q, 0, none⟩, pc := p }) 46) = qw1 at C R G qB2 qg3 ⊢
  have qB2_l := qB2.lt
  have qg3_s := qg3.size
  refine vW (qw1.alloc (.cells (cnCells cnZero) 46)) (.pointer (some ⟨qw1.heap.size, 0, none⟩)) ?_
  have qB5 := Blk.new qw1 (cnCells cnZero) 46
  have qg6 := (Since.refl qw1).alloc (.cells (cnCells cnZero) 46)
  replace C := C.since qg6
  replace qB2 := qB2.since qg6
  replace R := R.since qg6
  replace G := G.trans (Touch.of_since qg6 c)
  generalize qw1.alloc (.cells (cnCells cnZero) 46) = qw4 at C qB2 R G qB5 qg6 ⊢
  have qB5_l := qB5.lt
  have qg6_s := qg6.size
  refine vE #[.pointer (some ⟨c, 0, none⟩), .agg (cnCells { T with pa := some ⟨q, 0, none⟩, pc := p }), undef, .pointer (some ⟨w.heap.size, 0, none⟩), .pointer (some ⟨qw1.heap.size, 0, none⟩), undef, undef, undef, undef, undef, undef, undef, undef, undef, undef, undef, undef, undef, undef, undef, undef, undef, undef, undef, undef, undef, undef, undef, undef, undef, undef, undef, undef] ?_
  go_upto_region 1 with (fail)
  refine wp_region_store (wb := qw4) 11 (fun i x v => match i with
      | 0 => v = .agg (cnCells { T with pa := some ⟨q, 0, none⟩, pc := p })
      | 1 => v = .pointer (some ⟨c, 0, none⟩)
      | 2 => v = .pointer (some ⟨c, 0, none⟩)
      | 3 => v = .pointer (some ⟨c, 0, none⟩)
      | 4 => v = .pointer (some ⟨c, 1, none⟩)
      | 5 => v = .string d
      | 6 => ∃ g cp, v = .tuple #[.agg (cnCells { T1 with pa := some ⟨g, 0, none⟩, pc := cp }), .int .i64 (M : Int)] ∧ Held shP x qw4.heap.size g T.pn cp qs
      | 7 => ∃ g cp, v = .tuple #[.agg (cnCells { T1 with pa := some ⟨g, 0, none⟩, pc := cp }), .int .i64 (M : Int)] ∧ Held shP x qw4.heap.size g T.pn cp qs
      | 8 => ∃ g cp, v = .agg (cnCells { T1 with pa := some ⟨g, 0, none⟩, pc := cp }) ∧ Held shP x qw4.heap.size g T.pn cp qs
      | 9 => v = .int .i64 (M : Int)
      | 10 => BoxB qw4.heap.size 37 x v
      | 11 => True
      | 12 => v = .int .i64 (M : Int)
      | _ => True) (fun vals x => ∃ b cs, vals 10 = .pointer (some ⟨b, 0, none⟩) ∧ vals 8 = .agg cs ∧ qw4.heap.size ≤ b ∧ Blk b x cs) (fun v => { tmps := #[.pointer (some ⟨c, 0, none⟩), .agg (cnCells { T with pa := some ⟨q, 0, none⟩, pc := p }), undef, .pointer (some ⟨w.heap.size, 0, none⟩), .pointer (some ⟨qw1.heap.size, 0, none⟩), v 10, v 12, v 7, v 0, v 1, v 2, v 3, v 4, v 5, v 6, v 8, v 9, undef, undef, undef, undef, undef, undef, undef, undef, undef, undef, undef, undef, undef, undef, undef, undef], defers := [] }) (by kernel_rfl) (by decide) (by kernel_rfl) (Since.refl _) (fun vals => by kernel_rfl) ?_ ?_ ?_ ?_ ?_ ?_ ?_
  case refine_1 =>
    intro i x x' v h1 h2
    match i, h2 with
    | 6, ⟨g, cp, e, H⟩ => exact ⟨g, cp, e, H.since h1⟩
    | 7, ⟨g, cp, e, H⟩ => exact ⟨g, cp, e, H.since h1⟩
    | 8, ⟨g, cp, e, H⟩ => exact ⟨g, cp, e, H.since h1⟩
    | 10, h2 => exact h2.since h1
    | 0, h2 | 1, h2 | 2, h2 | 3, h2 | 4, h2 | 5, h2 | 9, h2 | 11, h2 | 12, h2 => exact h2
    | n + 13, _ => trivial
  case refine_2 => exact fun _ _ => trivial
  case refine_3 => exact fun _ _ _ h1 ⟨b, cs, e1, e2, l, B⟩ => ⟨b, cs, e1, e2, l, B.since h1⟩
  case refine_4 =>
    intro vals vals' x h
    rintro ⟨b, cs, e1, e2, l, B⟩
    exact ⟨b, cs, by rw [← h _ rfl ⟨10, .data⟩ (by simp) rfl]; exact e1, by rw [← h _ rfl ⟨8, .data⟩ (by simp) rfl]; exact e2, l, B⟩
  case refine_5 =>
    repeat (first | exact eachBut_nil | refine eachBut_skip ?_ | refine eachBut_cons ?_ ?_)
    all_goals intro vals x hx hv
    all_goals simp [Region.binds] at hv
    · have hb := by first | exact hv | exact hv.1 | exact hv.2.1
      simp [does, doesUpon, go_sem, hb, Since.refl]
    · simp [does, doesUpon, go_sem]
      exact ⟨(Since.refl _).alloc _, BoxB.new _ _ _ hx.size rfl⟩
    · obtain ⟨g, cp, h1, h2⟩ := hv
      simp [does, doesUpon, go_sem, h1, Since.refl]
    · obtain ⟨g, cp, h1, h2⟩ := hv
      simp [does, doesUpon, go_sem, h1, Since.refl]
      exact ⟨g, cp, rfl, h2⟩
    · obtain ⟨g, cp, h1, h2⟩ := hv
      simp [does, doesUpon, go_sem, h1, Since.refl]
      exact ⟨g, cp, rfl, h2⟩
    · simp [does, doesUpon, go_sem, hv]
      refine (hwr _ (R.since hx)).mono ?_
      rintro _ x' ⟨g, cp, rfl, H, h1⟩
      exact ⟨_, rfl, h1, g, cp, rfl, H.raise (by have := H.low'; have := hx.size; omega)⟩
    · have fl : x.cell? ⟨c, 1, none⟩ = some (.string d) := (C.since hx).cell 1
      simp [does, doesUpon, go_sem, hv, fl, Since.refl]
    · simp [does, doesUpon, go_sem, hv, Since.refl]
    · simp [does, doesUpon, go_sem, hv, Since.refl]
    · simp [does, doesUpon, go_sem, hv, Since.refl]
    · simp [does, doesUpon, go_sem, Since.refl]
    · exact does_load cn_big (cn_size _) (qB2.since hx) _ rfl rfl ⟨Since.refl _, rfl⟩
  case refine_6 =>
    intro op ho vals x hx hv
    obtain rfl := Option.some.inj ho
    obtain ⟨b, eb, lb, hraw⟩ := hv ⟨10, .data⟩ (by simp) rfl
    obtain ⟨g, cp, ev, H⟩ := hv ⟨8, .data⟩ (by simp) rfl
    obtain ⟨c0, z0, B0⟩ := hraw
    refine does_store cn_big (cn_size _) ⟨c0, z0, B0⟩ (cn_one _) _ _ rfl eb ev ?_
    intro z t B
    refine ⟨since_touch hx t lb, ?_, b, _, eb, ev, lb, B⟩
    intro j u hu
    match j, hu with
    | 6, ⟨g, cp, e, H⟩ => exact ⟨g, cp, e, H.touch t (held_ne H B0 z0)⟩
    | 7, ⟨g, cp, e, H⟩ => exact ⟨g, cp, e, H.touch t (held_ne H B0 z0)⟩
    | 8, ⟨g, cp, e, H⟩ => exact ⟨g, cp, e, H.touch t (held_ne H B0 z0)⟩
    | 10, hu => exact hu.stored t B (cn_size _)
    | 0, hu | 1, hu | 2, hu | 3, hu | 4, hu | 5, hu | 9, hu | 11, hu | 12, hu => exact hu
    | n + 13, _ => trivial
  case refine_7 =>
    intro qv9 qw7 qh8 hv hS
    obtain ⟨qx10, cs, eb, ec, lb, qB11⟩ := hS
    have hv0 : qv9 0 = _ := hv 0 (by decide)
    have hv1 : qv9 1 = _ := hv 1 (by decide)
    have hv2 : qv9 2 = _ := hv 2 (by decide)
    have hv3 : qv9 3 = _ := hv 3 (by decide)
    have hv4 : qv9 4 = _ := hv 4 (by decide)
    have hv5 : qv9 5 = _ := hv 5 (by decide)
    have hv9 : qv9 9 = _ := hv 9 (by decide)
    have hv12 : qv9 12 = _ := hv 12 (by decide)
    obtain ⟨gH, cpH, hv8, H⟩ := hv 8 (by decide)
    obtain ⟨gg1, cc1, hv6, -⟩ := hv 6 (by decide)
    obtain ⟨gg2, cc2, hv7, -⟩ := hv 7 (by decide)
    clear hv
    rw [hv8] at ec
    obtain rfl := Value.agg.inj ec
    clear ec
    simp only [hv0, hv1, hv2, hv3, hv4, hv5, hv6, hv7, hv8, hv9, hv12, eb]
    clear hv0 hv1 hv2 hv3 hv4 hv5 hv6 hv7 hv8 hv9 hv12 eb
    replace C := C.since qh8
    replace qB2 := qB2.since qh8
    replace qB5 := qB5.since qh8
    replace G := G.trans (Touch.of_since qh8 c)
    have qh8_s := qh8.size
    have qB11_l := qB11.lt
    have H_n := held_ne H qB11 (cn_size _)
    have H_0 := H.low'
    replace H := H.raise (show w.heap.size ≤ gH by omega)
    have H_1 := H.lt
    clear R
    go_upto_region 2 with (fail)
    refine vR ?_
    refine vV (.pointer (some ⟨c, 0, none⟩)) ?_
    refine vV (.pointer (some ⟨c, 0, none⟩)) ?_
    refine vV (.pointer (some ⟨c, 0, none⟩)) ?_
    refine vV (.int .i64 (M : Int)) ?_
    refine vC (hdr _ C) ?_
    rintro _ qw12 ⟨rfl, qt13, qB14⟩
    refine ⟨_, rfl, ?_⟩
    clear C
    replace qB2 := qB2.touch qt13 (by omega)
    replace qB5 := qB5.touch qt13 (by omega)
    replace qB11 := qB11.touch qt13 (by omega)
    replace H := H.touch qt13 (by omega)
    replace G := touch_any G qt13 (by omega)
    have qt13_s := qt13.size
    refine vE #[.pointer (some ⟨c, 0, none⟩), .agg (cnCells { T with pa := some ⟨q, 0, none⟩, pc := p }), undef, .pointer (some ⟨w.heap.size, 0, none⟩), .pointer (some ⟨qw1.heap.size, 0, none⟩), .pointer (some ⟨qx10, 0, none⟩), .int .i64 (M : Int), .tuple #[.agg (cnCells { T1 with pa := some ⟨gg2, 0, none⟩, pc := cc2 }), .int .i64 (M : Int)], .agg (cnCells { T with pa := some ⟨q, 0, none⟩, pc := p }), .pointer (some ⟨c, 0, none⟩), .pointer (some ⟨c, 0, none⟩), .pointer (some ⟨c, 0, none⟩), .pointer (some ⟨c, 1, none⟩), .string d, .tuple #[.agg (cnCells { T1 with pa := some ⟨gg1, 0, none⟩, pc := cc1 }), .int .i64 (M : Int)], .agg (cnCells { T1 with pa := some ⟨gH, 0, none⟩, pc := cpH }), .int .i64 (M : Int), .pointer (some ⟨c, 0, none⟩), .pointer (some ⟨c, 0, none⟩), .pointer (some ⟨c, 0, none⟩), .int .i64 (M : Int), .tuple #[], undef, undef, undef, undef, undef, undef, undef, undef, undef, undef, undef] ?_
    go_upto_region 3 with (fail)
    refine vR ?_
    refine vV (.pointer (some ⟨c, 0, none⟩)) ?_
    refine vV (.pointer (some ⟨c, 0, none⟩)) ?_
    refine vV (.pointer (some ⟨c, 0, none⟩)) ?_
    refine vV (.pointer (some ⟨c, 3, none⟩)) ?_
    refine vD (.int .i64 n) (qB14.cell 3) ?_
    refine vV (.int .i64 (M : Int)) ?_
    refine vV (.int .i64 (n + (M : Int))) ?_ (hrun := by rw [← ewn]; kernel_rfl)
    refine vV (.int .i64 (capP n M)) ?_
    refine vV (.pointer (some ⟨c, 0, none⟩)) ?_
    refine vV (.pointer (some ⟨c, 3, none⟩)) ?_
    refine sC #[.int .i64 r, .string D2, .bool e, .int .i64 (capP n M)] qB14 3 (.int .i64 (capP n M)) rfl ?_
    intro qw15 qt16 qB17
    clear qB14
    replace qB2 := qB2.touch qt16 (by omega)
    replace qB5 := qB5.touch qt16 (by omega)
    replace qB11 := qB11.touch qt16 (by omega)
    replace H := H.touch qt16 (by omega)
    replace G := touch_any G qt16 (by omega)
    have qt16_s := qt16.size
    refine vE #[.pointer (some ⟨c, 0, none⟩), .agg (cnCells { T with pa := some ⟨q, 0, none⟩, pc := p }), undef, .pointer (some ⟨w.heap.size, 0, none⟩), .pointer (some ⟨qw1.heap.size, 0, none⟩), .pointer (some ⟨qx10, 0, none⟩), .int .i64 (M : Int), .tuple #[.agg (cnCells { T1 with pa := some ⟨gg2, 0, none⟩, pc := cc2 }), .int .i64 (M : Int)], .agg (cnCells { T with pa := some ⟨q, 0, none⟩, pc := p }), .pointer (some ⟨c, 0, none⟩), .pointer (some ⟨c, 0, none⟩), .pointer (some ⟨c, 0, none⟩), .pointer (some ⟨c, 1, none⟩), .string d, .tuple #[.agg (cnCells { T1 with pa := some ⟨gg1, 0, none⟩, pc := cc1 }), .int .i64 (M : Int)], .agg (cnCells { T1 with pa := some ⟨gH, 0, none⟩, pc := cpH }), .int .i64 (M : Int), .pointer (some ⟨c, 0, none⟩), .pointer (some ⟨c, 0, none⟩), .pointer (some ⟨c, 0, none⟩), .int .i64 (M : Int), .tuple #[], .pointer (some ⟨c, 0, none⟩), .pointer (some ⟨c, 0, none⟩), .pointer (some ⟨c, 0, none⟩), .pointer (some ⟨c, 3, none⟩), .int .i64 n, .int .i64 (M : Int), .int .i64 (n + (M : Int)), .int .i64 (capP n M), .pointer (some ⟨c, 0, none⟩), .pointer (some ⟨c, 3, none⟩), undef] ?_
    go_upto_region 4 with (fail)
    refine vR ?_
    refine vB cn_big qB11 (cn_size _) ?_
    refine sB (cnCells { T1 with pa := some ⟨gH, 0, none⟩, pc := cpH }) cn_big qB5 (cn_size _) (cn_size _) (cn_one _) ?_
    intro qw18 qt19 qB20
    clear qB5
    replace qB17 := qB17.touch qt19 (by omega)
    replace qB2 := qB2.touch qt19 (by omega)
    replace qB11 := qB11.touch qt19 (by omega)
    replace H := H.touch qt19 (by omega)
    replace G := touch_any G qt19 (by omega)
    have qt19_s := qt19.size
    refine vE #[.pointer (some ⟨c, 0, none⟩), .agg (cnCells { T with pa := some ⟨q, 0, none⟩, pc := p }), undef, .pointer (some ⟨w.heap.size, 0, none⟩), .pointer (some ⟨qw1.heap.size, 0, none⟩), .pointer (some ⟨qx10, 0, none⟩), .int .i64 (M : Int), .tuple #[.agg (cnCells { T1 with pa := some ⟨gg2, 0, none⟩, pc := cc2 }), .int .i64 (M : Int)], .agg (cnCells { T with pa := some ⟨q, 0, none⟩, pc := p }), .pointer (some ⟨c, 0, none⟩), .pointer (some ⟨c, 0, none⟩), .pointer (some ⟨c, 0, none⟩), .pointer (some ⟨c, 1, none⟩), .string d, .tuple #[.agg (cnCells { T1 with pa := some ⟨gg1, 0, none⟩, pc := cc1 }), .int .i64 (M : Int)], .agg (cnCells { T1 with pa := some ⟨gH, 0, none⟩, pc := cpH }), .int .i64 (M : Int), .pointer (some ⟨c, 0, none⟩), .pointer (some ⟨c, 0, none⟩), .pointer (some ⟨c, 0, none⟩), .int .i64 (M : Int), .tuple #[], .pointer (some ⟨c, 0, none⟩), .pointer (some ⟨c, 0, none⟩), .pointer (some ⟨c, 0, none⟩), .pointer (some ⟨c, 3, none⟩), .int .i64 n, .int .i64 (M : Int), .int .i64 (n + (M : Int)), .int .i64 (capP n M), .pointer (some ⟨c, 0, none⟩), .pointer (some ⟨c, 3, none⟩), .agg (cnCells { T1 with pa := some ⟨gH, 0, none⟩, pc := cpH })] ?_
    go_wp2_with (fail)
    exact bodyPost_ret (results_cn (t := 4) rfl _ rfl qB20) rfl ⟨_, _, rfl, H, G, qB17⟩
end Go.Proofs.YtipaaddjpmlajaaGreat
