/-
  The draws of what may be under way, of how much is, and of what CongAck is given.
-/
import Derived.Test.YtakcalmmbknobaaDrawB
import Derived.Test.YtakcalmmbknobaaCongD
import Derived.Deep.RegionWith
namespace Go.Proofs.Ytakcalmmbknobaa
open Go.ChangeShapes Go.WideShapes Go.ChangeAt Go.RowKit Go.Deep
set_option linter.unusedVariables false

theorem Cur.drew9 {w0 wb : World} {g : Nat} {a : Option Addr} {len cap : Nat} {zs : List Int} {x : World} (h : Cur w0 wb g a len cap zs x) : Cur w0 wb g a len cap zs x.drew := h.moved (g' := g) (Since.refl x).drew

theorem Cur.put5 {w0 wb : World} {g : Nat} {a : Option Addr} {len cap : Nat} {zs : List Int} {x : World} {b : Nat} (h : Cur w0 wb g a len cap zs x) (hne : b ≠ g) (h0 : w0.heap.size ≤ b) (h1 : wb.heap.size ≤ b) (v0 v1 v2 v3 v4 : Value) : Cur w0 wb g a len cap zs (((((x.setCell ⟨b, 0, none⟩ v0).setCell ⟨b, 1, none⟩ v1).setCell ⟨b, 2, none⟩ v2).setCell ⟨b, 3, none⟩ v3).setCell ⟨b, 4, none⟩ v4) :=
  ((((h.putN hne h0 h1 0 v0).putN hne h0 h1 1 v1).putN hne h0 h1 2 v2).putN hne h0 h1 3 v3).putN hne h0 h1 4 v4

theorem drawFlight9 {w0 wb : World} {g : Nat} {a : Option Addr} {len cap : Nat} {zs : List Int} (w : World) (hc : Cur w0 wb g a len cap zs w) :
    Calls Try.prog 25 #[.pointer (some ⟨g, 0, none⟩)] w fun e w' => ∃ n : Int, e = .returned (.int .i64 n) ∧ Cur w0 wb g a len cap zs w' ∧ Touch g w w' := by
  have C := hc.rebase
  go_enter Try.func25, Try.ntmps25
  go_wp2_with (fail)
  refine (onceB 8 _ C).mono ?_
  rintro _ w1 ⟨q, rfl, C1, u1⟩
  clear C u1
  cases q
  · go_wp2_with (fail)
    refine (belowB 3000 (by omega) _ C1).mono ?_
    rintro _ w2 ⟨n, rfl, hn0, hn1, C2, u2⟩
    go_wp2_with (fail)
    go_ret
    exact ⟨n, rfl, Cur.since hc.touch C2, C2.touch⟩
  · go_wp2_with (fail)
    refine (pickN w1.heap.size _ _ 4 [-1, 0, 8000, 8001] rfl rfl (by omega) (by omega) w1 rfl C1).mono ?_
    rintro _ w2 ⟨n, rfl, _, C2, u2⟩
    go_wp2_with (fail)
    go_ret
    exact ⟨n, rfl, Cur.since hc.touch C2, C2.touch⟩

set_option maxHeartbeats 4000000 in
set_option maxRecDepth 20000 in
theorem drawCong9 {w0 wb : World} {g : Nat} {a : Option Addr} {len cap : Nat} {zs : List Int} (w : World) (hc : Cur w0 wb g a len cap zs w) :
    Calls Try.prog 24 #[.pointer (some ⟨g, 0, none⟩)] w fun e w' => ∃ (x t d : Int) (f : Bool) (r : Int), e = .returned (congVal x t d f r) ∧ IsWord r ∧ Cur w0 w g a len cap zs w' := by
  have he := hc.here
  have hlow := hc.low
  have hz0 := hc.bel.size
  have C := hc.rebase.alloc (.cells #[.int .i64 0, .int .i64 0, .int .i64 0, .bool false, .int .u32 0] 26)
  have R := Blk.new w #[.int .i64 0, .int .i64 0, .int .i64 0, .bool false, .int .u32 0] 26
  clear hc
  unfold congVal
  go_enter Try.func24, Try.ntmps24
  go_wp2_with (fail)
  refine (belowB 2000 (by omega) _ C).mono ?_
  rintro _ w1 ⟨x, rfl, hx0, hx1, C1, u1⟩
  replace R := R.touch u1 (by omega)
  clear C u1
  go_wp2_with (fail)
  refine (belowB 2000 (by omega) _ C1).mono ?_
  rintro _ w2 ⟨t, rfl, ht0, ht1, C2, u2⟩
  replace R := R.touch u2 (by omega)
  clear C1 u2
  go_wp2_with (fail)
  refine (belowB 5 (by omega) _ C2).mono ?_
  rintro _ w3 ⟨d, rfl, hd0, hd1, C3, u3⟩
  replace R := R.touch u3 (by omega)
  clear C2 u3
  go_wp2_with (fail)
  refine (onceB 3 _ C3).mono ?_
  rintro _ w4 ⟨f, rfl, C4, u4⟩
  replace R := R.touch u4 (by omega)
  clear C3 u4
  go_wp2_with (fail)
  refine (belowB 4000 (by omega) _ C4).mono ?_
  rintro _ w5 ⟨r, rfl, hr0, hr1, C5, u5⟩
  replace R := R.touch u5 (by omega)
  clear C4 u5
  have hw5 := C5.touch.size
  have h5 := R.lt
  have hg5 := C5.here
  have hwr : IntKind.u32.wrap r = r := IntWalk.u32_in _ ⟨by omega, by omega⟩
  have K := Blk.new w5 #[.int .i64 (100 + x), .int .i64 (200 + t), .int .i64 d, .bool f, .int .u32 r] 26
  have C6 := C5.alloc (.cells #[.int .i64 (100 + x), .int .i64 (200 + t), .int .i64 d, .bool f, .int .u32 r] 26)
  replace R := R.since ((Since.refl w5).alloc (.cells #[.int .i64 (100 + x), .int .i64 (200 + t), .int .i64 d, .bool f, .int .u32 r] 26))
  have hr : IsWord r := ⟨by omega, by omega⟩
  go_wp2_with (fail)
  refine (onceB 4 _ C6).mono ?_
  rintro _ w7 ⟨q0, rfl, C7, u7⟩
  replace R := R.touch u7 (by omega)
  replace K := K.touch u7 (by omega)
  clear C6 u7
  cases q0
  · go_wp2_with (fail)
    refine (onceB 12 _ C7).mono ?_
    rintro _ w8 ⟨q1, rfl, C8, u8⟩
    replace R := R.touch u8 (by omega)
    replace K := K.touch u8 (by omega)
    clear C7 u8
    cases q1
    · go_wp2_with (fail)
      refine (onceB 12 _ C8).mono ?_
      rintro _ w9 ⟨q2, rfl, C9, u9⟩
      replace R := R.touch u9 (by omega)
      replace K := K.touch u9 (by omega)
      clear C8 u9
      cases q2
      · have d0 := K.cell 0
        have d1 := K.cell 1
        have d2 := K.cell 2
        have d3 := K.cell 3
        have d4 := K.cell 4
        have r0 := R.cell 0
        have r1 := R.cell 1
        have r2 := R.cell 2
        have r3 := R.cell 3
        have r4 := R.cell 4
        simp at d0 d1 d2 d3 d4 r0 r1 r2 r3 r4
        have f0 := R.fz 0
        have f1 := R.fz 1
        have f2 := R.fz 2
        have f3 := R.fz 3
        have f4 := R.fz 4
        have Cz := C9.put5 (b := w.heap.size) (by omega) (by omega) (by omega) (.int .i64 (100 + x)) (.int .i64 (200 + t)) (.int .i64 d) (.bool f) (.int .u32 r)
        obtain ⟨z, hz, tz, Bz⟩ := stored5 R (.int .i64 (100 + x)) (.int .i64 (200 + t)) (.int .i64 d) (.bool f) (.int .u32 r)
        rw [hz] at Cz
        clear C9 R K
        go_wp2_with (fail)
        have b0 := Bz.cell 0
        have b1 := Bz.cell 1
        have b2 := Bz.cell 2
        have b3 := Bz.cell 3
        have b4 := Bz.cell 4
        simp at b0 b1 b2 b3 b4
        refine bodyPost_ret (v := .agg #[.int .i64 (100 + x), .int .i64 (200 + t), .int .i64 d, .bool f, .int .u32 r]) ?_ rfl ⟨(100 + x), (200 + t), d, f, r, rfl, hr, Cz⟩
        simp [results, go_sem, b0, b1, b2, b3, b4]
      · go_wp2_with (fail)
        refine (pickN w9.heap.size _ _ 4 [-1, 2, 1000000, 1000001] rfl rfl (by omega) (by omega) w9 rfl C9).mono ?_
        rintro _ w10 ⟨p2, rfl, _, C10, u10⟩
        replace R := R.touch u10 (by omega)
        replace K := K.touch u10 (by omega)
        clear C9 u10
        have z0 := K.cell 2
        have z1 := K.fz 2
        simp at z0
        replace K := K.put 2 (.int .i64 p2) (by simp)
        simp only [List.setIfInBounds_toArray, List.set] at K
        replace R := R.other (a := w5.heap.size) (by omega) 2 (.int .i64 p2)
        replace C10 := C10.putN (b := w5.heap.size) (by omega) (by omega) (by omega) 2 (.int .i64 p2)
        have d0 := K.cell 0
        have d1 := K.cell 1
        have d2 := K.cell 2
        have d3 := K.cell 3
        have d4 := K.cell 4
        have r0 := R.cell 0
        have r1 := R.cell 1
        have r2 := R.cell 2
        have r3 := R.cell 3
        have r4 := R.cell 4
        simp at d0 d1 d2 d3 d4 r0 r1 r2 r3 r4
        have f0 := R.fz 0
        have f1 := R.fz 1
        have f2 := R.fz 2
        have f3 := R.fz 3
        have f4 := R.fz 4
        have Cz := C10.put5 (b := w.heap.size) (by omega) (by omega) (by omega) (.int .i64 (100 + x)) (.int .i64 (200 + t)) (.int .i64 p2) (.bool f) (.int .u32 r)
        obtain ⟨z, hz, tz, Bz⟩ := stored5 R (.int .i64 (100 + x)) (.int .i64 (200 + t)) (.int .i64 p2) (.bool f) (.int .u32 r)
        rw [hz] at Cz
        clear C10 R K
        go_wp2_with (fail)
        have b0 := Bz.cell 0
        have b1 := Bz.cell 1
        have b2 := Bz.cell 2
        have b3 := Bz.cell 3
        have b4 := Bz.cell 4
        simp at b0 b1 b2 b3 b4
        refine bodyPost_ret (v := .agg #[.int .i64 (100 + x), .int .i64 (200 + t), .int .i64 p2, .bool f, .int .u32 r]) ?_ rfl ⟨(100 + x), (200 + t), p2, f, r, rfl, hr, Cz⟩
        simp [results, go_sem, b0, b1, b2, b3, b4]
    · go_wp2_with (fail)
      refine (pickN w8.heap.size _ _ 4 [199, 200, 8000, 8001] rfl rfl (by omega) (by omega) w8 rfl C8).mono ?_
      rintro _ w9 ⟨p1, rfl, _, C9, u9⟩
      replace R := R.touch u9 (by omega)
      replace K := K.touch u9 (by omega)
      clear C8 u9
      have z0 := K.cell 1
      have z1 := K.fz 1
      simp at z0
      replace K := K.put 1 (.int .i64 p1) (by simp)
      simp only [List.setIfInBounds_toArray, List.set] at K
      replace R := R.other (a := w5.heap.size) (by omega) 1 (.int .i64 p1)
      replace C9 := C9.putN (b := w5.heap.size) (by omega) (by omega) (by omega) 1 (.int .i64 p1)
      go_wp2_with (fail)
      refine (onceB 12 _ C9).mono ?_
      rintro _ w10 ⟨q2, rfl, C10, u10⟩
      replace R := R.touch u10 (by omega)
      replace K := K.touch u10 (by omega)
      clear C9 u10
      cases q2
      · have d0 := K.cell 0
        have d1 := K.cell 1
        have d2 := K.cell 2
        have d3 := K.cell 3
        have d4 := K.cell 4
        have r0 := R.cell 0
        have r1 := R.cell 1
        have r2 := R.cell 2
        have r3 := R.cell 3
        have r4 := R.cell 4
        simp at d0 d1 d2 d3 d4 r0 r1 r2 r3 r4
        have f0 := R.fz 0
        have f1 := R.fz 1
        have f2 := R.fz 2
        have f3 := R.fz 3
        have f4 := R.fz 4
        have Cz := C10.put5 (b := w.heap.size) (by omega) (by omega) (by omega) (.int .i64 (100 + x)) (.int .i64 p1) (.int .i64 d) (.bool f) (.int .u32 r)
        obtain ⟨z, hz, tz, Bz⟩ := stored5 R (.int .i64 (100 + x)) (.int .i64 p1) (.int .i64 d) (.bool f) (.int .u32 r)
        rw [hz] at Cz
        clear C10 R K
        go_wp2_with (fail)
        have b0 := Bz.cell 0
        have b1 := Bz.cell 1
        have b2 := Bz.cell 2
        have b3 := Bz.cell 3
        have b4 := Bz.cell 4
        simp at b0 b1 b2 b3 b4
        refine bodyPost_ret (v := .agg #[.int .i64 (100 + x), .int .i64 p1, .int .i64 d, .bool f, .int .u32 r]) ?_ rfl ⟨(100 + x), p1, d, f, r, rfl, hr, Cz⟩
        simp [results, go_sem, b0, b1, b2, b3, b4]
      · go_wp2_with (fail)
        refine (pickN w10.heap.size _ _ 4 [-1, 2, 1000000, 1000001] rfl rfl (by omega) (by omega) w10 rfl C10).mono ?_
        rintro _ w11 ⟨p2, rfl, _, C11, u11⟩
        replace R := R.touch u11 (by omega)
        replace K := K.touch u11 (by omega)
        clear C10 u11
        have z0 := K.cell 2
        have z1 := K.fz 2
        simp at z0
        replace K := K.put 2 (.int .i64 p2) (by simp)
        simp only [List.setIfInBounds_toArray, List.set] at K
        replace R := R.other (a := w5.heap.size) (by omega) 2 (.int .i64 p2)
        replace C11 := C11.putN (b := w5.heap.size) (by omega) (by omega) (by omega) 2 (.int .i64 p2)
        have d0 := K.cell 0
        have d1 := K.cell 1
        have d2 := K.cell 2
        have d3 := K.cell 3
        have d4 := K.cell 4
        have r0 := R.cell 0
        have r1 := R.cell 1
        have r2 := R.cell 2
        have r3 := R.cell 3
        have r4 := R.cell 4
        simp at d0 d1 d2 d3 d4 r0 r1 r2 r3 r4
        have f0 := R.fz 0
        have f1 := R.fz 1
        have f2 := R.fz 2
        have f3 := R.fz 3
        have f4 := R.fz 4
        have Cz := C11.put5 (b := w.heap.size) (by omega) (by omega) (by omega) (.int .i64 (100 + x)) (.int .i64 p1) (.int .i64 p2) (.bool f) (.int .u32 r)
        obtain ⟨z, hz, tz, Bz⟩ := stored5 R (.int .i64 (100 + x)) (.int .i64 p1) (.int .i64 p2) (.bool f) (.int .u32 r)
        rw [hz] at Cz
        clear C11 R K
        go_wp2_with (fail)
        have b0 := Bz.cell 0
        have b1 := Bz.cell 1
        have b2 := Bz.cell 2
        have b3 := Bz.cell 3
        have b4 := Bz.cell 4
        simp at b0 b1 b2 b3 b4
        refine bodyPost_ret (v := .agg #[.int .i64 (100 + x), .int .i64 p1, .int .i64 p2, .bool f, .int .u32 r]) ?_ rfl ⟨(100 + x), p1, p2, f, r, rfl, hr, Cz⟩
        simp [results, go_sem, b0, b1, b2, b3, b4]
  · go_wp2_with (fail)
    refine (pickN w7.heap.size _ _ 5 [99, 100, 8000, 8001, 7950] rfl rfl (by omega) (by omega) w7 rfl C7).mono ?_
    rintro _ w8 ⟨p0, rfl, _, C8, u8⟩
    replace R := R.touch u8 (by omega)
    replace K := K.touch u8 (by omega)
    clear C7 u8
    have z0 := K.cell 0
    have z1 := K.fz 0
    simp at z0
    replace K := K.put 0 (.int .i64 p0) (by simp)
    simp only [List.setIfInBounds_toArray, List.set] at K
    replace R := R.other (a := w5.heap.size) (by omega) 0 (.int .i64 p0)
    replace C8 := C8.putN (b := w5.heap.size) (by omega) (by omega) (by omega) 0 (.int .i64 p0)
    go_wp2_with (fail)
    refine (onceB 12 _ C8).mono ?_
    rintro _ w9 ⟨q1, rfl, C9, u9⟩
    replace R := R.touch u9 (by omega)
    replace K := K.touch u9 (by omega)
    clear C8 u9
    cases q1
    · go_wp2_with (fail)
      refine (onceB 12 _ C9).mono ?_
      rintro _ w10 ⟨q2, rfl, C10, u10⟩
      replace R := R.touch u10 (by omega)
      replace K := K.touch u10 (by omega)
      clear C9 u10
      cases q2
      · have d0 := K.cell 0
        have d1 := K.cell 1
        have d2 := K.cell 2
        have d3 := K.cell 3
        have d4 := K.cell 4
        have r0 := R.cell 0
        have r1 := R.cell 1
        have r2 := R.cell 2
        have r3 := R.cell 3
        have r4 := R.cell 4
        simp at d0 d1 d2 d3 d4 r0 r1 r2 r3 r4
        have f0 := R.fz 0
        have f1 := R.fz 1
        have f2 := R.fz 2
        have f3 := R.fz 3
        have f4 := R.fz 4
        have Cz := C10.put5 (b := w.heap.size) (by omega) (by omega) (by omega) (.int .i64 p0) (.int .i64 (200 + t)) (.int .i64 d) (.bool f) (.int .u32 r)
        obtain ⟨z, hz, tz, Bz⟩ := stored5 R (.int .i64 p0) (.int .i64 (200 + t)) (.int .i64 d) (.bool f) (.int .u32 r)
        rw [hz] at Cz
        clear C10 R K
        go_wp2_with (fail)
        have b0 := Bz.cell 0
        have b1 := Bz.cell 1
        have b2 := Bz.cell 2
        have b3 := Bz.cell 3
        have b4 := Bz.cell 4
        simp at b0 b1 b2 b3 b4
        refine bodyPost_ret (v := .agg #[.int .i64 p0, .int .i64 (200 + t), .int .i64 d, .bool f, .int .u32 r]) ?_ rfl ⟨p0, (200 + t), d, f, r, rfl, hr, Cz⟩
        simp [results, go_sem, b0, b1, b2, b3, b4]
      · go_wp2_with (fail)
        refine (pickN w10.heap.size _ _ 4 [-1, 2, 1000000, 1000001] rfl rfl (by omega) (by omega) w10 rfl C10).mono ?_
        rintro _ w11 ⟨p2, rfl, _, C11, u11⟩
        replace R := R.touch u11 (by omega)
        replace K := K.touch u11 (by omega)
        clear C10 u11
        have z0 := K.cell 2
        have z1 := K.fz 2
        simp at z0
        replace K := K.put 2 (.int .i64 p2) (by simp)
        simp only [List.setIfInBounds_toArray, List.set] at K
        replace R := R.other (a := w5.heap.size) (by omega) 2 (.int .i64 p2)
        replace C11 := C11.putN (b := w5.heap.size) (by omega) (by omega) (by omega) 2 (.int .i64 p2)
        have d0 := K.cell 0
        have d1 := K.cell 1
        have d2 := K.cell 2
        have d3 := K.cell 3
        have d4 := K.cell 4
        have r0 := R.cell 0
        have r1 := R.cell 1
        have r2 := R.cell 2
        have r3 := R.cell 3
        have r4 := R.cell 4
        simp at d0 d1 d2 d3 d4 r0 r1 r2 r3 r4
        have f0 := R.fz 0
        have f1 := R.fz 1
        have f2 := R.fz 2
        have f3 := R.fz 3
        have f4 := R.fz 4
        have Cz := C11.put5 (b := w.heap.size) (by omega) (by omega) (by omega) (.int .i64 p0) (.int .i64 (200 + t)) (.int .i64 p2) (.bool f) (.int .u32 r)
        obtain ⟨z, hz, tz, Bz⟩ := stored5 R (.int .i64 p0) (.int .i64 (200 + t)) (.int .i64 p2) (.bool f) (.int .u32 r)
        rw [hz] at Cz
        clear C11 R K
        go_wp2_with (fail)
        have b0 := Bz.cell 0
        have b1 := Bz.cell 1
        have b2 := Bz.cell 2
        have b3 := Bz.cell 3
        have b4 := Bz.cell 4
        simp at b0 b1 b2 b3 b4
        refine bodyPost_ret (v := .agg #[.int .i64 p0, .int .i64 (200 + t), .int .i64 p2, .bool f, .int .u32 r]) ?_ rfl ⟨p0, (200 + t), p2, f, r, rfl, hr, Cz⟩
        simp [results, go_sem, b0, b1, b2, b3, b4]
    · go_wp2_with (fail)
      refine (pickN w9.heap.size _ _ 4 [199, 200, 8000, 8001] rfl rfl (by omega) (by omega) w9 rfl C9).mono ?_
      rintro _ w10 ⟨p1, rfl, _, C10, u10⟩
      replace R := R.touch u10 (by omega)
      replace K := K.touch u10 (by omega)
      clear C9 u10
      have z0 := K.cell 1
      have z1 := K.fz 1
      simp at z0
      replace K := K.put 1 (.int .i64 p1) (by simp)
      simp only [List.setIfInBounds_toArray, List.set] at K
      replace R := R.other (a := w5.heap.size) (by omega) 1 (.int .i64 p1)
      replace C10 := C10.putN (b := w5.heap.size) (by omega) (by omega) (by omega) 1 (.int .i64 p1)
      go_wp2_with (fail)
      refine (onceB 12 _ C10).mono ?_
      rintro _ w11 ⟨q2, rfl, C11, u11⟩
      replace R := R.touch u11 (by omega)
      replace K := K.touch u11 (by omega)
      clear C10 u11
      cases q2
      · have d0 := K.cell 0
        have d1 := K.cell 1
        have d2 := K.cell 2
        have d3 := K.cell 3
        have d4 := K.cell 4
        have r0 := R.cell 0
        have r1 := R.cell 1
        have r2 := R.cell 2
        have r3 := R.cell 3
        have r4 := R.cell 4
        simp at d0 d1 d2 d3 d4 r0 r1 r2 r3 r4
        have f0 := R.fz 0
        have f1 := R.fz 1
        have f2 := R.fz 2
        have f3 := R.fz 3
        have f4 := R.fz 4
        have Cz := C11.put5 (b := w.heap.size) (by omega) (by omega) (by omega) (.int .i64 p0) (.int .i64 p1) (.int .i64 d) (.bool f) (.int .u32 r)
        obtain ⟨z, hz, tz, Bz⟩ := stored5 R (.int .i64 p0) (.int .i64 p1) (.int .i64 d) (.bool f) (.int .u32 r)
        rw [hz] at Cz
        clear C11 R K
        go_wp2_with (fail)
        have b0 := Bz.cell 0
        have b1 := Bz.cell 1
        have b2 := Bz.cell 2
        have b3 := Bz.cell 3
        have b4 := Bz.cell 4
        simp at b0 b1 b2 b3 b4
        refine bodyPost_ret (v := .agg #[.int .i64 p0, .int .i64 p1, .int .i64 d, .bool f, .int .u32 r]) ?_ rfl ⟨p0, p1, d, f, r, rfl, hr, Cz⟩
        simp [results, go_sem, b0, b1, b2, b3, b4]
      · go_wp2_with (fail)
        refine (pickN w11.heap.size _ _ 4 [-1, 2, 1000000, 1000001] rfl rfl (by omega) (by omega) w11 rfl C11).mono ?_
        rintro _ w12 ⟨p2, rfl, _, C12, u12⟩
        replace R := R.touch u12 (by omega)
        replace K := K.touch u12 (by omega)
        clear C11 u12
        have z0 := K.cell 2
        have z1 := K.fz 2
        simp at z0
        replace K := K.put 2 (.int .i64 p2) (by simp)
        simp only [List.setIfInBounds_toArray, List.set] at K
        replace R := R.other (a := w5.heap.size) (by omega) 2 (.int .i64 p2)
        replace C12 := C12.putN (b := w5.heap.size) (by omega) (by omega) (by omega) 2 (.int .i64 p2)
        have d0 := K.cell 0
        have d1 := K.cell 1
        have d2 := K.cell 2
        have d3 := K.cell 3
        have d4 := K.cell 4
        have r0 := R.cell 0
        have r1 := R.cell 1
        have r2 := R.cell 2
        have r3 := R.cell 3
        have r4 := R.cell 4
        simp at d0 d1 d2 d3 d4 r0 r1 r2 r3 r4
        have f0 := R.fz 0
        have f1 := R.fz 1
        have f2 := R.fz 2
        have f3 := R.fz 3
        have f4 := R.fz 4
        have Cz := C12.put5 (b := w.heap.size) (by omega) (by omega) (by omega) (.int .i64 p0) (.int .i64 p1) (.int .i64 p2) (.bool f) (.int .u32 r)
        obtain ⟨z, hz, tz, Bz⟩ := stored5 R (.int .i64 p0) (.int .i64 p1) (.int .i64 p2) (.bool f) (.int .u32 r)
        rw [hz] at Cz
        clear C12 R K
        go_wp2_with (fail)
        have b0 := Bz.cell 0
        have b1 := Bz.cell 1
        have b2 := Bz.cell 2
        have b3 := Bz.cell 3
        have b4 := Bz.cell 4
        simp at b0 b1 b2 b3 b4
        refine bodyPost_ret (v := .agg #[.int .i64 p0, .int .i64 p1, .int .i64 p2, .bool f, .int .u32 r]) ?_ rfl ⟨p0, p1, p2, f, r, rfl, hr, Cz⟩
        simp [results, go_sem, b0, b1, b2, b3, b4]

set_option maxHeartbeats 4000000 in
set_option maxRecDepth 20000 in
theorem drawAck9 (a : Option Addr) (len cap : Nat) (zs : List Int) (w : World) (hb : Bytes w a len zs) (hm : len ≤ 1048576) :
    Calls Try.prog 10 #[.slice a len cap] w fun e w' => ∃ (x t d : Int) (f : Bool) (r n b : Int), e = .returned (.tuple #[congVal x t d f r, .int .i64 n, .int .u32 b]) ∧ IsWord r ∧ IsWord b ∧ Since w w' := by
  have R := Blk.new w #[.int .i64 0, .int .i64 0, .int .i64 0, .bool false, .int .u32 0] 26
  have S0 := (Since.refl w).alloc (.cells #[.int .i64 0, .int .i64 0, .int .i64 0, .bool false, .int .u32 0] 26)
  have hnew := drawNew a len cap zs w hb hm _ S0
  clear hb
  go_enter Try.func10, Try.ntmps10
  go_wp2_with (fail)
  refine hnew.mono ?_
  rintro _ w1 ⟨g, rfl, hg, b1, C1⟩
  clear hnew S0
  replace R := R.since b1
  have hne : w.heap.size ≠ g := by simp only [World.size_alloc] at hg; omega
  go_wp2_with (fail)
  refine (drawCong9 w1 C1).mono ?_
  rintro _ w2 ⟨x, t, d, f, r, rfl, hr, C2⟩
  have hg2 := C1.here
  replace R := R.touch C2.touch hne
  have hz2 := C2.touch.size
  clear C1 b1
  unfold congVal
  have K := Blk.new w2 #[.int .i64 x, .int .i64 t, .int .i64 d, .bool f, .int .u32 r] 26
  have C3 := C2.alloc (.cells #[.int .i64 x, .int .i64 t, .int .i64 d, .bool f, .int .u32 r] 26)
  replace R := R.since ((Since.refl w2).alloc (.cells #[.int .i64 x, .int .i64 t, .int .i64 d, .bool f, .int .u32 r] 26))
  clear C2
  go_wp2_with (fail)
  refine (drawFlight9 _ C3).mono ?_
  rintro _ w4 ⟨n, rfl, C4, u4⟩
  replace R := R.touch u4 (by omega)
  replace K := K.touch u4 (by omega)
  clear C3 u4
  have hz4 := C4.bel.size
  replace C4 := C4.drew9
  have hw : Since w4 w4.drew := (Since.refl _).drew
  replace R := R.since hw
  replace K := K.since hw
  clear hw
  have d0 := K.cell 0
  have d1 := K.cell 1
  have d2 := K.cell 2
  have d3 := K.cell 3
  have d4 := K.cell 4
  simp at d0 d1 d2 d3 d4
  go_wp2_with (fail)
  go_region_with (go_at_call 26; refine (belowB 4000 (by omega) _ C4).mono ?_; rintro _ w5 ⟨b, rfl, hb0, hb1, C5, u5⟩; replace R := R.touch u5 (by omega); replace K := K.touch u5 (by omega); have hwb : IntKind.u32.wrap b = b := IntWalk.u32_in _ ⟨by omega, by omega⟩; clear d0 d1 d2 d3 d4; have d0 := K.cell 0; have d1 := K.cell 1; have d2 := K.cell 2; have d3 := K.cell 3; have d4 := K.cell 4; have r0 := R.cell 0; have r1 := R.cell 1; have r2 := R.cell 2; have r3 := R.cell 3; have r4 := R.cell 4; simp at d0 d1 d2 d3 d4 r0 r1 r2 r3 r4; have f0 := R.fz 0; have f1 := R.fz 1; have f2 := R.fz 2; have f3 := R.fz 3; have f4 := R.fz 4)
  all_goals have hb : IsWord b := ⟨by omega, by omega⟩
  all_goals have S5 : Since w _ := C5.bel
  all_goals have Sz := since_put1 (since_put1 (since_put1 (since_put1 (since_put1 S5 (Nat.le_refl _) 0 (.int .i64 x)) (Nat.le_refl _) 1 (.int .i64 t)) (Nat.le_refl _) 2 (.int .i64 d)) (Nat.le_refl _) 3 (.bool f)) (Nat.le_refl _) 4 (.int .u32 r)
  all_goals have Bz := ((((R.put 0 (.int .i64 x) (by simp)).put 1 (.int .i64 t) (by simp)).put 2 (.int .i64 d) (by simp)).put 3 (.bool f) (by simp)).put 4 (.int .u32 r) (by simp)
  all_goals clear C4 C5 R K u5
  all_goals go_wp2_with (fail)
  all_goals have b0 := Bz.cell 0
  all_goals have b1 := Bz.cell 1
  all_goals have b2 := Bz.cell 2
  all_goals have b3 := Bz.cell 3
  all_goals have b4 := Bz.cell 4
  all_goals simp at b0 b1 b2 b3 b4
  all_goals refine bodyPost_ret (v := .tuple #[.agg #[.int .i64 x, .int .i64 t, .int .i64 d, .bool f, .int .u32 r], .int .i64 n, .int .u32 b]) ?_ rfl ⟨x, t, d, f, r, n, b, rfl, hr, hb, Sz⟩
  all_goals simp [results, go_sem, b0, b1, b2, b3, b4]

end Go.Proofs.Ytakcalmmbknobaa
