/-
  The draws of what RttRun and RttSample are given.
-/
import Derived.Test.YtppmanjeeffddaaDrawRtt
namespace Go.Proofs.Ytppmanjeeffddaa
open Go.ChangeShapes Go.WideShapes Go.ChangeAt Go.RowKit Go.Deep
set_option linter.unusedVariables false

set_option maxHeartbeats 4000000 in
set_option maxRecDepth 20000 in
theorem drawRun8 (a : Option Addr) (len cap : Nat) (zs : List Int) (w : World) (hb : Bytes w a len zs) (hm : len ≤ 1048576) :
    Calls Try.prog 10 #[.slice a len cap] w fun e w' => ∃ (gl nl cl : Nat) (ns : List Int), e = .returned (.slice (some ⟨gl, 0, none⟩) nl cl) ∧ nl ≤ 1001 ∧ Held shI w' w.heap.size gl nl cl ns ∧ Since w w' := by
  have hnew := drawNew a len cap zs w hb hm w (Below.refl _ _)
  clear hb
  go_enter Try.func10, Try.ntmps10
  go_wp2_with (fail)
  refine hnew.mono ?_
  rintro _ w1 ⟨g, rfl, hg, b1, C1⟩
  clear hnew
  have hw1 := b1.size
  go_wp2_with (fail)
  refine (sizeB a len cap hm 40 (by omega) (by omega) w1).mono ?_
  rintro _ _ ⟨r, rfl, hr0, hr1, rfl⟩
  go_wp2_with (fail)
  refine (belowB r hr0 _ C1).mono ?_
  rintro _ w2 ⟨n, rfl, hn0, hn1, C2, u2⟩
  clear u2
  go_wp2_with (fail)
  refine (onceB 50 _ C2).mono ?_
  rintro _ w3 ⟨q, rfl, C3, u3⟩
  have z3 := C3.bel.size
  clear u3 C2
  cases q
  · go_wp2_with (fail)
    refine (drawList8 n hn0 (by omega) _ C3).mono ?_
    rintro _ w4 ⟨gl, nl, cl, ns, rfl, hnl, L, C4⟩
    go_wp2_with (fail)
    go_ret
    exact ⟨gl, nl, cl, ns, rfl, by omega, L.raise (by have := L.low'; omega), C4.bel⟩
  · go_wp2_with (fail)
    refine (belowB 2 (by omega) _ C3).mono ?_
    rintro _ w4 ⟨m, rfl, hm0, hm1, C4, u4⟩
    have z4 := C4.bel.size
    clear u4 C3
    go_wp2_with (fail)
    refine (drawList8 (1000 + m) (by omega) (by omega) _ C4).mono ?_
    rintro _ w5 ⟨gl, nl, cl, ns, rfl, hnl, L, C5⟩
    go_wp2_with (fail)
    go_ret
    exact ⟨gl, nl, cl, ns, rfl, by omega, L.raise (by have := L.low'; omega), C5.bel⟩

set_option maxHeartbeats 4000000 in
set_option maxRecDepth 20000 in
theorem drawSample8 (a : Option Addr) (len cap : Nat) (zs : List Int) (w0 w : World) (hb : Bytes w0 a len zs) (hS : Since w0 w) (hm : len ≤ 1048576) :
    Calls Try.prog 13 #[.slice a len cap] w fun e w' => ∃ (xa : Bool) (xs xv xd r : Int), e = .returned (.tuple #[rttVal xa xs xv xd, .int .i64 r]) ∧ Since w0 w' := by
  have R := Blk.new w #[.bool false, .int .i64 0, .int .i64 0, .int .i64 0] 28
  have S0 := hS.alloc (.cells #[.bool false, .int .i64 0, .int .i64 0, .int .i64 0] 28)
  have hnew := drawNew a len cap zs w0 hb hm _ S0
  have hz0 := hS.le
  clear hb hS
  go_enter Try.func13, Try.ntmps13
  go_wp2_with (fail)
  refine hnew.mono ?_
  rintro _ w1 ⟨g, rfl, hg, b1, C1⟩
  clear hnew S0
  replace R := R.since b1
  have hne : w.heap.size ≠ g := by simp only [World.size_alloc] at hg; omega
  go_wp2_with (fail)
  refine (drawRtt8 w1 C1).mono ?_
  rintro _ w2 ⟨xa, xs, xv, xd, rfl, C2⟩
  have hg2 := C1.here
  replace R := R.touch C2.touch hne
  have hz2 := C2.touch.size
  clear C1 b1
  unfold rttVal
  have K := Blk.new w2 #[.bool xa, .int .i64 xs, .int .i64 xv, .int .i64 xd] 28
  have C3 := C2.alloc (.cells #[.bool xa, .int .i64 xs, .int .i64 xv, .int .i64 xd] 28)
  replace R := R.since ((Since.refl w2).alloc (.cells #[.bool xa, .int .i64 xs, .int .i64 xv, .int .i64 xd] 28))
  clear C2
  go_wp2_with (fail)
  refine (belowB 100 (by omega) _ C3).mono ?_
  rintro _ w4 ⟨y, rfl, hy0, hy1, C4, u4⟩
  replace R := R.touch u4 (by omega)
  replace K := K.touch u4 (by omega)
  clear C3 u4
  go_wp2_with (fail)
  refine (onceB 8 _ C4).mono ?_
  rintro _ w5 ⟨q, rfl, C5, u5⟩
  replace R := R.touch u5 (by omega)
  replace K := K.touch u5 (by omega)
  clear C4 u5
  cases q
  · have S5 : Since w0 _ := C5.bel
    have d0 := K.cell 0
    have d1 := K.cell 1
    have d2 := K.cell 2
    have d3 := K.cell 3
    have r0 := R.cell 0
    have r1 := R.cell 1
    have r2 := R.cell 2
    have r3 := R.cell 3
    simp at d0 d1 d2 d3 r0 r1 r2 r3
    have f0 := R.fz 0
    have f1 := R.fz 1
    have f2 := R.fz 2
    have f3 := R.fz 3
    have Sz := since_put1 (since_put1 (since_put1 (since_put1 S5 hz0 0 (.bool xa)) hz0 1 (.int .i64 xs)) hz0 2 (.int .i64 xv)) hz0 3 (.int .i64 xd)
    have Bz := (((R.put 0 (.bool xa) (by simp)).put 1 (.int .i64 xs) (by simp)).put 2 (.int .i64 xv) (by simp)).put 3 (.int .i64 xd) (by simp)
    clear C5 R K
    go_wp2_with (fail)
    have b0 := Bz.cell 0
    have b1 := Bz.cell 1
    have b2 := Bz.cell 2
    have b3 := Bz.cell 3
    simp at b0 b1 b2 b3
    refine bodyPost_ret (v := .tuple #[.agg #[.bool xa, .int .i64 xs, .int .i64 xv, .int .i64 xd], .int .i64 y]) ?_ rfl ⟨xa, xs, xv, xd, y, rfl, Sz⟩
    simp [results, go_sem, b0, b1, b2, b3]
  · go_wp2_with (fail)
    refine (pickN w5.heap.size _ _ 4 [-1, 0, 100000, 100001] rfl rfl (by omega) (by omega) w5 rfl C5).mono ?_
    rintro _ w6 ⟨p, rfl, _, C6, u6⟩
    replace R := R.touch u6 (by omega)
    replace K := K.touch u6 (by omega)
    clear C5 u6
    have S5 : Since w0 _ := C6.bel
    have d0 := K.cell 0
    have d1 := K.cell 1
    have d2 := K.cell 2
    have d3 := K.cell 3
    have r0 := R.cell 0
    have r1 := R.cell 1
    have r2 := R.cell 2
    have r3 := R.cell 3
    simp at d0 d1 d2 d3 r0 r1 r2 r3
    have f0 := R.fz 0
    have f1 := R.fz 1
    have f2 := R.fz 2
    have f3 := R.fz 3
    have Sz := since_put1 (since_put1 (since_put1 (since_put1 S5 hz0 0 (.bool xa)) hz0 1 (.int .i64 xs)) hz0 2 (.int .i64 xv)) hz0 3 (.int .i64 xd)
    have Bz := (((R.put 0 (.bool xa) (by simp)).put 1 (.int .i64 xs) (by simp)).put 2 (.int .i64 xv) (by simp)).put 3 (.int .i64 xd) (by simp)
    clear C6 R K
    go_wp2_with (fail)
    have b0 := Bz.cell 0
    have b1 := Bz.cell 1
    have b2 := Bz.cell 2
    have b3 := Bz.cell 3
    simp at b0 b1 b2 b3
    refine bodyPost_ret (v := .tuple #[.agg #[.bool xa, .int .i64 xs, .int .i64 xv, .int .i64 xd], .int .i64 p]) ?_ rfl ⟨xa, xs, xv, xd, p, rfl, Sz⟩
    simp [results, go_sem, b0, b1, b2, b3]
end Go.Proofs.Ytppmanjeeffddaa
