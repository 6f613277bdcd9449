/-
  The draw of a clock's op and of ops.
-/
import Derived.Test.YtgdhdeadbmeejaaDrawB
import Derived.Test.YtgdhdeadbmeejaaCop
import Derived.Test.YtgdhdeadbmeejaaTabApp
namespace Go.Proofs.Ytgdhdeadbmeejaa
open Go.ChangeShapes Go.WideShapes Go.ChangeAt Go.RowKit Go.Deep
set_option linter.unusedVariables false

theorem laidO : Laid shO 62 24 := by
  obtain ⟨ii, hi, hz0, hz1, hz2⟩ := info_parts info_O
  exact ⟨Try.underlying62, ii, _, hi, hz0, hz1, hz2, rfl⟩

set_option maxHeartbeats 2000000 in
set_option maxRecDepth 20000 in
theorem drawOp6 {w0 wb : World} {g : Nat} {a : Option Addr} {len cap : Nat} {zs : List Int} (w : World) (hc : Cur w0 wb g a len cap zs w) :
    Calls Try.prog 17 #[.pointer (some ⟨g, 0, none⟩)] w fun e w' => ∃ k i t : Int, e = .returned (.agg #[.int .i64 k, .int .i64 i, .int .i64 t]) ∧ Cur w0 w g a len cap zs w' := by
  have he := hc.here
  have hlow := hc.low
  have c0 := hc.rebase.alloc (.cells #[.int .i64 0, .int .i64 0, .int .i64 0] 43)
  have R := Blk.new w #[.int .i64 0, .int .i64 0, .int .i64 0] 43
  clear hc
  go_enter Try.func17, Try.ntmps17
  go_wp2_with (fail)
  refine (pickN (w.heap.size + 1) _ _ 6 [0, 0, 0, 1, 2, 2] rfl rfl (by omega) (by omega) (w.alloc (.cells #[.int .i64 0, .int .i64 0, .int .i64 0] 43)) (by simp) c0).mono ?_
  rintro _ w1 ⟨k, rfl, _, c1, u1⟩
  replace R := R.touch u1 (by omega)
  clear c0 u1
  go_wp2_with (fail)
  refine (belowB 9 (by omega) _ c1).mono ?_
  rintro _ w2 ⟨y, rfl, hy0, hy1, c2, u2⟩
  replace R := R.touch u2 (by omega)
  clear c1 u2
  go_wp2_with (fail)
  refine (belowB 30 (by omega) _ c2).mono ?_
  rintro _ w3 ⟨t, rfl, ht0, ht1, c3, u3⟩
  replace R := R.touch u3 (by omega)
  clear c2 u3
  have hwr : IntKind.i64.wrap (1 + t) = 1 + t := by rw [IntWalk.i64_left]; exact IntWalk.wrap64_in _ ⟨by omega, by omega⟩
  have hkb : w.heap.size < w3.heap.size := R.lt
  have O := Blk.new w3 #[.int .i64 k, .int .i64 y, .int .i64 (1 + t)] 43
  replace R := R.since ((Since.refl w3).alloc (.cells #[.int .i64 k, .int .i64 y, .int .i64 (1 + t)] 43))
  have c4 := c3.alloc (.cells #[.int .i64 k, .int .i64 y, .int .i64 (1 + t)] 43)
  clear c3
  go_wp2_with (fail)
  refine (belowB 30 (by omega) _ c4).mono ?_
  rintro _ w5 ⟨s, rfl, hs0, hs1, c5, u5⟩
  replace R := R.touch u5 (by omega)
  replace O := O.touch u5 (by omega)
  clear c4 u5
  by_cases h0 : s = 0
  · subst h0
    go_wp2_with (fail)
    refine (pickN w5.heap.size _ _ 4 [-1, 0, 1000000000, 1000000001] rfl rfl (by omega) (by omega) w5 rfl c5).mono ?_
    rintro _ w6 ⟨q, rfl, _, c6, u6⟩
    replace R := R.touch u6 (by omega)
    replace O := O.touch u6 (by omega)
    clear c5 u6
    have z0 := O.cell 2
    have z1 := O.fz 2
    simp at z0
    replace O := O.put 2 (.int .i64 q) (by simp)
    replace c6 := c6.putN (b := w3.heap.size) (by omega) (by omega) (by omega) 2 (.int .i64 q)
    replace R := R.other (a := w3.heap.size) (by omega) 2 (.int .i64 q)
    have k0 := O.cell 0
    have g0 := O.fz 0
    have r0 := R.cell 0
    have f0 := R.fz 0
    have k1 := O.cell 1
    have g1 := O.fz 1
    have r1 := R.cell 1
    have f1 := R.fz 1
    have k2 := O.cell 2
    have g2 := O.fz 2
    have r2 := R.cell 2
    have f2 := R.fz 2
    simp at k0 k1 k2 r0 r1 r2
    have C := (((c6.putN (b := w.heap.size) (by omega) (by omega) (by omega) 0 (.int .i64 k))).putN (b := w.heap.size) (by omega) (by omega) (by omega) 1 (.int .i64 y)).putN (b := w.heap.size) (by omega) (by omega) (by omega) 2 (.int .i64 q)
    have B := ((R.put 0 (.int .i64 k) (by simp)).put 1 (.int .i64 y) (by simp)).put 2 (.int .i64 q) (by simp)
    clear c6 R
    go_wp2
    have b0 := B.cell 0
    have b1 := B.cell 1
    have b2 := B.cell 2
    simp at b0 b1 b2
    refine bodyPost_ret (v := .agg #[.int .i64 k, .int .i64 y, .int .i64 q]) ?_ rfl ⟨k, y, q, rfl, C⟩
    simp [results, go_sem, b0, b1, b2]
  have e0 : (s == 0) = false := by simpa using h0
  by_cases h1 : s = 1
  · subst h1
    go_wp2_with (fail)
    refine (pickN w5.heap.size _ _ 3 [-1, 1000000000, 1000000001] rfl rfl (by omega) (by omega) w5 rfl c5).mono ?_
    rintro _ w6 ⟨q, rfl, _, c6, u6⟩
    replace R := R.touch u6 (by omega)
    replace O := O.touch u6 (by omega)
    clear c5 u6
    have z0 := O.cell 1
    have z1 := O.fz 1
    simp at z0
    replace O := O.put 1 (.int .i64 q) (by simp)
    replace c6 := c6.putN (b := w3.heap.size) (by omega) (by omega) (by omega) 1 (.int .i64 q)
    replace R := R.other (a := w3.heap.size) (by omega) 1 (.int .i64 q)
    have k0 := O.cell 0
    have g0 := O.fz 0
    have r0 := R.cell 0
    have f0 := R.fz 0
    have k1 := O.cell 1
    have g1 := O.fz 1
    have r1 := R.cell 1
    have f1 := R.fz 1
    have k2 := O.cell 2
    have g2 := O.fz 2
    have r2 := R.cell 2
    have f2 := R.fz 2
    simp at k0 k1 k2 r0 r1 r2
    have C := (((c6.putN (b := w.heap.size) (by omega) (by omega) (by omega) 0 (.int .i64 k))).putN (b := w.heap.size) (by omega) (by omega) (by omega) 1 (.int .i64 q)).putN (b := w.heap.size) (by omega) (by omega) (by omega) 2 (.int .i64 (1 + t))
    have B := ((R.put 0 (.int .i64 k) (by simp)).put 1 (.int .i64 q) (by simp)).put 2 (.int .i64 (1 + t)) (by simp)
    clear c6 R
    go_wp2
    have b0 := B.cell 0
    have b1 := B.cell 1
    have b2 := B.cell 2
    simp at b0 b1 b2
    refine bodyPost_ret (v := .agg #[.int .i64 k, .int .i64 q, .int .i64 (1 + t)]) ?_ rfl ⟨k, q, (1 + t), rfl, C⟩
    simp [results, go_sem, b0, b1, b2]
  have e1 : (s == 1) = false := by simpa using h1
  by_cases h2 : s = 2
  · subst h2
    go_wp2_with (fail)
    refine (pickN w5.heap.size _ _ 2 [-1, 3] rfl rfl (by omega) (by omega) w5 rfl c5).mono ?_
    rintro _ w6 ⟨q, rfl, _, c6, u6⟩
    replace R := R.touch u6 (by omega)
    replace O := O.touch u6 (by omega)
    clear c5 u6
    have z0 := O.cell 0
    have z1 := O.fz 0
    simp at z0
    replace O := O.put 0 (.int .i64 q) (by simp)
    replace c6 := c6.putN (b := w3.heap.size) (by omega) (by omega) (by omega) 0 (.int .i64 q)
    replace R := R.other (a := w3.heap.size) (by omega) 0 (.int .i64 q)
    have k0 := O.cell 0
    have g0 := O.fz 0
    have r0 := R.cell 0
    have f0 := R.fz 0
    have k1 := O.cell 1
    have g1 := O.fz 1
    have r1 := R.cell 1
    have f1 := R.fz 1
    have k2 := O.cell 2
    have g2 := O.fz 2
    have r2 := R.cell 2
    have f2 := R.fz 2
    simp at k0 k1 k2 r0 r1 r2
    have C := (((c6.putN (b := w.heap.size) (by omega) (by omega) (by omega) 0 (.int .i64 q))).putN (b := w.heap.size) (by omega) (by omega) (by omega) 1 (.int .i64 y)).putN (b := w.heap.size) (by omega) (by omega) (by omega) 2 (.int .i64 (1 + t))
    have B := ((R.put 0 (.int .i64 q) (by simp)).put 1 (.int .i64 y) (by simp)).put 2 (.int .i64 (1 + t)) (by simp)
    clear c6 R
    go_wp2
    have b0 := B.cell 0
    have b1 := B.cell 1
    have b2 := B.cell 2
    simp at b0 b1 b2
    refine bodyPost_ret (v := .agg #[.int .i64 q, .int .i64 y, .int .i64 (1 + t)]) ?_ rfl ⟨q, y, (1 + t), rfl, C⟩
    simp [results, go_sem, b0, b1, b2]
  have e2 : (s == 2) = false := by simpa using h2
  have k0 := O.cell 0
  have g0 := O.fz 0
  have r0 := R.cell 0
  have f0 := R.fz 0
  have k1 := O.cell 1
  have g1 := O.fz 1
  have r1 := R.cell 1
  have f1 := R.fz 1
  have k2 := O.cell 2
  have g2 := O.fz 2
  have r2 := R.cell 2
  have f2 := R.fz 2
  simp at k0 k1 k2 r0 r1 r2
  have C := (((c5.putN (b := w.heap.size) (by omega) (by omega) (by omega) 0 (.int .i64 k))).putN (b := w.heap.size) (by omega) (by omega) (by omega) 1 (.int .i64 y)).putN (b := w.heap.size) (by omega) (by omega) (by omega) 2 (.int .i64 (1 + t))
  have B := ((R.put 0 (.int .i64 k) (by simp)).put 1 (.int .i64 y) (by simp)).put 2 (.int .i64 (1 + t)) (by simp)
  clear c5 R
  go_wp2
  have b0 := B.cell 0
  have b1 := B.cell 1
  have b2 := B.cell 2
  simp at b0 b1 b2
  refine bodyPost_ret (v := .agg #[.int .i64 k, .int .i64 y, .int .i64 (1 + t)]) ?_ rfl ⟨k, y, (1 + t), rfl, C⟩
  simp [results, go_sem, b0, b1, b2]

set_option maxHeartbeats 2000000 in
set_option maxRecDepth 20000 in
theorem drawOps6 {w0 wb : World} {g : Nat} {a : Option Addr} {len cap : Nat} {zs : List Int} (n : Int) (h0 : 0 ≤ n) (hn : n ≤ 2000) (w : World) (hc : Cur w0 wb g a len cap zs w) :
    Calls Try.prog 32 #[.pointer (some ⟨g, 0, none⟩), .int .i64 n] w fun e w' => ∃ (go no co : Nat) (os : List (Int × Int × Int)), e = .returned (.slice (some ⟨go, 0, none⟩) no co) ∧ (no : Int) = n ∧ Held shO w' w.heap.size go no co os ∧ Cur w0 w g a len cap zs w' := by
  have he := hc.here
  have C0 := hc.rebase.alloc (.cells #[] 43)
  have T0 : Held shO (w.alloc (.cells #[] 43)) w.heap.size w.heap.size 0 0 [] := Held.empty (S := shO) w
  clear hc
  go_enter Try.func32, Try.ntmps32
  go_wp2_with (fail)
  go_loopw [5, 6] (fun v i wr => ∃ (j gr cr : Nat) (os : List (Int × Int × Int)), i = .int .i64 j ∧ (j : Int) ≤ n ∧ v = .slice (some ⟨gr, 0, none⟩) j cr ∧ Held shO wr w.heap.size gr j cr os ∧ Cur w0 w g a len cap zs wr) (fun _ i _ => n.toNat - (intOf i).toNat)
  case atStart => exact ⟨0, w.heap.size, 0, [], rfl, h0, rfl, T0, C0⟩
  case round =>
    clear T0 C0
    obtain ⟨j, gr, cr, os, rfl, hj, rfl, T, C⟩ := hrel
    by_cases hlt : (j : Int) < n
    · go_wp2_with (fail)
      refine (drawOp6 _ C).mono ?_
      rintro _ w2 ⟨k, p, t, rfl, c2⟩
      have hlo := T.low'
      have T2 := T.touch c2.touch (by omega)
      have C2 := Cur.since C.touch c2
      have ka := (Since.refl w2).alloc (.cells #[.int .i64 k, .int .i64 p, .int .i64 t] 43)
      have C3 := C2.alloc (.cells #[.int .i64 k, .int .i64 p, .int .i64 t] 43)
      have T3 := T2.since ka
      have R3 := Rd.one (S := shO) w2 (k, p, t) 43 w2.heap.size rfl
      have hl2 := T2.lt
      clear T C c2 C2 T2 ka
      go_wp2_with (at_builtin; refine app_own laidO rfl _ _ rfl rfl T3 rfl R3 (by omega) (by unfold maxLen; omega) (by omega) (by simp; omega) _ rfl ?_; intro gg cq w5 T5 hgrow hat)
      have C5 := C3.grownN he hgrow (fun q e => by obtain rfl : gr = q := Option.some.inj e; exact hlo)
      clear C3 T3 R3 hgrow hat
      go_roundw
      case rel => exact ⟨j + 1, gg, cq, os ++ [(k, p, t)], by go_num, by omega, rfl, T5, C5⟩
      case measure => simp [intOf]; omega
    · have hjn : (j : Int) = n := by omega
      go_wp2
      go_ret
      exact ⟨gr, j, cr, rfl, hjn, ⟨os, T⟩, C⟩
end Go.Proofs.Ytgdhdeadbmeejaa
