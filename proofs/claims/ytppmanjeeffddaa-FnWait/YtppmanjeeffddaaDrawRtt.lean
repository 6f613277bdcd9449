/-
  The draws of numbers for a wait, of a wait, and of what RttRun and RttSample are given.
-/
import Derived.Test.YtppmanjeeffddaaDrawB
import Derived.Test.YtppmanjeeffddaaRttRun
namespace Go.Proofs.Ytppmanjeeffddaa
open Go.ChangeShapes Go.WideShapes Go.ChangeAt Go.RowKit Go.Deep
set_option linter.unusedVariables false

set_option maxHeartbeats 4000000 in
set_option maxRecDepth 20000 in
theorem drawList8 {w0 wb : World} {g : Nat} {a : Option Addr} {len cap : Nat} {zs : List Int} (n : Int) (h0 : 0 ≤ n) (hn : n ≤ 2000) (w : World) (hc : Cur w0 wb g a len cap zs w) :
    Calls Try.prog 32 #[.pointer (some ⟨g, 0, none⟩), .int .i64 n] w fun e w' => ∃ (gl nl cl : Nat) (ns : List Int), e = .returned (.slice (some ⟨gl, 0, none⟩) nl cl) ∧ (nl : Int) = n ∧ Held shI w' w.heap.size gl nl cl ns ∧ Cur w0 w g a len cap zs w' := by
  have he := hc.here
  have C0 := hc.rebase.alloc (.cells #[] 3)
  have T0 : Held shI (w.alloc (.cells #[] 3)) w.heap.size w.heap.size 0 0 [] := Held.empty (S := shI) w
  clear hc
  go_enter Try.func32, Try.ntmps32
  go_wp2_with (fail)
  go_loopw [5, 6] (fun v i wr => ∃ (j gr cr : Nat) (ns : List Int), i = .int .i64 j ∧ (j : Int) ≤ n ∧ v = .slice (some ⟨gr, 0, none⟩) j cr ∧ Held shI wr w.heap.size gr j cr ns ∧ Cur w0 w g a len cap zs wr) (fun _ i _ => n.toNat - (intOf i).toNat)
  case atStart => exact ⟨0, w.heap.size, 0, [], rfl, h0, rfl, T0, C0⟩
  case round =>
    clear T0 C0
    obtain ⟨j, gr, cr, ns, rfl, hj, rfl, T, C⟩ := hrel
    have hlo := T.low'
    by_cases hlt : (j : Int) < n
    · go_wp2_with (fail)
      refine (belowB 60 (by omega) _ C).mono ?_
      rintro _ w1 ⟨x, rfl, hx0, hx1, C1, u1⟩
      replace T := T.touch u1 (by omega)
      clear C u1
      go_wp2_with (fail)
      refine (belowB 7 (by omega) _ C1).mono ?_
      rintro _ w2 ⟨s, rfl, hs0, hs1, C2, u2⟩
      replace T := T.touch u2 (by omega)
      clear C1 u2
      by_cases hz : s = 0
      · subst hz
        go_wp2_with (fail)
        refine (onceB 60 _ C2).mono ?_
        rintro _ w4 ⟨r, rfl, C4, u4⟩
        replace T := T.touch u4 (by omega)
        clear C2 u4
        cases r
        · have ka := (Since.refl w4).alloc (.cells #[.int .i64 (-1)] 3)
          have Ca := C4.alloc (.cells #[.int .i64 (-1)] 3)
          have Ta := T.since ka
          have Ra := Rd.one (S := shI) w4 (-1) 3 w4.heap.size rfl
          have hl2 := T.lt
          clear T C4 ka
          go_wp2_with (at_builtin; refine app_own laidI rfl _ _ rfl rfl Ta rfl Ra (by omega) (by unfold maxLen; omega) (by omega) (by simp; omega) _ rfl ?_; intro gg cq w9 T9 hgrow hat)
          have C9 := Ca.grownN he hgrow (fun q e => by obtain rfl : gr = q := Option.some.inj e; exact hlo)
          clear Ca Ta Ra hgrow hat
          go_roundw
          case rel => exact ⟨j + 1, gg, cq, ns ++ [(-1)], by go_num, by omega, rfl, T9, C9⟩
          case measure => simp [intOf]; omega
        · go_wp2_with (fail)
          refine (pickN w4.heap.size _ _ 2 [100000, 100001] rfl rfl (by omega) (by omega) w4 rfl C4).mono ?_
          rintro _ w5 ⟨p, rfl, _, C5, u5⟩
          replace T := T.touch u5 (by omega)
          clear C4 u5
          have ka := (Since.refl w5).alloc (.cells #[.int .i64 p] 3)
          have Ca := C5.alloc (.cells #[.int .i64 p] 3)
          have Ta := T.since ka
          have Ra := Rd.one (S := shI) w5 p 3 w5.heap.size rfl
          have hl2 := T.lt
          clear T C5 ka
          go_wp2_with (at_builtin; refine app_own laidI rfl _ _ rfl rfl Ta rfl Ra (by omega) (by unfold maxLen; omega) (by omega) (by simp; omega) _ rfl ?_; intro gg cq w9 T9 hgrow hat)
          have C9 := Ca.grownN he hgrow (fun q e => by obtain rfl : gr = q := Option.some.inj e; exact hlo)
          clear Ca Ta Ra hgrow hat
          go_roundw
          case rel => exact ⟨j + 1, gg, cq, ns ++ [p], by go_num, by omega, rfl, T9, C9⟩
          case measure => simp [intOf]; omega
      have e0 : (s == 0) = false := by simpa using hz
      by_cases hz1 : s = 1
      · subst hz1
        go_wp2_with (fail)
        refine (belowB 2000 (by omega) _ C2).mono ?_
        rintro _ w3 ⟨x2, rfl, hy0, hy1, C3, u3⟩
        replace T := T.touch u3 (by omega)
        clear C2 u3
        go_wp2_with (fail)
        refine (onceB 60 _ C3).mono ?_
        rintro _ w4 ⟨r, rfl, C4, u4⟩
        replace T := T.touch u4 (by omega)
        clear C3 u4
        cases r
        · have ka := (Since.refl w4).alloc (.cells #[.int .i64 x2] 3)
          have Ca := C4.alloc (.cells #[.int .i64 x2] 3)
          have Ta := T.since ka
          have Ra := Rd.one (S := shI) w4 x2 3 w4.heap.size rfl
          have hl2 := T.lt
          clear T C4 ka
          go_wp2_with (at_builtin; refine app_own laidI rfl _ _ rfl rfl Ta rfl Ra (by omega) (by unfold maxLen; omega) (by omega) (by simp; omega) _ rfl ?_; intro gg cq w9 T9 hgrow hat)
          have C9 := Ca.grownN he hgrow (fun q e => by obtain rfl : gr = q := Option.some.inj e; exact hlo)
          clear Ca Ta Ra hgrow hat
          go_roundw
          case rel => exact ⟨j + 1, gg, cq, ns ++ [x2], by go_num, by omega, rfl, T9, C9⟩
          case measure => simp [intOf]; omega
        · go_wp2_with (fail)
          refine (pickN w4.heap.size _ _ 2 [100000, 100001] rfl rfl (by omega) (by omega) w4 rfl C4).mono ?_
          rintro _ w5 ⟨p, rfl, _, C5, u5⟩
          replace T := T.touch u5 (by omega)
          clear C4 u5
          have ka := (Since.refl w5).alloc (.cells #[.int .i64 p] 3)
          have Ca := C5.alloc (.cells #[.int .i64 p] 3)
          have Ta := T.since ka
          have Ra := Rd.one (S := shI) w5 p 3 w5.heap.size rfl
          have hl2 := T.lt
          clear T C5 ka
          go_wp2_with (at_builtin; refine app_own laidI rfl _ _ rfl rfl Ta rfl Ra (by omega) (by unfold maxLen; omega) (by omega) (by simp; omega) _ rfl ?_; intro gg cq w9 T9 hgrow hat)
          have C9 := Ca.grownN he hgrow (fun q e => by obtain rfl : gr = q := Option.some.inj e; exact hlo)
          clear Ca Ta Ra hgrow hat
          go_roundw
          case rel => exact ⟨j + 1, gg, cq, ns ++ [p], by go_num, by omega, rfl, T9, C9⟩
          case measure => simp [intOf]; omega
      have e1 : (s == 1) = false := by simpa using hz1
      go_wp2_with (fail)
      refine (onceB 60 _ C2).mono ?_
      rintro _ w4 ⟨r, rfl, C4, u4⟩
      replace T := T.touch u4 (by omega)
      clear C2 u4
      cases r
      · have ka := (Since.refl w4).alloc (.cells #[.int .i64 x] 3)
        have Ca := C4.alloc (.cells #[.int .i64 x] 3)
        have Ta := T.since ka
        have Ra := Rd.one (S := shI) w4 x 3 w4.heap.size rfl
        have hl2 := T.lt
        clear T C4 ka
        go_wp2_with (at_builtin; refine app_own laidI rfl _ _ rfl rfl Ta rfl Ra (by omega) (by unfold maxLen; omega) (by omega) (by simp; omega) _ rfl ?_; intro gg cq w9 T9 hgrow hat)
        have C9 := Ca.grownN he hgrow (fun q e => by obtain rfl : gr = q := Option.some.inj e; exact hlo)
        clear Ca Ta Ra hgrow hat
        go_roundw
        case rel => exact ⟨j + 1, gg, cq, ns ++ [x], by go_num, by omega, rfl, T9, C9⟩
        case measure => simp [intOf]; omega
      · go_wp2_with (fail)
        refine (pickN w4.heap.size _ _ 2 [100000, 100001] rfl rfl (by omega) (by omega) w4 rfl C4).mono ?_
        rintro _ w5 ⟨p, rfl, _, C5, u5⟩
        replace T := T.touch u5 (by omega)
        clear C4 u5
        have ka := (Since.refl w5).alloc (.cells #[.int .i64 p] 3)
        have Ca := C5.alloc (.cells #[.int .i64 p] 3)
        have Ta := T.since ka
        have Ra := Rd.one (S := shI) w5 p 3 w5.heap.size rfl
        have hl2 := T.lt
        clear T C5 ka
        go_wp2_with (at_builtin; refine app_own laidI rfl _ _ rfl rfl Ta rfl Ra (by omega) (by unfold maxLen; omega) (by omega) (by simp; omega) _ rfl ?_; intro gg cq w9 T9 hgrow hat)
        have C9 := Ca.grownN he hgrow (fun q e => by obtain rfl : gr = q := Option.some.inj e; exact hlo)
        clear Ca Ta Ra hgrow hat
        go_roundw
        case rel => exact ⟨j + 1, gg, cq, ns ++ [p], by go_num, by omega, rfl, T9, C9⟩
        case measure => simp [intOf]; omega
    · have hjn : (j : Int) = n := by omega
      go_wp2
      go_ret
      exact ⟨gr, j, cr, rfl, hjn, ⟨ns, T⟩, C⟩

theorem Cur.put4 {w0 wb : World} {g : Nat} {a : Option Addr} {len cap : Nat} {zs : List Int} {x : World} {b : Nat} (h : Cur w0 wb g a len cap zs x) (hne : b ≠ g) (h0 : w0.heap.size ≤ b) (h1 : wb.heap.size ≤ b) (v0 v1 v2 v3 : Value) : Cur w0 wb g a len cap zs ((((x.setCell ⟨b, 0, none⟩ v0).setCell ⟨b, 1, none⟩ v1).setCell ⟨b, 2, none⟩ v2).setCell ⟨b, 3, none⟩ v3) :=
  (((h.putN hne h0 h1 0 v0).putN hne h0 h1 1 v1).putN hne h0 h1 2 v2).putN hne h0 h1 3 v3

set_option maxHeartbeats 4000000 in
set_option maxRecDepth 20000 in
theorem drawRtt8 {w0 wb : World} {g : Nat} {a : Option Addr} {len cap : Nat} {zs : List Int} (w : World) (hc : Cur w0 wb g a len cap zs w) :
    Calls Try.prog 33 #[.pointer (some ⟨g, 0, none⟩)] w fun e w' => ∃ (xa : Bool) (xs xv xd : Int), e = .returned (rttVal xa xs xv xd) ∧ Cur w0 w g a len cap zs w' := by
  have he := hc.here
  have hlow := hc.low
  have C := (hc.rebase.alloc (.cells #[.bool false, .int .i64 0, .int .i64 0, .int .i64 0] 28)).alloc (.cells #[.bool false, .int .i64 0, .int .i64 0, .int .i64 0] 28)
  have R := (Blk.new w #[.bool false, .int .i64 0, .int .i64 0, .int .i64 0] 28).since ((Since.refl _).alloc (.cells #[.bool false, .int .i64 0, .int .i64 0, .int .i64 0] 28))
  have B := Blk.new (w.alloc (.cells #[.bool false, .int .i64 0, .int .i64 0, .int .i64 0] 28)) #[.bool false, .int .i64 0, .int .i64 0, .int .i64 0] 28
  rw [World.size_alloc] at B
  clear hc
  unfold rttVal
  go_enter Try.func33, Try.ntmps33
  go_wp2_with (fail)
  refine (belowB 9 (by omega) _ C).mono ?_
  rintro _ w1 ⟨n, rfl, hn0, hn1, C1, u1⟩
  replace R := R.touch u1 (by omega)
  replace B := B.touch u1 (by omega)
  clear C u1
  go_wp2_with (fail)
  refine (drawList8 n hn0 (by omega) _ C1).mono ?_
  rintro _ w2 ⟨gl, nl, cl, ns, rfl, hnl, L, C2⟩
  have hb1 := B.lt
  replace R := R.touch C2.touch (by omega)
  replace B := B.touch C2.touch (by omega)
  have hL := L.low'
  replace C2 := Cur.since C1.touch C2
  clear C1
  go_wp2_with (fail)
  go_loopw [5] (fun i wr => ∃ (k : Nat) (ta : Bool) (ts tv td : Int), k ≤ nl ∧ i = .int .i64 k ∧ Held shI wr w1.heap.size gl nl cl ns ∧ Blk w.heap.size wr #[.bool false, .int .i64 0, .int .i64 0, .int .i64 0] ∧ Blk (w.heap.size + 1) wr #[.bool ta, .int .i64 ts, .int .i64 tv, .int .i64 td] ∧ Cur w0 w g a len cap zs wr) (fun i _ => nl - (intOf i).toNat)
  case atStart => exact ⟨0, false, 0, 0, 0, by omega, rfl, L, R, B, C2⟩
  case round =>
    clear L R B C2
    obtain ⟨k, ta, ts, tv, td, hk, rfl, L, R, B, C⟩ := hrel
    have c0 := B.cell 0
    have c1 := B.cell 1
    have c2 := B.cell 2
    have c3 := B.cell 3
    simp at c0 c1 c2 c3
    by_cases hlt : k < nl
    · have hlt' : (k : Int) < (nl : Int) := by omega
      have q0 := L.num k hlt
      generalize iAt ns k = O at q0
      by_cases hneg : O < 0
      · obtain ⟨⟨ua, us, uv, ud⟩, hu⟩ : ∃ u, backV ta ts tv td = u := ⟨_, rfl⟩
        go_wp2_with (fail)
        refine (specBack ta ts tv td _).mono ?_
        rw [back_form _ _ _ _ _ hu]
        rintro _ w3 ⟨rfl, g2⟩
        unfold rttVal
        clear hu q0 c0 c1 c2 c3
        replace L := L.since g2
        replace B := B.since g2
        replace R := R.since g2
        replace C := C.moved (g' := g) g2
        have b0 := B.cell 0
        have b1 := B.cell 1
        have b2 := B.cell 2
        have b3 := B.cell 3
        simp at b0 b1 b2 b3
        have f0 := B.fz 0
        have f1 := B.fz 1
        have f2 := B.fz 2
        have f3 := B.fz 3
        have Cy := C.put4 (b := w.heap.size + 1) (by omega) (by omega) (by omega) (.bool ua) (.int .i64 us) (.int .i64 uv) (.int .i64 ud)
        obtain ⟨y, hy, ty, By⟩ := stored4 B (.bool ua) (.int .i64 us) (.int .i64 uv) (.int .i64 ud)
        rw [hy] at Cy
        have Ly := L.touch ty (by omega)
        have Ry := R.touch ty (by omega)
        clear L B R C
        go_wp2_with (fail)
        clear b0 b1 b2 b3 f0 f1 f2 f3 hy
        go_roundw
        case rel => exact ⟨k + 1, ua, us, uv, ud, by omega, by go_num, Ly, Ry, By, Cy⟩
        case measure => simp [intOf]; omega
      · obtain ⟨⟨ua, us, uv, ud⟩, hu⟩ : ∃ u, sampV ta ts tv td O = u := ⟨_, rfl⟩
        have hpos : 0 ≤ O := by omega
        have hgl := L.lt
        clear c0 c1 c2 c3
        go_wp2_with (fail)
        refine wp_region_tail (wb := wr) 6 (fun i x v => match i with
            | 0 => v = .agg #[.bool ta, .int .i64 ts, .int .i64 tv, .int .i64 td]
            | 1 => v = .slice (some ⟨gl, 0, none⟩) nl cl
            | 2 => v = .int .i64 k
            | 3 => v = .pointer (some ⟨gl, k, none⟩)
            | 4 => v = .int .i64 O
            | 5 => v = .agg #[.bool ua, .int .i64 us, .int .i64 uv, .int .i64 ud]
            | _ => True) (fun v => { tmps := #[Value.pointer (some ⟨g, 0, none⟩), undef, Value.pointer (some ⟨w.heap.size, 0, none⟩), Value.pointer (some ⟨w.heap.size + 1, 0, none⟩), Value.slice (some ⟨gl, 0, none⟩) nl cl, Value.int IntKind.i64 (k : Int), Value.agg #[Value.bool false, Value.int IntKind.i64 0, Value.int IntKind.i64 0, Value.int IntKind.i64 0], Value.pointer (some ⟨g, 0, none⟩), Value.pointer (some ⟨g, 0, none⟩), Value.int IntKind.i64 n, Value.slice (some ⟨gl, 0, none⟩) nl cl, Value.int IntKind.i64 (k : Int), Value.slice (some ⟨gl, 0, none⟩) nl cl, Value.int IntKind.i64 n, Value.bool true, u15, u16, Value.slice (some ⟨gl, 0, none⟩) nl cl, Value.int IntKind.i64 (k : Int), Value.pointer (some ⟨gl, k, none⟩), Value.int IntKind.i64 O, Value.bool false, u22, u23, v 0, v 1, v 2, v 3, v 4, v 5, undef, undef, undef, undef, undef, undef, undef, undef, undef, undef, undef, undef, undef, undef, undef, undef, undef, undef, undef, undef, undef, undef, undef, undef, undef, undef, undef], defers := [] }) (by kernel_rfl) (by kernel_rfl) (by kernel_rfl) (Since.refl _) ?_ (fun vals => by kernel_rfl) ?_ ?_
        case refine_1 =>
          intro j x x' v h1 h2
          match j, h2 with
          | 0, h2 | 1, h2 | 2, h2 | 3, h2 | 4, h2 | 5, h2 => exact h2
          | n + 6, _ => trivial
        case refine_2 =>
          repeat (first | exact eachDoes_nil | refine eachDoes_cons ?_ ?_)
          all_goals intro vals x hx hv
          all_goals simp [Region.binds] at hv
          · simp [does, doesUpon, go_sem, hv]
            refine (specSample ta ts tv td O x).mono ?_
            rw [samp_form _ _ _ _ _ _ hu]
            rintro _ x' ⟨rfl, h1⟩
            simp [h1, rttVal]
          · have e0 := (Below.cell hx (p := ⟨gl, k, none⟩) hgl).trans q0
            simp [does, doesUpon, go_sem, hv, e0, Since.refl]
          · simp [does, doesUpon, go_sem, hv, hlt, Since.refl]
          · simp [does, doesUpon, go_sem, Since.refl]
          · simp [does, doesUpon, go_sem, Since.refl]
          · have e0 := (B.since hx).cell 0
            have e1 := (B.since hx).cell 1
            have e2 := (B.since hx).cell 2
            have e3 := (B.since hx).cell 3
            simp at e0 e1 e2 e3
            simp [does, doesUpon, go_sem, e0, e1, e2, e3, Since.refl]
        case refine_3 =>
          intro vals x hx hv
          have h5 : vals 5 = _ := hv 5 (by decide)
          clear hv
          simp only [h5]
          have g2 : Since wr x := hx
          clear hu q0 hx h5
          replace L := L.since g2
          replace B := B.since g2
          replace R := R.since g2
          replace C := C.moved (g' := g) g2
          have b0 := B.cell 0
          have b1 := B.cell 1
          have b2 := B.cell 2
          have b3 := B.cell 3
          simp at b0 b1 b2 b3
          have f0 := B.fz 0
          have f1 := B.fz 1
          have f2 := B.fz 2
          have f3 := B.fz 3
          have Cy := C.put4 (b := w.heap.size + 1) (by omega) (by omega) (by omega) (.bool ua) (.int .i64 us) (.int .i64 uv) (.int .i64 ud)
          obtain ⟨y, hy, ty, By⟩ := stored4 B (.bool ua) (.int .i64 us) (.int .i64 uv) (.int .i64 ud)
          rw [hy] at Cy
          have Ly := L.touch ty (by omega)
          have Ry := R.touch ty (by omega)
          clear L B R C
          go_wp2_with (fail)
          clear b0 b1 b2 b3 f0 f1 f2 f3 hy
          go_roundw
          case rel => exact ⟨k + 1, ua, us, uv, ud, by omega, by go_num, Ly, Ry, By, Cy⟩
          case measure => simp [intOf]; omega
    · have hkn : k = nl := by omega
      subst hkn
      clear L c0 c1 c2 c3
      go_wp2_with (fail)
      refine (belowB 16 (by omega) _ C).mono ?_
      rintro _ w4 ⟨s, rfl, hs0, hs1, C4, u4⟩
      replace R := R.touch u4 (by omega)
      replace B := B.touch u4 (by omega)
      clear C u4
      by_cases hz0 : s = 0
      · subst hz0
        go_wp2_with (fail)
        refine (pickN w4.heap.size _ _ 3 [-1, 8, 9] rfl rfl (by omega) (by omega) w4 rfl C4).mono ?_
        rintro _ w5 ⟨q, rfl, _, C5, u5⟩
        replace R := R.touch u5 (by omega)
        replace B := B.touch u5 (by omega)
        clear C4 u5
        have z0 := B.cell 3
        have z1 := B.fz 3
        simp at z0
        replace B := B.put 3 (.int .i64 q) (by simp)
        replace C5 := C5.putN (b := w.heap.size + 1) (by omega) (by omega) (by omega) 3 (.int .i64 q)
        replace R := R.other (a := w.heap.size + 1) (by omega) 3 (.int .i64 q)
        have d0 := B.cell 0
        have d1 := B.cell 1
        have d2 := B.cell 2
        have d3 := B.cell 3
        have r0 := R.cell 0
        have r1 := R.cell 1
        have r2 := R.cell 2
        have r3 := R.cell 3
        simp at d0 d1 d2 d3 r0 r1 r2 r3
        have f0 := R.fz 0
        have f1 := R.fz 1
        have f2 := R.fz 2
        have f3 := R.fz 3
        have Cz := C5.put4 (b := w.heap.size) (by omega) (by omega) (by omega) (.bool ta) (.int .i64 ts) (.int .i64 tv) (.int .i64 q)
        have Bz := (((R.put 0 (.bool ta) (by simp)).put 1 (.int .i64 ts) (by simp)).put 2 (.int .i64 tv) (by simp)).put 3 (.int .i64 q) (by simp)
        clear C5 R B
        go_wp2_with (fail)
        have b0 := Bz.cell 0
        have b1 := Bz.cell 1
        have b2 := Bz.cell 2
        have b3 := Bz.cell 3
        simp at b0 b1 b2 b3
        refine bodyPost_ret (v := .agg #[.bool ta, .int .i64 ts, .int .i64 tv, .int .i64 q]) ?_ rfl ⟨ta, ts, tv, q, rfl, Cz⟩
        simp [results, go_sem, b0, b1, b2, b3]
      have e0 : (s == 0) = false := by simpa using hz0
      by_cases hz1 : s = 1
      · subst hz1
        go_wp2_with (fail)
        refine (pickN w4.heap.size _ _ 3 [-1, 800000, 800001] rfl rfl (by omega) (by omega) w4 rfl C4).mono ?_
        rintro _ w5 ⟨q, rfl, _, C5, u5⟩
        replace R := R.touch u5 (by omega)
        replace B := B.touch u5 (by omega)
        clear C4 u5
        have z0 := B.cell 1
        have z1 := B.fz 1
        simp at z0
        replace B := B.put 1 (.int .i64 q) (by simp)
        replace C5 := C5.putN (b := w.heap.size + 1) (by omega) (by omega) (by omega) 1 (.int .i64 q)
        replace R := R.other (a := w.heap.size + 1) (by omega) 1 (.int .i64 q)
        have d0 := B.cell 0
        have d1 := B.cell 1
        have d2 := B.cell 2
        have d3 := B.cell 3
        have r0 := R.cell 0
        have r1 := R.cell 1
        have r2 := R.cell 2
        have r3 := R.cell 3
        simp at d0 d1 d2 d3 r0 r1 r2 r3
        have f0 := R.fz 0
        have f1 := R.fz 1
        have f2 := R.fz 2
        have f3 := R.fz 3
        have Cz := C5.put4 (b := w.heap.size) (by omega) (by omega) (by omega) (.bool ta) (.int .i64 q) (.int .i64 tv) (.int .i64 td)
        have Bz := (((R.put 0 (.bool ta) (by simp)).put 1 (.int .i64 q) (by simp)).put 2 (.int .i64 tv) (by simp)).put 3 (.int .i64 td) (by simp)
        clear C5 R B
        go_wp2_with (fail)
        have b0 := Bz.cell 0
        have b1 := Bz.cell 1
        have b2 := Bz.cell 2
        have b3 := Bz.cell 3
        simp at b0 b1 b2 b3
        refine bodyPost_ret (v := .agg #[.bool ta, .int .i64 q, .int .i64 tv, .int .i64 td]) ?_ rfl ⟨ta, q, tv, td, rfl, Cz⟩
        simp [results, go_sem, b0, b1, b2, b3]
      have e1 : (s == 1) = false := by simpa using hz1
      by_cases hz2 : s = 2
      · subst hz2
        go_wp2_with (fail)
        refine (pickN w4.heap.size _ _ 3 [-1, 400000, 400001] rfl rfl (by omega) (by omega) w4 rfl C4).mono ?_
        rintro _ w5 ⟨q, rfl, _, C5, u5⟩
        replace R := R.touch u5 (by omega)
        replace B := B.touch u5 (by omega)
        clear C4 u5
        have z0 := B.cell 2
        have z1 := B.fz 2
        simp at z0
        replace B := B.put 2 (.int .i64 q) (by simp)
        replace C5 := C5.putN (b := w.heap.size + 1) (by omega) (by omega) (by omega) 2 (.int .i64 q)
        replace R := R.other (a := w.heap.size + 1) (by omega) 2 (.int .i64 q)
        have d0 := B.cell 0
        have d1 := B.cell 1
        have d2 := B.cell 2
        have d3 := B.cell 3
        have r0 := R.cell 0
        have r1 := R.cell 1
        have r2 := R.cell 2
        have r3 := R.cell 3
        simp at d0 d1 d2 d3 r0 r1 r2 r3
        have f0 := R.fz 0
        have f1 := R.fz 1
        have f2 := R.fz 2
        have f3 := R.fz 3
        have Cz := C5.put4 (b := w.heap.size) (by omega) (by omega) (by omega) (.bool ta) (.int .i64 ts) (.int .i64 q) (.int .i64 td)
        have Bz := (((R.put 0 (.bool ta) (by simp)).put 1 (.int .i64 ts) (by simp)).put 2 (.int .i64 q) (by simp)).put 3 (.int .i64 td) (by simp)
        clear C5 R B
        go_wp2_with (fail)
        have b0 := Bz.cell 0
        have b1 := Bz.cell 1
        have b2 := Bz.cell 2
        have b3 := Bz.cell 3
        simp at b0 b1 b2 b3
        refine bodyPost_ret (v := .agg #[.bool ta, .int .i64 ts, .int .i64 q, .int .i64 td]) ?_ rfl ⟨ta, ts, q, td, rfl, Cz⟩
        simp [results, go_sem, b0, b1, b2, b3]
      have e2 : (s == 2) = false := by simpa using hz2
      by_cases hz3 : s = 3
      · subst hz3
        have z0 := B.cell 0
        have z1 := B.fz 0
        simp at z0
        replace B := B.put 0 (.bool (!ta)) (by simp)
        replace C4 := C4.putN (b := w.heap.size + 1) (by omega) (by omega) (by omega) 0 (.bool (!ta))
        replace R := R.other (a := w.heap.size + 1) (by omega) 0 (.bool (!ta))
        have d0 := B.cell 0
        have d1 := B.cell 1
        have d2 := B.cell 2
        have d3 := B.cell 3
        have r0 := R.cell 0
        have r1 := R.cell 1
        have r2 := R.cell 2
        have r3 := R.cell 3
        simp at d0 d1 d2 d3 r0 r1 r2 r3
        have f0 := R.fz 0
        have f1 := R.fz 1
        have f2 := R.fz 2
        have f3 := R.fz 3
        have Cz := C4.put4 (b := w.heap.size) (by omega) (by omega) (by omega) (.bool (!ta)) (.int .i64 ts) (.int .i64 tv) (.int .i64 td)
        have Bz := (((R.put 0 (.bool (!ta)) (by simp)).put 1 (.int .i64 ts) (by simp)).put 2 (.int .i64 tv) (by simp)).put 3 (.int .i64 td) (by simp)
        clear C4 R B
        go_wp2_with (fail)
        have b0 := Bz.cell 0
        have b1 := Bz.cell 1
        have b2 := Bz.cell 2
        have b3 := Bz.cell 3
        simp at b0 b1 b2 b3
        refine bodyPost_ret (v := .agg #[.bool (!ta), .int .i64 ts, .int .i64 tv, .int .i64 td]) ?_ rfl ⟨(!ta), ts, tv, td, rfl, Cz⟩
        simp [results, go_sem, b0, b1, b2, b3]
      have e3 : (s == 3) = false := by simpa using hz3
      have d0 := B.cell 0
      have d1 := B.cell 1
      have d2 := B.cell 2
      have d3 := B.cell 3
      have r0 := R.cell 0
      have r1 := R.cell 1
      have r2 := R.cell 2
      have r3 := R.cell 3
      simp at d0 d1 d2 d3 r0 r1 r2 r3
      have f0 := R.fz 0
      have f1 := R.fz 1
      have f2 := R.fz 2
      have f3 := R.fz 3
      have Cz := C4.put4 (b := w.heap.size) (by omega) (by omega) (by omega) (.bool ta) (.int .i64 ts) (.int .i64 tv) (.int .i64 td)
      have Bz := (((R.put 0 (.bool ta) (by simp)).put 1 (.int .i64 ts) (by simp)).put 2 (.int .i64 tv) (by simp)).put 3 (.int .i64 td) (by simp)
      clear C4 R B
      go_wp2_with (fail)
      have b0 := Bz.cell 0
      have b1 := Bz.cell 1
      have b2 := Bz.cell 2
      have b3 := Bz.cell 3
      simp at b0 b1 b2 b3
      refine bodyPost_ret (v := .agg #[.bool ta, .int .i64 ts, .int .i64 tv, .int .i64 td]) ?_ rfl ⟨ta, ts, tv, td, rfl, Cz⟩
      simp [results, go_sem, b0, b1, b2, b3]
end Go.Proofs.Ytppmanjeeffddaa
