/-
  The walk of FnWait.
-/
import Derived.Test.YtppmanjeeffddaaDrawWait
import Derived.Test.YtppmanjeeffddaaRttFacts
import Derived.Deep.QuietTactic
namespace Go.Proofs.Ytppmanjeeffddaa
open Go.ChangeShapes Go.WideShapes Go.ChangeAt Go.RowKit Go.Deep
set_option linter.unusedVariables false

theorem big8 (a : Option Addr) (len cap : Nat) (w : World) :
    Calls Try.prog 9 #[.slice a len cap] w fun e w' => e = .returned (.bool (decide ((1048576 : Int) < (len : Int)))) ∧ w = w' := by
  go_enter Try.func9, Try.ntmps9
  go_wp2
  go_ret
  exact ⟨by simp, rfl⟩

set_option maxHeartbeats 4000000 in
set_option maxRecDepth 20000 in
theorem walkWait (a0 : Option Addr) (len0 cap0 : Nat) (z0 : List Int) (w : World) (hb : Bytes w a0 len0 z0) :
    Calls Try.prog 3 #[.slice a0 len0 cap0] w fun e w' => e = .returned (.bool true) ∧ Below w.heap.size w w' := by
  have hbig := fun wx => big8 a0 len0 cap0 wx
  by_cases hm : ¬ len0 ≤ 1048576
  · rw [show decide ((1048576 : Int) < (len0 : Int)) = true by simp; omega] at hbig
    clear hb
    go_enter Try.func3, Try.ntmps3
    go_wp2_with (go_at_call 9; refine (hbig _).mono ?_; rintro _ _ ⟨rfl, rfl⟩)
    go_ret
    exact ⟨rfl, Since.refl _⟩
  replace hm := Decidable.not_not.1 hm
  rw [show decide ((1048576 : Int) < (len0 : Int)) = false by simp; omega] at hbig
  go_enter Try.func3, Try.ntmps3
  go_wp2_with (go_at_call 9; refine (hbig _).mono ?_; rintro _ _ ⟨rfl, rfl⟩)
  clear hbig
  refine (drawRun8 a0 len0 cap0 z0 w hb hm).mono ?_
  rintro _ w1 ⟨gl, n, cl, ns, rfl, hn, L, k1⟩
  obtain ⟨m, rs, hr⟩ := runsTo n ns
  have hmn := hr.le
  have hlen : ns.length = n := L.1
  have hbd := hr.bounds hlen
  have hdb := hr.doubles hlen
  replace hr : Hid _ := hr
  replace hbd : Hid _ := hbd
  replace hdb : Hid _ := hdb
  replace hb : Hid _ := hb
  clear hlen
  go_wp2_with (fail)
  refine (implRunR _ n cl ns m rs hr (by omega) _ L.reads).mono ?_
  rintro _ w2 ⟨gg, cg, rfl, P, k2⟩
  replace L := L.since k2
  go_wp2_with (fail)
  refine (specRunR _ n cl ns m rs hr (by omega) _ L.reads).mono ?_
  rintro _ w3 ⟨gw, cw, rfl, Q, k3⟩
  replace L := L.since k3
  replace P := P.since k3
  have G := (k1.trans k2).trans k3
  clear k1 k2 k3
  go_wp2_with (fail)
  go_loopw [6] (fun i wr => ∃ (k : Nat), k ≤ m ∧ i = .int .i64 k ∧ Held shI wr w.heap.size gl n cl ns ∧ Held shI wr w1.heap.size gg m cg rs ∧ Held shI wr w2.heap.size gw m cw rs ∧ Since w wr) (fun i _ => m - (intOf i).toNat)
  case atStart => exact ⟨0, by omega, rfl, L, P, Q, G⟩
  case round =>
    clear L P Q G
    obtain ⟨k, hk, rfl, L, P, Q, G⟩ := hrel
    by_cases hlt : k < m
    · have hlt' : (k : Int) < (m : Int) := by omega
      have hltn : (k : Int) < (n : Int) := by omega
      have p0 := P.num k hlt
      have q0 := Q.num k hlt
      have l0 := L.num k (by omega)
      obtain ⟨x0, x1⟩ := hbd.out k hlt
      by_cases hk0 : k = 0
      · subst hk0
        generalize iAt rs 0 = x at p0 q0 x0 x1
        generalize iAt ns 0 = y at l0
        have e1 : ¬ x < 2 := by omega
        have e2 : ¬ 600 < x := by omega
        clear hbd hdb
        go_wp2_with (fail)
        go_quiet (fail)
        go_wp2_with (fail)
        go_quiet (fail)
        go_wp2_with (fail)
        go_roundw
        case rel => exact ⟨0 + 1, by omega, by go_num, L.since (since_drews (Since.refl _) _), P.since (since_drews (Since.refl _) _), Q.since (since_drews (Since.refl _) _), since_drews G _⟩
        case measure => simp [intOf]; omega
      · obtain ⟨j, hj⟩ : ∃ j, j + 1 = k := ⟨k - 1, by omega⟩
        have hwj : IntKind.i64.wrap ((k : Int) - 1) = (j : Int) := by rw [IntWalk.i64_left, IntWalk.wrap64_in _ ⟨by omega, by omega⟩]; omega
        have hltk : (j : Int) < (m : Int) := by omega
        have p1 := P.num j (by omega)
        obtain ⟨v0, v1⟩ := hbd.out j (by omega)
        have hd := hdb.out j (by omega)
        rw [hj] at hd
        clear hj
        generalize iAt rs k = x at p0 q0 x0 x1 hd
        generalize iAt rs j = v at p1 v0 v1 hd
        generalize iAt ns k = y at l0 hd
        have e1 : ¬ x < 2 := by omega
        have e2 : ¬ 600 < x := by omega
        have e3 : (0 : Int) < (k : Int) := by omega
        have e3n : 0 < k := by omega
        have e3d : decide ((0 : Int) < (k : Int)) = true := by simp; omega
        have e3e : decide (0 < k) = true := by simp; omega
        obtain ⟨dv, hdv⟩ : ∃ dv, dv = 2 * v := ⟨_, rfl⟩
        rw [← hdv] at hd
        have e4 : IntKind.i64.wrap (2 * v) = dv := by rw [hdv, IntWalk.i64_left, IntWalk.wrap64_in _ ⟨by omega, by omega⟩]
        replace hdv : Hid _ := hdv
        clear hbd hdb
        by_cases hy : y < 0
        · by_cases c1 : x = dv
          · subst c1
            clear hd
            go_wp2_with (fail)
            go_quiet (fail)
            go_wp2_with (fail)
            go_quiet (fail)
            go_wp2_with (fail)
            go_roundw
            case rel => exact ⟨k + 1, by omega, by go_num, L.since (since_drews (Since.refl _) _), P.since (since_drews (Since.refl _) _), Q.since (since_drews (Since.refl _) _), since_drews G _⟩
            case measure => simp [intOf]; omega
          · have n1 : (x == dv) = false := by simpa using c1
            by_cases c2 : x = 600
            · subst c2
              clear hd
              have m1 : ¬ 600 = dv := c1
              have m2 : ¬ dv = 600 := fun e => c1 e.symm
              have m3 : (dv == 600) = false := by simpa using m2
              have m4 : (600 != dv) = true := by simpa using m1
              have m5 : decide (600 = dv) = false := by simpa using m1
              go_wp2_with (fail)
              go_quiet (fail)
              go_wp2_with (fail)
              go_quiet (fail)
              go_wp2_with (fail)
              go_roundw
              case rel => exact ⟨k + 1, by omega, by go_num, L.since (since_drews (Since.refl _) _), P.since (since_drews (Since.refl _) _), Q.since (since_drews (Since.refl _) _), since_drews G _⟩
              case measure => simp [intOf]; omega
            · have n2 : (x == 600) = false := by simpa using c2
              have c3 : x = v := by have := hd hy; have := hdv.out; omega
              subst c3
              clear hd
              go_wp2_with (fail)
              go_quiet (fail)
              go_wp2_with (fail)
              go_quiet (fail)
              go_wp2_with (fail)
              go_roundw
              case rel => exact ⟨k + 1, by omega, by go_num, L.since (since_drews (Since.refl _) _), P.since (since_drews (Since.refl _) _), Q.since (since_drews (Since.refl _) _), since_drews G _⟩
              case measure => simp [intOf]; omega
        · clear hd
          have hy' : 0 ≤ y := by omega
          have hyd : decide (y < 0) = false := by simpa using hy
          go_wp2_with (fail)
          go_quiet (fail)
          go_wp2_with (fail)
          go_quiet (fail)
          go_wp2_with (fail)
          go_roundw
          case rel => exact ⟨k + 1, by omega, by go_num, L.since (since_drews (Since.refl _) _), P.since (since_drews (Since.refl _) _), Q.since (since_drews (Since.refl _) _), since_drews G _⟩
          case measure => simp [intOf]; omega
    · have hkm : k = m := by omega
      subst hkm
      clear L P Q hbd hdb hr
      go_wp2_with (fail)
      refine (drawSample8 a0 len0 cap0 z0 w wr hb.out G hm).mono ?_
      rintro _ w5 ⟨xa, xs, xv, xd, r, rfl, G5⟩
      clear hb G
      obtain ⟨⟨ua, us, uv, ud⟩, hu⟩ : ∃ u, sampV xa xs xv xd r = u := ⟨_, rfl⟩
      obtain ⟨⟨ya, ys, yv, yd⟩, hy⟩ : ∃ u, backV xa xs xv xd = u := ⟨_, rfl⟩
      have ou := samp_ok _ _ _ _ _ _ hu
      have oy := back_ok _ _ _ _ _ hy
      have hA := fun wx => implSample xa xs xv xd r wx
      rw [samp_form _ _ _ _ _ _ hu] at hA
      have hB := fun wx => implBack xa xs xv xd wx
      rw [back_form _ _ _ _ _ hy] at hB
      have hC := fun wx => implRttOk ua us uv ud wx
      rw [ou] at hC
      have hD := fun wx => implRttOk ya ys yv yd wx
      rw [oy] at hD
      clear hu hy ou oy
      unfold rttVal at hA hB hC hD ⊢
      have X := Blk.new w5 #[.bool xa, .int .i64 xs, .int .i64 xv, .int .i64 xd] 28
      replace G5 := G5.alloc (.cells #[.bool xa, .int .i64 xs, .int .i64 xv, .int .i64 xd] 28)
      go_wp2_with (fail)
      refine (hA _).mono ?_
      rintro _ w6 ⟨rfl, g6⟩
      replace X := X.since g6
      replace G5 := G5.trans g6
      clear hA
      go_wp2_with (fail)
      refine (hC _).mono ?_
      rintro _ w7 ⟨rfl, g7⟩
      replace g7 : Since w6 w7 := by rw [g7]; exact (Since.refl _).alloc _
      replace X := X.since g7
      replace G5 := G5.trans g7
      have x0 := X.cell 0
      have x1 := X.cell 1
      have x2 := X.cell 2
      have x3 := X.cell 3
      simp at x0 x1 x2 x3
      clear hC
      go_wp2_with (fail)
      refine (hB _).mono ?_
      rintro _ w8 ⟨rfl, g8⟩
      replace G5 := G5.trans g8
      clear hB
      go_wp2_with (fail)
      refine (hD _).mono ?_
      rintro _ w9 ⟨rfl, g9⟩
      replace g9 : Since w8 w9 := by rw [g9]; exact (Since.refl _).alloc _
      replace G5 := G5.trans g9
      go_wp2_with (fail)
      go_ret
      exact ⟨rfl, G5⟩
end Go.Proofs.Ytppmanjeeffddaa
