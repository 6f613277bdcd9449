/-
  The walk of FnDatagram: for every code.
-/
import Derived.Test.YtfohognpcipmaaaDrawDg
import Derived.Test.YtfohognpcipmaaaBackFacts
import Derived.Test.YtfohognpcipmaaaCode
namespace Go.Proofs.Ytfohognpcipmaaa
open Go.ChangeShapes Go.WideShapes Go.ChangeAt Go.RowKit
set_option linter.unusedVariables false

theorem Rec8.put01 {b : Nat} {x : World} {c0 c1 c2 c3 c4 c5 c6 c7 : Value} (k : Rec8 b x c0 c1 c2 c3 c4 c5 c6 c7) (v0 v1 : Value) : Rec8 b ((x.setCell ⟨b, 0, none⟩ v0).setCell ⟨b, 1, none⟩ v1) v0 v1 c2 c3 c4 c5 c6 c7 := by
  refine ⟨by have := k.lt; simpa [World.setCell] using this, fun j => by simp [World.frozen?_setCell, k.fz j], ?_, ?_, ?_, ?_, ?_, ?_, ?_, ?_⟩
  all_goals simp [World.cell?_setCell_same', World.cell?_setCell_other, k.c0, k.c1, k.c2, k.c3, k.c4, k.c5, k.c6, k.c7]

theorem big_ (a : Option Addr) (len cap : Nat) (w : World) :
    Calls Try.prog 5 #[.slice a len cap] w fun e w' => e = .returned (.bool (decide ((1048576 : Int) < (len : Int)))) ∧ w = w' := by
  go_enter Try.func5, Try.ntmps5
  go_wp2
  go_ret
  exact ⟨rfl, rfl⟩

/-- What the law needs of a datagram that was put: it is read back, and so is what a hop makes of it. -/
theorem dg_back (sh sp dh dp id sq ak fl wn ms : Int) (d : ByteArray) (hs : IsWord sh) (hd : IsWord dh) (hsq : IsWord sq) (hak : IsWord ak) (h0 : (putDgram sh sp dh dp id sq ak fl wn ms d).size ≠ 0) :
    ∃ q : ByteArray, (∀ wx, Calls Try.prog 17 #[.string (putDgram sh sp dh dp id sq ak fl wn ms d)] wx fun e w' => e = .returned (.tuple #[.agg #[.int .u32 sh, .int .i64 sp], .agg #[.int .u32 dh, .int .i64 dp], .agg #[.int .i64 sp, .int .i64 dp, .int .u32 sq, .int .u32 ak, .int .i64 fl, .int .i64 wn, .int .i64 ms, .string d], .bool true]) ∧ Since wx w') ∧
      (∀ wx, Calls Try.prog 13 #[.string (putDgram sh sp dh dp id sq ak fl wn ms d)] wx fun e w' => e = .returned (.tuple #[.string q, .bool true]) ∧ Since wx w') ∧
      (∀ wx, Calls Try.prog 17 #[.string q] wx fun e w' => e = .returned (.tuple #[.agg #[.int .u32 sh, .int .i64 sp], .agg #[.int .u32 dh, .int .i64 dp], .agg #[.int .i64 sp, .int .i64 dp, .int .u32 sq, .int .u32 ak, .int .i64 fl, .int .i64 wn, .int .i64 ms, .string d], .bool true]) ∧ Since wx w') := by
  unfold putDgram at h0 ⊢
  by_cases ht : (putSeg sh dh sp dp sq ak fl wn ms d).size = 0
  · rw [if_pos ht] at h0
    exact absurd rfl h0
  rw [if_neg ht] at h0 ⊢
  have hok := putSeg_full _ _ _ _ _ _ _ _ _ _ ht
  have hpk := putOf_full _ _ _ _ _ _ h0
  simp only [pktOk, Bool.and_eq_true, decide_eq_true_eq] at hpk
  obtain ⟨hid, _, _, _⟩ := hpk
  obtain ⟨a1, a2, a3, a4, a5⟩ := dg_reads sh sp dh dp id 64 sq ak fl wn ms d hs hd hsq hak hok hid ⟨by omega, by omega⟩
  obtain ⟨b1, b2, b3, b4, b5⟩ := dg_reads sh sp dh dp id 63 sq ak fl wn ms d hs hd hsq hak hok hid ⟨by omega, by omega⟩
  refine ⟨putOf sh dh id 63 6 (putSeg sh dh sp dp sq ak fl wn ms d), fun wx => ?_, fun wx => ?_, fun wx => ?_⟩
  · have h := implGetDg (putOf sh dh id 64 6 (putSeg sh dh sp dp sq ak fl wn ms d)) (by omega) true (by simp [a1]) wx
    rw [show getDgVal true (putOf sh dh id 64 6 (putSeg sh dh sp dp sq ak fl wn ms d)) = dgGood (putOf sh dh id 64 6 (putSeg sh dh sp dp sq ak fl wn ms d)) from rfl, a2] at h
    exact h
  · have h := implHop (putOf sh dh id 64 6 (putSeg sh dh sp dp sq ak fl wn ms d)) true (by simp [a1.1]) wx
    rw [hopVal, if_pos ⟨rfl, by omega⟩, a4] at h
    exact h
  · have h := implGetDg (putOf sh dh id 63 6 (putSeg sh dh sp dp sq ak fl wn ms d)) (by omega) true (by simp [b1]) wx
    rw [show getDgVal true (putOf sh dh id 63 6 (putSeg sh dh sp dp sq ak fl wn ms d)) = dgGood (putOf sh dh id 63 6 (putSeg sh dh sp dp sq ak fl wn ms d)) from rfl, b2] at h
    exact h

set_option maxHeartbeats 4000000 in
theorem walkDg (a0 : Option Addr) (len0 cap0 : Nat) (z0 : List Int) (w : World) (hb : Bytes w a0 len0 z0) :
    Calls Try.prog 4 #[.slice a0 len0 cap0] w fun e w' => e = .returned (.bool true) ∧ Below w.heap.size w w' := by
  have hbig := fun wx => big_ a0 len0 cap0 wx
  by_cases hm : len0 ≤ 1048576
  case neg =>
    rw [show decide ((1048576 : Int) < (len0 : Int)) = true by simp; omega] at hbig
    clear hb
    go_enter Try.func4, Try.ntmps4
    go_wp2_with (go_at_call 5; refine (hbig _).mono ?_; rintro _ _ ⟨rfl, rfl⟩)
    go_ret
    exact ⟨rfl, Below.refl _ _⟩
  rw [show decide ((1048576 : Int) < (len0 : Int)) = false by simp; omega] at hbig
  have hdr := drawDg a0 len0 cap0 z0 w hb hm
  clear hb
  go_enter Try.func4, Try.ntmps4
  go_wp2_with (first | (go_at_call 5; refine (hbig _).mono ?_; rintro _ _ ⟨rfl, rfl⟩) | (go_at_call 14; refine hdr.mono ?_; clear hdr; rintro _ w1 ⟨sh, sp, dh, dp, id, fr, to, sq, ak, fl, wn, ms, d, rfl, ⟨hsh, hdh, hsq, hak, hfl⟩, g1⟩; unfold addrVal segVal))
  have hi := fun wx => implPutDg sh sp dh dp id fr to sq ak fl wn ms d hsh hdh hsq hak hfl wx
  have hs := fun wx => specPutDg sh sp dh dp id fr to sq ak fl wn ms d hsh hdh hsq hak hfl wx
  have hbk := dg_back sh sp dh dp id sq ak fl wn ms d hsh hdh hsq hak
  generalize putDgram sh sp dh dp id sq ak fl wn ms d = P at hi hs hbk
  unfold addrVal segVal at hi hs
  have H := held3 w1 sh sp dh dp fr to sq ak fl wn ms d
  have G := ((Since.trans (Since.refl w) g1).alloc (.cells #[.int .u32 sh, .int .i64 sp] 37)).alloc (.cells #[.int .u32 dh, .int .i64 dp] 37)
  replace G := G.alloc (.cells #[.int .i64 fr, .int .i64 to, .int .u32 sq, .int .u32 ak, .int .i64 fl, .int .i64 wn, .int .i64 ms, .string d] 39)
  have G1 := g1.le
  clear g1 hsh hdh hsq hak hfl
  by_cases h0 : P.size = 0
  · obtain rfl := text_empty P h0
    clear hbk h0
    refine (hi _).mono ?_
    rintro _ z1 ⟨rfl, g1⟩
    replace H := H.since g1
    obtain ⟨⟨r0, r1, r2, r3⟩, ⟨r4, r5, r6, r7⟩, r8, r9, ra, rb, rc, rd, re, rf, rg, rh⟩ := H
    go_wp2_with (go_at_call 16; refine (hs _).mono ?_; rintro _ z2 ⟨rfl, g2⟩)
    go_ret
    exact ⟨rfl, (G.trans g1).trans g2⟩
  obtain ⟨q, hg1, hh, hg2⟩ := hbk h0
  have htx := text_full P h0
  clear hbk h0
  refine (hi _).mono ?_
  rintro _ z1 ⟨rfl, g1⟩
  replace H := H.since g1
  replace G := G.trans g1
  have H2 := H
  obtain ⟨⟨r0, r1, r2, r3⟩, ⟨r4, r5, r6, r7⟩, r8, r9, ra, rb, rc, rd, re, rf, rg, rh⟩ := H2
  clear hi g1
  go_wp2_with (first | (go_at_call 16; refine (hs _).mono ?_; clear hs; rintro _ z2 ⟨rfl, g2⟩; replace H := H.since g2; replace G := G.trans g2) | (go_at_call 17; refine (hg1 _).mono ?_; clear hg1; rintro _ z3 ⟨rfl, g3⟩; replace H := H.since g3; replace G := G.trans g3; have H3 := H; obtain ⟨⟨u0, u1, u2, u3⟩, ⟨u4, u5, u6, u7⟩, u8, u9, ua, ub, uc, ud, ue, uf, ug, uh⟩ := H3; have HX := H.since ((((Since.refl z3).alloc (.cells #[.int .u32 sh, .int .i64 sp] 37)).alloc (.cells #[.int .u32 dh, .int .i64 dp] 37)).alloc (.cells #[.int .i64 sp, .int .i64 dp, .int .u32 sq, .int .u32 ak, .int .i64 fl, .int .i64 wn, .int .i64 ms, .string d] 39)); obtain ⟨⟨x0, x1, x2, x3⟩, ⟨x4, x5, x6, x7⟩, x8, x9, xa, xb, xc, xd, xe, xf, xg, xh⟩ := HX; have n1 : ¬ w1.heap.size = z3.heap.size := (Nat.ne_of_lt u0); have n2 : ¬ w1.heap.size + 1 = z3.heap.size := (Nat.ne_of_lt u4); have n3 : ¬ w1.heap.size + 1 + 1 = z3.heap.size := (Nat.ne_of_lt u8); have n4 : ¬ w1.heap.size + 1 + 1 = z3.heap.size + 1 := (by omega); have n5 : ¬ w1.heap.size + 1 + 1 = z3.heap.size + 1 + 1 := (by omega)))
  have HY : Held3 w1.heap.size ((z3.setCell ⟨w1.heap.size + 1 + 1, 0, none⟩ (.int .i64 sp)).setCell ⟨w1.heap.size + 1 + 1, 1, none⟩ (.int .i64 dp)) sh sp dh dp sp dp sq ak fl wn ms d := ⟨(H.1.other (by omega) 0 _).other (by omega) 1 _, (H.2.1.other (by omega) 0 _).other (by omega) 1 _, H.2.2.put01 _ _⟩
  have hw1 := G1
  have GY := since_put (since_put G (b := w1.heap.size + 1 + 1) (by omega) 0 (.int .i64 sp)) (b := w1.heap.size + 1 + 1) (by omega) 1 (.int .i64 dp)
  have ey : ((z3.setCell ⟨w1.heap.size + 1 + 1, 0, none⟩ (.int .i64 sp)).setCell ⟨w1.heap.size + 1 + 1, 1, none⟩ (.int .i64 dp)).heap.size = z3.heap.size := by simp [World.setCell]
  generalize (z3.setCell ⟨w1.heap.size + 1 + 1, 0, none⟩ (.int .i64 sp)).setCell ⟨w1.heap.size + 1 + 1, 1, none⟩ (.int .i64 dp) = y at HY GY ey ⊢
  have I := held3 y sh sp dh dp sp dp sq ak fl wn ms d
  rw [ey] at I
  replace HY := HY.since ((((Since.refl y).alloc (.cells #[.int .u32 sh, .int .i64 sp] 37)).alloc (.cells #[.int .u32 dh, .int .i64 dp] 37)).alloc (.cells #[.int .i64 sp, .int .i64 dp, .int .u32 sq, .int .u32 ak, .int .i64 fl, .int .i64 wn, .int .i64 ms, .string d] 39))
  replace GY := ((GY.alloc (.cells #[.int .u32 sh, .int .i64 sp] 37)).alloc (.cells #[.int .u32 dh, .int .i64 dp] 37)).alloc (.cells #[.int .i64 sp, .int .i64 dp, .int .u32 sq, .int .u32 ak, .int .i64 fl, .int .i64 wn, .int .i64 ms, .string d] 39)
  generalize (((y).alloc (.cells #[.int .u32 sh, .int .i64 sp] 37)).alloc (.cells #[.int .u32 dh, .int .i64 dp] 37)).alloc (.cells #[.int .i64 sp, .int .i64 dp, .int .u32 sq, .int .u32 ak, .int .i64 fl, .int .i64 wn, .int .i64 ms, .string d] 39) = u at HY GY I ⊢
  clear H G ey n1 n2 n3 n4 n5
  refine (hh _).mono ?_
  rintro _ z4 ⟨rfl, g4⟩
  replace HY := HY.since g4
  replace I := I.since g4
  replace GY := GY.trans g4
  clear hh
  go_wp2_with (go_at_call 17; refine (hg2 _).mono ?_; rintro _ z5 ⟨rfl, g5⟩; replace HY := (HY.since g5).since ((((Since.refl z5).alloc (.cells #[.int .u32 sh, .int .i64 sp] 37)).alloc (.cells #[.int .u32 dh, .int .i64 dp] 37)).alloc (.cells #[.int .i64 sp, .int .i64 dp, .int .u32 sq, .int .u32 ak, .int .i64 fl, .int .i64 wn, .int .i64 ms, .string d] 39)); replace I := (I.since g5).since ((((Since.refl z5).alloc (.cells #[.int .u32 sh, .int .i64 sp] 37)).alloc (.cells #[.int .u32 dh, .int .i64 dp] 37)).alloc (.cells #[.int .i64 sp, .int .i64 dp, .int .u32 sq, .int .u32 ak, .int .i64 fl, .int .i64 wn, .int .i64 ms, .string d] 39)); replace GY := (((GY.trans g5).alloc (.cells #[.int .u32 sh, .int .i64 sp] 37)).alloc (.cells #[.int .u32 dh, .int .i64 dp] 37)).alloc (.cells #[.int .i64 sp, .int .i64 dp, .int .u32 sq, .int .u32 ak, .int .i64 fl, .int .i64 wn, .int .i64 ms, .string d] 39); obtain ⟨⟨e0, e1, e2, e3⟩, ⟨e4, e5, e6, e7⟩, e8, e9, ea, eb, ec, ed, ee, ef, eg, eh⟩ := HY; obtain ⟨⟨j0, j1, j2, j3⟩, ⟨j4, j5, j6, j7⟩, j8, j9, ja, jb, jc, jd, je, jf, jg, jh⟩ := I)
  go_ret
  exact ⟨rfl, GY⟩
end Go.Proofs.Ytfohognpcipmaaa
