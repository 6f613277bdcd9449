/-
  A turn of a pipe, as spec makes it.
-/
import Derived.Test.YtipaaddjpmlajaaGreatMv13
import Derived.Deep.DeepCutAuto
namespace Go.Proofs.YtipaaddjpmlajaaGreat
open Go.ChangeShapes Go.WideShapes Go.ChangeAt Go.RowKit
set_option linter.unusedVariables false
set_option maxRecDepth 10000

set_option maxRecDepth 20000 in
set_option maxHeartbeats 16000000 in
theorem specMove (r : Int) (d : ByteArray) (e : Bool) (n : Int) (F : Cn) (ps : List (Int × ByteArray)) (T : Cn) (qs : List (Int × ByteArray)) (gF : GoodC F ps) (gT : GoodC T qs) (hd : d.size ≤ 1048576) (q p q2 p2 : Nat) (w : World) (R : Rd shP w (some ⟨q, 0, none⟩) F.pn ps) (R2 : Rd shP w (some ⟨q2, 0, none⟩) T.pn qs) :
    Calls Tryz.prog 7 #[.agg #[.int .i64 r, .string d, .bool e, .int .i64 n], .agg (cnCells { F with pa := some ⟨q, 0, none⟩, pc := p }), .agg (cnCells { T with pa := some ⟨q2, 0, none⟩, pc := p2 })] w fun x w' => ∃ g cp g2 cp2, x = .returned (.tuple #[.agg #[.int .i64 r, .string (mvD r d n F ps T qs), .bool (mvE r d e n F ps T qs), .int .i64 (mvN r d n F ps T qs)], .agg (cnCells { mvF r d n F ps T qs with pa := some ⟨g, 0, none⟩, pc := cp }), .agg (cnCells { mvT r d e n F ps T qs with pa := some ⟨g2, 0, none⟩, pc := cp2 })]) ∧ Held shP w' w.heap.size g F.pn cp ps ∧ Held shP w' w.heap.size g2 T.pn cp2 qs ∧ g ≠ g2 ∧ Since w w' := by
  obtain ⟨xD, hxD⟩ : ∃ x, Hid (x = mvD r d n F ps T qs) := ⟨_, rfl⟩
  obtain ⟨xE, hxE⟩ : ∃ x, Hid (x = mvE r d e n F ps T qs) := ⟨_, rfl⟩
  obtain ⟨xN, hxN⟩ : ∃ x, Hid (x = mvN r d n F ps T qs) := ⟨_, rfl⟩
  obtain ⟨xF, hxF⟩ : ∃ x, Hid (x = mvF r d n F ps T qs) := ⟨_, rfl⟩
  obtain ⟨xT, hxT⟩ : ∃ x, Hid (x = mvT r d e n F ps T qs) := ⟨_, rfl⟩
  rw [← hxD.out, ← hxE.out, ← hxN.out, ← hxF.out, ← hxT.out]
  obtain ⟨b1, hb1⟩ : ∃ b, Hid (b = pipeOk r d n) := ⟨_, rfl⟩
  obtain ⟨b2, hb2⟩ : ∃ b, Hid (b = connOk F ps) := ⟨_, rfl⟩
  obtain ⟨b3, hb3⟩ : ∃ b, Hid (b = connOk T qs) := ⟨_, rfl⟩
  have hk1 := fun wx => specPipeOk r d e n wx
  unfold ppVal at hk1
  rw [← hb1.out] at hk1
  have hk2 := fun g cp wx Rx => specOkAt F ps gF g cp wx Rx
  rw [← hb2.out] at hk2
  have hk3 := fun g cp wx Rx => specOkAt T qs gT g cp wx Rx
  rw [← hb3.out] at hk3
  have hcF := fun wx Rx => sCopy gF q p wx Rx
  have hcT := fun wx Rx => sCopy gT q2 p2 wx Rx
  have G := Since.refl w
  go_enter Tryz.func7, Tryz.ntmps7
  go_upto_region 0 with (fail)
  refine vR ?_
  refine vW (w.alloc (.cells #[.int .i64 r, .string d, .bool e, .int .i64 n] 38)) (.pointer (some ⟨w.heap.size, 0, none⟩)) ?_
  have qB2 := Blk.new w #[.int .i64 r, .string d, .bool e, .int .i64 n] 38
  have qg3 := (Since.refl w).alloc (.cells #[.int .i64 r, .string d, .bool e, .int .i64 n] 38)
  replace G := G.trans qg3
  generalize w.alloc (.cells #[.int .i64 r, .string d, .bool e, .int .i64 n] 38) = qw1 at  G qB2 qg3 ⊢
  have qB2_l := qB2.lt
  have qg3_s := qg3.size
  refine vW (qw1.alloc (.cells (cnCells { F with pa := some ⟨q, 0, none⟩, pc := p }) 46)) (.pointer (some ⟨qw1.heap.size, 0, none⟩)) ?_
  have qB5 := Blk.new qw1 (cnCells { F with pa := some ⟨q, 0, none⟩, pc := p }) 46
  have qg6 := (Since.refl qw1).alloc (.cells (cnCells { F with pa := some ⟨q, 0, none⟩, pc := p }) 46)
  replace qB2 := qB2.since qg6
  replace G := G.trans qg6
  generalize qw1.alloc (.cells (cnCells { F with pa := some ⟨q, 0, none⟩, pc := p }) 46) = qw4 at qB2 G qB5 qg6 ⊢
  have qB5_l := qB5.lt
  have qg6_s := qg6.size
  refine vW (qw4.alloc (.cells (cnCells { T with pa := some ⟨q2, 0, none⟩, pc := p2 }) 46)) (.pointer (some ⟨qw4.heap.size, 0, none⟩)) ?_
  have qB8 := Blk.new qw4 (cnCells { T with pa := some ⟨q2, 0, none⟩, pc := p2 }) 46
  have qg9 := (Since.refl qw4).alloc (.cells (cnCells { T with pa := some ⟨q2, 0, none⟩, pc := p2 }) 46)
  replace qB2 := qB2.since qg9
  replace qB5 := qB5.since qg9
  replace G := G.trans qg9
  generalize qw4.alloc (.cells (cnCells { T with pa := some ⟨q2, 0, none⟩, pc := p2 }) 46) = qw7 at qB2 qB5 G qB8 qg9 ⊢
  have qB8_l := qB8.lt
  have qg9_s := qg9.size
  refine vW (qw7.alloc (.cells #[.int .i64 0, .string ByteArray.empty, .bool false, .int .i64 0] 38)) (.pointer (some ⟨qw7.heap.size, 0, none⟩)) ?_
  have qB11 := Blk.new qw7 #[.int .i64 0, .string ByteArray.empty, .bool false, .int .i64 0] 38
  have qg12 := (Since.refl qw7).alloc (.cells #[.int .i64 0, .string ByteArray.empty, .bool false, .int .i64 0] 38)
  replace qB2 := qB2.since qg12
  replace qB5 := qB5.since qg12
  replace qB8 := qB8.since qg12
  replace G := G.trans qg12
  generalize qw7.alloc (.cells #[.int .i64 0, .string ByteArray.empty, .bool false, .int .i64 0] 38) = qw10 at qB2 qB5 qB8 G qB11 qg12 ⊢
  have qB11_l := qB11.lt
  have qg12_s := qg12.size
  refine vW (qw10.alloc (.cells (cnCells cnZero) 46)) (.pointer (some ⟨qw10.heap.size, 0, none⟩)) ?_
  have qB14 := Blk.new qw10 (cnCells cnZero) 46
  have qg15 := (Since.refl qw10).alloc (.cells (cnCells cnZero) 46)
  replace qB2 := qB2.since qg15
  replace qB5 := qB5.since qg15
  replace qB8 := qB8.since qg15
  replace qB11 := qB11.since qg15
  replace G := G.trans qg15
  generalize qw10.alloc (.cells (cnCells cnZero) 46) = qw13 at qB2 qB5 qB8 qB11 G qB14 qg15 ⊢
  have qB14_l := qB14.lt
  have qg15_s := qg15.size
  refine vW (qw13.alloc (.cells (cnCells cnZero) 46)) (.pointer (some ⟨qw13.heap.size, 0, none⟩)) ?_
  have qB17 := Blk.new qw13 (cnCells cnZero) 46
  have qg18 := (Since.refl qw13).alloc (.cells (cnCells cnZero) 46)
  replace qB2 := qB2.since qg18
  replace qB5 := qB5.since qg18
  replace qB8 := qB8.since qg18
  replace qB11 := qB11.since qg18
  replace qB14 := qB14.since qg18
  replace G := G.trans qg18
  generalize qw13.alloc (.cells (cnCells cnZero) 46) = qw16 at qB2 qB5 qB8 qB11 qB14 G qB17 qg18 ⊢
  have qB17_l := qB17.lt
  have qg18_s := qg18.size
  refine vE #[.agg #[.int .i64 r, .string d, .bool e, .int .i64 n], .agg (cnCells { F with pa := some ⟨q, 0, none⟩, pc := p }), .agg (cnCells { T with pa := some ⟨q2, 0, none⟩, pc := p2 }), .pointer (some ⟨w.heap.size, 0, none⟩), .pointer (some ⟨qw1.heap.size, 0, none⟩), .pointer (some ⟨qw4.heap.size, 0, none⟩), .pointer (some ⟨qw7.heap.size, 0, none⟩), .pointer (some ⟨qw10.heap.size, 0, none⟩), .pointer (some ⟨qw13.heap.size, 0, none⟩), undef, undef, undef, undef, undef, undef, undef, undef, undef, undef, undef, undef, undef, undef, undef, undef, undef, undef, undef, undef, undef, undef, undef, undef, undef, undef, undef, undef, undef, undef, undef, undef, undef, undef, undef, undef, undef, undef, undef, undef, undef, undef, undef, undef, undef, undef, undef, undef, undef, undef, undef, undef, undef, undef, undef, undef, undef, undef, undef, undef, undef, undef, undef, undef, undef, undef, undef, undef, undef, undef, undef, undef, undef, undef, undef, undef, undef, undef, undef] ?_
  go_upto_region 1 with (fail)
  refine vR ?_
  refine vB cn_big qB5 (cn_size _) ?_
  refine vC (hcF _ (R.since G)) ?_
  rintro _ qw19 ⟨g, cp, rfl, H, qg20⟩
  refine ⟨_, rfl, ?_⟩
  replace qB2 := qB2.since qg20
  replace qB5 := qB5.since qg20
  replace qB8 := qB8.since qg20
  replace qB11 := qB11.since qg20
  replace qB14 := qB14.since qg20
  replace qB17 := qB17.since qg20
  replace G := G.trans qg20
  have qg20_s := qg20.size
  have H_0 := H.low'
  replace H := H.raise (show w.heap.size ≤ g by omega)
  have H_1 := H.lt
  refine sB (cnCells { F with pa := some ⟨g, 0, none⟩, pc := cp }) cn_big qB5 (cn_size _) (cn_size _) (cn_one _) ?_
  intro qw21 qt22 qB23
  clear qB5
  replace qB2 := qB2.touch qt22 (by omega)
  replace qB8 := qB8.touch qt22 (by omega)
  replace qB11 := qB11.touch qt22 (by omega)
  replace qB14 := qB14.touch qt22 (by omega)
  replace qB17 := qB17.touch qt22 (by omega)
  replace H := H.touch qt22 (by omega)
  replace G := since_touch G qt22 (by omega)
  have qt22_s := qt22.size
  refine vE #[.agg #[.int .i64 r, .string d, .bool e, .int .i64 n], .agg (cnCells { F with pa := some ⟨q, 0, none⟩, pc := p }), .agg (cnCells { T with pa := some ⟨q2, 0, none⟩, pc := p2 }), .pointer (some ⟨w.heap.size, 0, none⟩), .pointer (some ⟨qw1.heap.size, 0, none⟩), .pointer (some ⟨qw4.heap.size, 0, none⟩), .pointer (some ⟨qw7.heap.size, 0, none⟩), .pointer (some ⟨qw10.heap.size, 0, none⟩), .pointer (some ⟨qw13.heap.size, 0, none⟩), undef, undef, undef, undef, .agg (cnCells { F with pa := some ⟨q, 0, none⟩, pc := p }), .agg (cnCells { F with pa := some ⟨g, 0, none⟩, pc := cp }), undef, undef, undef, undef, undef, undef, undef, undef, undef, undef, undef, undef, undef, undef, undef, undef, undef, undef, undef, undef, undef, undef, undef, undef, undef, undef, undef, undef, undef, undef, undef, undef, undef, undef, undef, undef, undef, undef, undef, undef, undef, undef, undef, undef, undef, undef, undef, undef, undef, undef, undef, undef, undef, undef, undef, undef, undef, undef, undef, undef, undef, undef, undef, undef, undef, undef, undef, undef, undef, undef, undef, undef, undef] ?_
  go_upto_region 2 with (fail)
  refine vR ?_
  refine vB cn_big qB8 (cn_size _) ?_
  refine vC (hcT _ (R2.since G)) ?_
  rintro _ qw24 ⟨g2, cp2, rfl, H2, qg25⟩
  refine ⟨_, rfl, ?_⟩
  replace qB2 := qB2.since qg25
  replace qB23 := qB23.since qg25
  replace qB8 := qB8.since qg25
  replace qB11 := qB11.since qg25
  replace qB14 := qB14.since qg25
  replace qB17 := qB17.since qg25
  replace H := H.since qg25
  replace G := G.trans qg25
  have qg25_s := qg25.size
  have H2_0 := H2.low'
  replace H2 := H2.raise (show w.heap.size ≤ g2 by omega)
  have H2_1 := H2.lt
  refine sB (cnCells { T with pa := some ⟨g2, 0, none⟩, pc := cp2 }) cn_big qB8 (cn_size _) (cn_size _) (cn_one _) ?_
  intro qw26 qt27 qB28
  clear qB8
  replace qB2 := qB2.touch qt27 (by omega)
  replace qB23 := qB23.touch qt27 (by omega)
  replace qB11 := qB11.touch qt27 (by omega)
  replace qB14 := qB14.touch qt27 (by omega)
  replace qB17 := qB17.touch qt27 (by omega)
  replace H := H.touch qt27 (by omega)
  replace H2 := H2.touch qt27 (by omega)
  replace G := since_touch G qt27 (by omega)
  have qt27_s := qt27.size
  refine vE #[.agg #[.int .i64 r, .string d, .bool e, .int .i64 n], .agg (cnCells { F with pa := some ⟨q, 0, none⟩, pc := p }), .agg (cnCells { T with pa := some ⟨q2, 0, none⟩, pc := p2 }), .pointer (some ⟨w.heap.size, 0, none⟩), .pointer (some ⟨qw1.heap.size, 0, none⟩), .pointer (some ⟨qw4.heap.size, 0, none⟩), .pointer (some ⟨qw7.heap.size, 0, none⟩), .pointer (some ⟨qw10.heap.size, 0, none⟩), .pointer (some ⟨qw13.heap.size, 0, none⟩), undef, undef, undef, undef, .agg (cnCells { F with pa := some ⟨q, 0, none⟩, pc := p }), .agg (cnCells { F with pa := some ⟨g, 0, none⟩, pc := cp }), .agg (cnCells { T with pa := some ⟨q2, 0, none⟩, pc := p2 }), .agg (cnCells { T with pa := some ⟨g2, 0, none⟩, pc := cp2 }), undef, undef, undef, undef, undef, undef, undef, undef, undef, undef, undef, undef, undef, undef, undef, undef, undef, undef, undef, undef, undef, undef, undef, undef, undef, undef, undef, undef, undef, undef, undef, undef, undef, undef, undef, undef, undef, undef, undef, undef, undef, undef, undef, undef, undef, undef, undef, undef, undef, undef, undef, undef, undef, undef, undef, undef, undef, undef, undef, undef, undef, undef, undef, undef, undef, undef, undef, undef, undef, undef, undef] ?_
  go_upto_region 3 with (fail)
  cases b1
  case false =>
    have hmk : mvOk r d n F ps T qs = false := by unfold mvOk; rw [← hb1.out]; rfl
    have eX : Hid (xD = d) := (by rw [hxD.out]; unfold mvD; rw [hmk]; rfl : xD = d)
    have eE : Hid (xE = e) := (by rw [hxE.out]; unfold mvE; rw [hmk]; rfl : xE = e)
    have eC : Hid (xN = n) := (by rw [hxN.out]; unfold mvN; rw [hmk]; rfl : xN = n)
    have eF : Hid (xF = F) := (by rw [hxF.out]; unfold mvF; rw [hmk]; rfl : xF = F)
    have eT : Hid (xT = T) := (by rw [hxT.out]; unfold mvT; rw [hmk]; rfl : xT = T)
    clear hmk
    refine vR ?_
    refine vB pp_big qB2 rfl ?_
    refine vK (hk1 _) ?_
    intro qw29 qg30
    replace qB2 := qB2.since qg30
    replace qB23 := qB23.since qg30
    replace qB28 := qB28.since qg30
    replace qB11 := qB11.since qg30
    replace qB14 := qB14.since qg30
    replace qB17 := qB17.since qg30
    replace H := H.since qg30
    replace H2 := H2.since qg30
    replace G := G.trans qg30
    have qg30_s := qg30.size
    refine vV (.bool true) ?_
    refine vV (.bool true) ?_
    refine vS ?_
    refine vS ?_
    refine vS ?_
    refine vV (.bool true) ?_
    refine vV (.bool true) ?_
    refine vS ?_
    refine vS ?_
    refine vS ?_
    refine vV (.bool true) ?_
    refine vE #[.agg #[.int .i64 r, .string d, .bool e, .int .i64 n], .agg (cnCells { F with pa := some ⟨q, 0, none⟩, pc := p }), .agg (cnCells { T with pa := some ⟨q2, 0, none⟩, pc := p2 }), .pointer (some ⟨w.heap.size, 0, none⟩), .pointer (some ⟨qw1.heap.size, 0, none⟩), .pointer (some ⟨qw4.heap.size, 0, none⟩), .pointer (some ⟨qw7.heap.size, 0, none⟩), .pointer (some ⟨qw10.heap.size, 0, none⟩), .pointer (some ⟨qw13.heap.size, 0, none⟩), undef, undef, undef, undef, .agg (cnCells { F with pa := some ⟨q, 0, none⟩, pc := p }), .agg (cnCells { F with pa := some ⟨g, 0, none⟩, pc := cp }), .agg (cnCells { T with pa := some ⟨q2, 0, none⟩, pc := p2 }), .agg (cnCells { T with pa := some ⟨g2, 0, none⟩, pc := cp2 }), .agg #[.int .i64 r, .string d, .bool e, .int .i64 n], .bool false, .bool true, .bool true, undef, undef, undef, .bool true, .bool true, undef, undef, undef, .bool true, undef, undef, undef, undef, undef, undef, undef, undef, undef, undef, undef, undef, undef, undef, undef, undef, undef, undef, undef, undef, undef, undef, undef, undef, undef, undef, undef, undef, undef, undef, undef, undef, undef, undef, undef, undef, undef, undef, undef, undef, undef, undef, undef, undef, undef, undef, undef, undef, undef, undef, undef, undef, undef, undef, undef, undef, undef, undef] ?_
    go_upto_region 4 with (fail)
    have hN0 : 0 < qw29.heap.size := by have := qB2.lt; omega
    refine wp_region_low (Low (fun b => b < qw29.heap.size)) (fun i x v => match i with
        | 0 => v = .agg #[.int .i64 r, .string d, .bool e, .int .i64 n]
        | 1 => v = .agg (cnCells { F with pa := some ⟨g, 0, none⟩, pc := cp })
        | 2 => v = .agg (cnCells { T with pa := some ⟨g2, 0, none⟩, pc := cp2 })
        | 3 => True
        | 4 => True
        | 5 => True
        | _ => True) (fun f vals x => Blk w.heap.size x #[.int .i64 r, .string d, .bool e, .int .i64 n] ∧ Blk qw1.heap.size x (cnCells { F with pa := some ⟨g, 0, none⟩, pc := cp }) ∧ Blk qw4.heap.size x (cnCells { T with pa := some ⟨g2, 0, none⟩, pc := cp2 }) ∧ Blk qw7.heap.size x (if f 3 then #[.int .i64 r, .string d, .bool e, .int .i64 n] else #[.int .i64 0, .string ByteArray.empty, .bool false, .int .i64 0]) ∧ Blk qw10.heap.size x (if f 4 then (cnCells { F with pa := some ⟨g, 0, none⟩, pc := cp }) else (cnCells cnZero)) ∧ Blk qw13.heap.size x (if f 5 then (cnCells { T with pa := some ⟨g2, 0, none⟩, pc := cp2 }) else (cnCells cnZero)) ∧ Held shP x w.heap.size g F.pn cp ps ∧ Held shP x w.heap.size g2 T.pn cp2 qs ∧ qw29.heap.size ≤ x.heap.size ∧ Since w x) (fun v => { tmps := #[.agg #[.int .i64 r, .string d, .bool e, .int .i64 n], .agg (cnCells { F with pa := some ⟨q, 0, none⟩, pc := p }), .agg (cnCells { T with pa := some ⟨q2, 0, none⟩, pc := p2 }), .pointer (some ⟨w.heap.size, 0, none⟩), .pointer (some ⟨qw1.heap.size, 0, none⟩), .pointer (some ⟨qw4.heap.size, 0, none⟩), .pointer (some ⟨qw7.heap.size, 0, none⟩), .pointer (some ⟨qw10.heap.size, 0, none⟩), .pointer (some ⟨qw13.heap.size, 0, none⟩), undef, undef, undef, undef, .agg (cnCells { F with pa := some ⟨q, 0, none⟩, pc := p }), .agg (cnCells { F with pa := some ⟨g, 0, none⟩, pc := cp }), .agg (cnCells { T with pa := some ⟨q2, 0, none⟩, pc := p2 }), .agg (cnCells { T with pa := some ⟨g2, 0, none⟩, pc := cp2 }), .agg #[.int .i64 r, .string d, .bool e, .int .i64 n], .bool false, .bool true, .bool true, undef, undef, undef, .bool true, .bool true, undef, undef, undef, .bool true, v 0, v 1, v 2, undef, undef, undef, undef, undef, undef, undef, undef, undef, undef, undef, undef, undef, undef, undef, undef, undef, undef, undef, undef, undef, undef, undef, undef, undef, undef, undef, undef, undef, undef, undef, undef, undef, undef, undef, undef, undef, undef, undef, undef, undef, undef, undef, undef, undef, undef, undef, undef, undef, undef, undef, undef, undef, undef, undef], defers := [] }) (by kernel_rfl) (by kernel_rfl) ?_ ?_ (fun vals => by kernel_rfl) ?_ ?_
    case refine_1 =>
      intro j x y v hl hv
      match j, hv with
      | 0, hv | 1, hv | 2, hv => exact hv
      | 3, hv | 4, hv | 5, hv => trivial
      | n + 6, _ => trivial
    case refine_2 =>
      intro f vals hf
      refine ⟨qB2.since ((Since.refl _).drew), qB23.since ((Since.refl _).drew), qB28.since ((Since.refl _).drew), (by rw [hf 3]; exact qB11.since ((Since.refl _).drew)), (by rw [hf 4]; exact qB14.since ((Since.refl _).drew)), (by rw [hf 5]; exact qB17.since ((Since.refl _).drew)), H.since ((Since.refl _).drew), H2.since ((Since.refl _).drew), ((Since.refl _).drew).size, G.trans ((Since.refl _).drew)⟩
    case refine_3 =>
      repeat (first | exact eachLow_nil | refine eachLow_cons ?_ ?_)
      all_goals intro f vals x hf hr hK
      all_goals obtain ⟨k0, k1, k2, k3, k4, k5, k6, k7, k8, k9⟩ := hK
      · have ev : vals 2 = .agg (cnCells { T with pa := some ⟨g2, 0, none⟩, pc := cp2 }) := (hr ⟨2, .data⟩ (by simp) rfl).2
        have kz : Blk qw13.heap.size x (cnCells cnZero) := by have := k5; rw [hf] at this; exact this
        refine does_store cn_big (cn_size _) (Raw.of kz (cn_size _)) (cn_one _) _ _ rfl rfl ev ?_
        intro z t B
        exact ⟨Low.touch t (show qw13.heap.size < qw29.heap.size by omega), ⟨k0.touch t (by omega), k1.touch t (by omega), k2.touch t (by omega), k3.touch t (by omega), k4.touch t (by omega), B, k6.touch t (by omega), k7.touch t (by omega), Nat.le_trans k8 t.size, since_touch k9 t (by omega)⟩, trivial⟩
      · have ev : vals 1 = .agg (cnCells { F with pa := some ⟨g, 0, none⟩, pc := cp }) := (hr ⟨1, .data⟩ (by simp) rfl).2
        have kz : Blk qw10.heap.size x (cnCells cnZero) := by have := k4; rw [hf] at this; exact this
        refine does_store cn_big (cn_size _) (Raw.of kz (cn_size _)) (cn_one _) _ _ rfl rfl ev ?_
        intro z t B
        exact ⟨Low.touch t (show qw10.heap.size < qw29.heap.size by omega), ⟨k0.touch t (by omega), k1.touch t (by omega), k2.touch t (by omega), k3.touch t (by omega), B, k5.touch t (by omega), k6.touch t (by omega), k7.touch t (by omega), Nat.le_trans k8 t.size, since_touch k9 t (by omega)⟩, trivial⟩
      · have ev : vals 0 = .agg #[.int .i64 r, .string d, .bool e, .int .i64 n] := (hr ⟨0, .data⟩ (by simp) rfl).2
        have kz : Blk qw7.heap.size x #[.int .i64 0, .string ByteArray.empty, .bool false, .int .i64 0] := by have := k3; rw [hf] at this; exact this
        refine does_store pp_big rfl (Raw.of kz rfl) (by simp [Value.oneCell']) _ _ rfl rfl ev ?_
        intro z t B
        exact ⟨Low.touch t (show qw7.heap.size < qw29.heap.size by omega), ⟨k0.touch t (by omega), k1.touch t (by omega), k2.touch t (by omega), B, k4.touch t (by omega), k5.touch t (by omega), k6.touch t (by omega), k7.touch t (by omega), Nat.le_trans k8 t.size, since_touch k9 t (by omega)⟩, trivial⟩
      · exact does_load cn_big (cn_size _) k2 _ rfl rfl ⟨Low.since (b := 0) (Since.refl _) (hN0), ⟨k0, k1, k2, k3, k4, k5, k6, k7, k8, k9⟩, rfl⟩
      · exact does_load cn_big (cn_size _) k1 _ rfl rfl ⟨Low.since (b := 0) (Since.refl _) (hN0), ⟨k0, k1, k2, k3, k4, k5, k6, k7, k8, k9⟩, rfl⟩
      · exact does_load pp_big rfl k0 _ rfl rfl ⟨Low.since (b := 0) (Since.refl _) (hN0), ⟨k0, k1, k2, k3, k4, k5, k6, k7, k8, k9⟩, rfl⟩
    case refine_4 =>
      intro f qv32 qw31 hK hf hv
      obtain ⟨k0, k1, k2, k3, k4, k5, k6, k7, k8, k9⟩ := hK
      clear qB2 qB23 qB28 qB11 qB14 qB17 H H2 G
      have hv0 : qv32 0 = _ := hv 0 (by decide)
      have hv1 : qv32 1 = _ := hv 1 (by decide)
      have hv2 : qv32 2 = _ := hv 2 (by decide)
      clear hv
      simp only [hv0, hv1, hv2]
      clear hv0 hv1 hv2
      have qB2 := k0
      clear k0
      have qB23 := k1
      clear k1
      have qB28 := k2
      clear k2
      have qB11 : Blk qw7.heap.size qw31 #[.int .i64 r, .string d, .bool e, .int .i64 n] := by have := k3; rw [hf 3 (by decide)] at this; exact this
      clear k3
      have qB14 : Blk qw10.heap.size qw31 (cnCells { F with pa := some ⟨g, 0, none⟩, pc := cp }) := by have := k4; rw [hf 4 (by decide)] at this; exact this
      clear k4
      have qB17 : Blk qw13.heap.size qw31 (cnCells { T with pa := some ⟨g2, 0, none⟩, pc := cp2 }) := by have := k5; rw [hf 5 (by decide)] at this; exact this
      clear k5
      have H := k6
      clear k6
      have H2 := k7
      clear k7
      have G := k9
      clear k9
      have qw31_l := qB17.lt
      have qw31_n := k8
      clear k8
      go_wp2_with (fail)
      exact bodyPost_ret (results_3 (hs := rfl) (t := 6) (u := 7) (v := 8) rfl _ rfl rfl rfl qB11 qB14 qB17) rfl ⟨_, _, _, _, by rw [eX.out, eE.out, eC.out, eF.out, eT.out], H, H2, by omega, G⟩
  case true =>
  cases b2
  case false =>
    have hmk : mvOk r d n F ps T qs = false := by unfold mvOk; rw [← hb1.out, ← hb2.out]; rfl
    have eX : Hid (xD = d) := (by rw [hxD.out]; unfold mvD; rw [hmk]; rfl : xD = d)
    have eE : Hid (xE = e) := (by rw [hxE.out]; unfold mvE; rw [hmk]; rfl : xE = e)
    have eC : Hid (xN = n) := (by rw [hxN.out]; unfold mvN; rw [hmk]; rfl : xN = n)
    have eF : Hid (xF = F) := (by rw [hxF.out]; unfold mvF; rw [hmk]; rfl : xF = F)
    have eT : Hid (xT = T) := (by rw [hxT.out]; unfold mvT; rw [hmk]; rfl : xT = T)
    clear hmk
    refine vR ?_
    refine vB pp_big qB2 rfl ?_
    refine vK (hk1 _) ?_
    intro qw29 qg30
    replace qB2 := qB2.since qg30
    replace qB23 := qB23.since qg30
    replace qB28 := qB28.since qg30
    replace qB11 := qB11.since qg30
    replace qB14 := qB14.since qg30
    replace qB17 := qB17.since qg30
    replace H := H.since qg30
    replace H2 := H2.since qg30
    replace G := G.trans qg30
    have qg30_s := qg30.size
    refine vV (.bool false) ?_
    refine vV (.bool false) ?_
    refine vB cn_big qB23 (cn_size _) ?_
    refine vK (hk2 g cp _ H.reads) ?_
    intro qw31 qg32
    replace qB2 := qB2.since qg32
    replace qB23 := qB23.since qg32
    replace qB28 := qB28.since qg32
    replace qB11 := qB11.since qg32
    replace qB14 := qB14.since qg32
    replace qB17 := qB17.since qg32
    replace H := H.since qg32
    replace H2 := H2.since qg32
    replace G := G.trans qg32
    have qg32_s := qg32.size
    refine vV (.bool true) ?_
    refine vV (.bool true) ?_
    refine vV (.bool true) ?_
    refine vS ?_
    refine vS ?_
    refine vS ?_
    refine vV (.bool true) ?_
    refine vE #[.agg #[.int .i64 r, .string d, .bool e, .int .i64 n], .agg (cnCells { F with pa := some ⟨q, 0, none⟩, pc := p }), .agg (cnCells { T with pa := some ⟨q2, 0, none⟩, pc := p2 }), .pointer (some ⟨w.heap.size, 0, none⟩), .pointer (some ⟨qw1.heap.size, 0, none⟩), .pointer (some ⟨qw4.heap.size, 0, none⟩), .pointer (some ⟨qw7.heap.size, 0, none⟩), .pointer (some ⟨qw10.heap.size, 0, none⟩), .pointer (some ⟨qw13.heap.size, 0, none⟩), undef, undef, undef, undef, .agg (cnCells { F with pa := some ⟨q, 0, none⟩, pc := p }), .agg (cnCells { F with pa := some ⟨g, 0, none⟩, pc := cp }), .agg (cnCells { T with pa := some ⟨q2, 0, none⟩, pc := p2 }), .agg (cnCells { T with pa := some ⟨g2, 0, none⟩, pc := cp2 }), .agg #[.int .i64 r, .string d, .bool e, .int .i64 n], .bool true, .bool false, .bool false, .agg (cnCells { F with pa := some ⟨g, 0, none⟩, pc := cp }), .bool false, .bool true, .bool true, .bool true, undef, undef, undef, .bool true, undef, undef, undef, undef, undef, undef, undef, undef, undef, undef, undef, undef, undef, undef, undef, undef, undef, undef, undef, undef, undef, undef, undef, undef, undef, undef, undef, undef, undef, undef, undef, undef, undef, undef, undef, undef, undef, undef, undef, undef, undef, undef, undef, undef, undef, undef, undef, undef, undef, undef, undef, undef, undef, undef, undef, undef, undef, undef] ?_
    go_upto_region 4 with (fail)
    have hN0 : 0 < qw31.heap.size := by have := qB2.lt; omega
    refine wp_region_low (Low (fun b => b < qw31.heap.size)) (fun i x v => match i with
        | 0 => v = .agg #[.int .i64 r, .string d, .bool e, .int .i64 n]
        | 1 => v = .agg (cnCells { F with pa := some ⟨g, 0, none⟩, pc := cp })
        | 2 => v = .agg (cnCells { T with pa := some ⟨g2, 0, none⟩, pc := cp2 })
        | 3 => True
        | 4 => True
        | 5 => True
        | _ => True) (fun f vals x => Blk w.heap.size x #[.int .i64 r, .string d, .bool e, .int .i64 n] ∧ Blk qw1.heap.size x (cnCells { F with pa := some ⟨g, 0, none⟩, pc := cp }) ∧ Blk qw4.heap.size x (cnCells { T with pa := some ⟨g2, 0, none⟩, pc := cp2 }) ∧ Blk qw7.heap.size x (if f 3 then #[.int .i64 r, .string d, .bool e, .int .i64 n] else #[.int .i64 0, .string ByteArray.empty, .bool false, .int .i64 0]) ∧ Blk qw10.heap.size x (if f 4 then (cnCells { F with pa := some ⟨g, 0, none⟩, pc := cp }) else (cnCells cnZero)) ∧ Blk qw13.heap.size x (if f 5 then (cnCells { T with pa := some ⟨g2, 0, none⟩, pc := cp2 }) else (cnCells cnZero)) ∧ Held shP x w.heap.size g F.pn cp ps ∧ Held shP x w.heap.size g2 T.pn cp2 qs ∧ qw31.heap.size ≤ x.heap.size ∧ Since w x) (fun v => { tmps := #[.agg #[.int .i64 r, .string d, .bool e, .int .i64 n], .agg (cnCells { F with pa := some ⟨q, 0, none⟩, pc := p }), .agg (cnCells { T with pa := some ⟨q2, 0, none⟩, pc := p2 }), .pointer (some ⟨w.heap.size, 0, none⟩), .pointer (some ⟨qw1.heap.size, 0, none⟩), .pointer (some ⟨qw4.heap.size, 0, none⟩), .pointer (some ⟨qw7.heap.size, 0, none⟩), .pointer (some ⟨qw10.heap.size, 0, none⟩), .pointer (some ⟨qw13.heap.size, 0, none⟩), undef, undef, undef, undef, .agg (cnCells { F with pa := some ⟨q, 0, none⟩, pc := p }), .agg (cnCells { F with pa := some ⟨g, 0, none⟩, pc := cp }), .agg (cnCells { T with pa := some ⟨q2, 0, none⟩, pc := p2 }), .agg (cnCells { T with pa := some ⟨g2, 0, none⟩, pc := cp2 }), .agg #[.int .i64 r, .string d, .bool e, .int .i64 n], .bool true, .bool false, .bool false, .agg (cnCells { F with pa := some ⟨g, 0, none⟩, pc := cp }), .bool false, .bool true, .bool true, .bool true, undef, undef, undef, .bool true, v 0, v 1, v 2, undef, undef, undef, undef, undef, undef, undef, undef, undef, undef, undef, undef, undef, undef, undef, undef, undef, undef, undef, undef, undef, undef, undef, undef, undef, undef, undef, undef, undef, undef, undef, undef, undef, undef, undef, undef, undef, undef, undef, undef, undef, undef, undef, undef, undef, undef, undef, undef, undef, undef, undef, undef, undef, undef, undef], defers := [] }) (by kernel_rfl) (by kernel_rfl) ?_ ?_ (fun vals => by kernel_rfl) ?_ ?_
    case refine_1 =>
      intro j x y v hl hv
      match j, hv with
      | 0, hv | 1, hv | 2, hv => exact hv
      | 3, hv | 4, hv | 5, hv => trivial
      | n + 6, _ => trivial
    case refine_2 =>
      intro f vals hf
      refine ⟨qB2.since ((Since.refl _).drew), qB23.since ((Since.refl _).drew), qB28.since ((Since.refl _).drew), (by rw [hf 3]; exact qB11.since ((Since.refl _).drew)), (by rw [hf 4]; exact qB14.since ((Since.refl _).drew)), (by rw [hf 5]; exact qB17.since ((Since.refl _).drew)), H.since ((Since.refl _).drew), H2.since ((Since.refl _).drew), ((Since.refl _).drew).size, G.trans ((Since.refl _).drew)⟩
    case refine_3 =>
      repeat (first | exact eachLow_nil | refine eachLow_cons ?_ ?_)
      all_goals intro f vals x hf hr hK
      all_goals obtain ⟨k0, k1, k2, k3, k4, k5, k6, k7, k8, k9⟩ := hK
      · have ev : vals 2 = .agg (cnCells { T with pa := some ⟨g2, 0, none⟩, pc := cp2 }) := (hr ⟨2, .data⟩ (by simp) rfl).2
        have kz : Blk qw13.heap.size x (cnCells cnZero) := by have := k5; rw [hf] at this; exact this
        refine does_store cn_big (cn_size _) (Raw.of kz (cn_size _)) (cn_one _) _ _ rfl rfl ev ?_
        intro z t B
        exact ⟨Low.touch t (show qw13.heap.size < qw31.heap.size by omega), ⟨k0.touch t (by omega), k1.touch t (by omega), k2.touch t (by omega), k3.touch t (by omega), k4.touch t (by omega), B, k6.touch t (by omega), k7.touch t (by omega), Nat.le_trans k8 t.size, since_touch k9 t (by omega)⟩, trivial⟩
      · have ev : vals 1 = .agg (cnCells { F with pa := some ⟨g, 0, none⟩, pc := cp }) := (hr ⟨1, .data⟩ (by simp) rfl).2
        have kz : Blk qw10.heap.size x (cnCells cnZero) := by have := k4; rw [hf] at this; exact this
        refine does_store cn_big (cn_size _) (Raw.of kz (cn_size _)) (cn_one _) _ _ rfl rfl ev ?_
        intro z t B
        exact ⟨Low.touch t (show qw10.heap.size < qw31.heap.size by omega), ⟨k0.touch t (by omega), k1.touch t (by omega), k2.touch t (by omega), k3.touch t (by omega), B, k5.touch t (by omega), k6.touch t (by omega), k7.touch t (by omega), Nat.le_trans k8 t.size, since_touch k9 t (by omega)⟩, trivial⟩
      · have ev : vals 0 = .agg #[.int .i64 r, .string d, .bool e, .int .i64 n] := (hr ⟨0, .data⟩ (by simp) rfl).2
        have kz : Blk qw7.heap.size x #[.int .i64 0, .string ByteArray.empty, .bool false, .int .i64 0] := by have := k3; rw [hf] at this; exact this
        refine does_store pp_big rfl (Raw.of kz rfl) (by simp [Value.oneCell']) _ _ rfl rfl ev ?_
        intro z t B
        exact ⟨Low.touch t (show qw7.heap.size < qw31.heap.size by omega), ⟨k0.touch t (by omega), k1.touch t (by omega), k2.touch t (by omega), B, k4.touch t (by omega), k5.touch t (by omega), k6.touch t (by omega), k7.touch t (by omega), Nat.le_trans k8 t.size, since_touch k9 t (by omega)⟩, trivial⟩
      · exact does_load cn_big (cn_size _) k2 _ rfl rfl ⟨Low.since (b := 0) (Since.refl _) (hN0), ⟨k0, k1, k2, k3, k4, k5, k6, k7, k8, k9⟩, rfl⟩
      · exact does_load cn_big (cn_size _) k1 _ rfl rfl ⟨Low.since (b := 0) (Since.refl _) (hN0), ⟨k0, k1, k2, k3, k4, k5, k6, k7, k8, k9⟩, rfl⟩
      · exact does_load pp_big rfl k0 _ rfl rfl ⟨Low.since (b := 0) (Since.refl _) (hN0), ⟨k0, k1, k2, k3, k4, k5, k6, k7, k8, k9⟩, rfl⟩
    case refine_4 =>
      intro f qv34 qw33 hK hf hv
      obtain ⟨k0, k1, k2, k3, k4, k5, k6, k7, k8, k9⟩ := hK
      clear qB2 qB23 qB28 qB11 qB14 qB17 H H2 G
      have hv0 : qv34 0 = _ := hv 0 (by decide)
      have hv1 : qv34 1 = _ := hv 1 (by decide)
      have hv2 : qv34 2 = _ := hv 2 (by decide)
      clear hv
      simp only [hv0, hv1, hv2]
      clear hv0 hv1 hv2
      have qB2 := k0
      clear k0
      have qB23 := k1
      clear k1
      have qB28 := k2
      clear k2
      have qB11 : Blk qw7.heap.size qw33 #[.int .i64 r, .string d, .bool e, .int .i64 n] := by have := k3; rw [hf 3 (by decide)] at this; exact this
      clear k3
      have qB14 : Blk qw10.heap.size qw33 (cnCells { F with pa := some ⟨g, 0, none⟩, pc := cp }) := by have := k4; rw [hf 4 (by decide)] at this; exact this
      clear k4
      have qB17 : Blk qw13.heap.size qw33 (cnCells { T with pa := some ⟨g2, 0, none⟩, pc := cp2 }) := by have := k5; rw [hf 5 (by decide)] at this; exact this
      clear k5
      have H := k6
      clear k6
      have H2 := k7
      clear k7
      have G := k9
      clear k9
      have qw33_l := qB17.lt
      have qw33_n := k8
      clear k8
      go_wp2_with (fail)
      exact bodyPost_ret (results_3 (hs := rfl) (t := 6) (u := 7) (v := 8) rfl _ rfl rfl rfl qB11 qB14 qB17) rfl ⟨_, _, _, _, by rw [eX.out, eE.out, eC.out, eF.out, eT.out], H, H2, by omega, G⟩
  case true =>
  cases b3
  case false =>
    have hmk : mvOk r d n F ps T qs = false := by unfold mvOk; rw [← hb1.out, ← hb2.out, ← hb3.out]; rfl
    have eX : Hid (xD = d) := (by rw [hxD.out]; unfold mvD; rw [hmk]; rfl : xD = d)
    have eE : Hid (xE = e) := (by rw [hxE.out]; unfold mvE; rw [hmk]; rfl : xE = e)
    have eC : Hid (xN = n) := (by rw [hxN.out]; unfold mvN; rw [hmk]; rfl : xN = n)
    have eF : Hid (xF = F) := (by rw [hxF.out]; unfold mvF; rw [hmk]; rfl : xF = F)
    have eT : Hid (xT = T) := (by rw [hxT.out]; unfold mvT; rw [hmk]; rfl : xT = T)
    clear hmk
    refine vR ?_
    refine vB pp_big qB2 rfl ?_
    refine vK (hk1 _) ?_
    intro qw29 qg30
    replace qB2 := qB2.since qg30
    replace qB23 := qB23.since qg30
    replace qB28 := qB28.since qg30
    replace qB11 := qB11.since qg30
    replace qB14 := qB14.since qg30
    replace qB17 := qB17.since qg30
    replace H := H.since qg30
    replace H2 := H2.since qg30
    replace G := G.trans qg30
    have qg30_s := qg30.size
    refine vV (.bool false) ?_
    refine vV (.bool false) ?_
    refine vB cn_big qB23 (cn_size _) ?_
    refine vK (hk2 g cp _ H.reads) ?_
    intro qw31 qg32
    replace qB2 := qB2.since qg32
    replace qB23 := qB23.since qg32
    replace qB28 := qB28.since qg32
    replace qB11 := qB11.since qg32
    replace qB14 := qB14.since qg32
    replace qB17 := qB17.since qg32
    replace H := H.since qg32
    replace H2 := H2.since qg32
    replace G := G.trans qg32
    have qg32_s := qg32.size
    refine vV (.bool false) ?_
    refine vV (.bool false) ?_
    refine vV (.bool false) ?_
    refine vB cn_big qB28 (cn_size _) ?_
    refine vK (hk3 g2 cp2 _ H2.reads) ?_
    intro qw33 qg34
    replace qB2 := qB2.since qg34
    replace qB23 := qB23.since qg34
    replace qB28 := qB28.since qg34
    replace qB11 := qB11.since qg34
    replace qB14 := qB14.since qg34
    replace qB17 := qB17.since qg34
    replace H := H.since qg34
    replace H2 := H2.since qg34
    replace G := G.trans qg34
    have qg34_s := qg34.size
    refine vV (.bool true) ?_
    refine vV (.bool true) ?_
    refine vE #[.agg #[.int .i64 r, .string d, .bool e, .int .i64 n], .agg (cnCells { F with pa := some ⟨q, 0, none⟩, pc := p }), .agg (cnCells { T with pa := some ⟨q2, 0, none⟩, pc := p2 }), .pointer (some ⟨w.heap.size, 0, none⟩), .pointer (some ⟨qw1.heap.size, 0, none⟩), .pointer (some ⟨qw4.heap.size, 0, none⟩), .pointer (some ⟨qw7.heap.size, 0, none⟩), .pointer (some ⟨qw10.heap.size, 0, none⟩), .pointer (some ⟨qw13.heap.size, 0, none⟩), undef, undef, undef, undef, .agg (cnCells { F with pa := some ⟨q, 0, none⟩, pc := p }), .agg (cnCells { F with pa := some ⟨g, 0, none⟩, pc := cp }), .agg (cnCells { T with pa := some ⟨q2, 0, none⟩, pc := p2 }), .agg (cnCells { T with pa := some ⟨g2, 0, none⟩, pc := cp2 }), .agg #[.int .i64 r, .string d, .bool e, .int .i64 n], .bool true, .bool false, .bool false, .agg (cnCells { F with pa := some ⟨g, 0, none⟩, pc := cp }), .bool true, .bool false, .bool false, .bool false, .agg (cnCells { T with pa := some ⟨g2, 0, none⟩, pc := cp2 }), .bool false, .bool true, .bool true, undef, undef, undef, undef, undef, undef, undef, undef, undef, undef, undef, undef, undef, undef, undef, undef, undef, undef, undef, undef, undef, undef, undef, undef, undef, undef, undef, undef, undef, undef, undef, undef, undef, undef, undef, undef, undef, undef, undef, undef, undef, undef, undef, undef, undef, undef, undef, undef, undef, undef, undef, undef, undef, undef, undef, undef, undef, undef] ?_
    go_upto_region 4 with (fail)
    have hN0 : 0 < qw33.heap.size := by have := qB2.lt; omega
    refine wp_region_low (Low (fun b => b < qw33.heap.size)) (fun i x v => match i with
        | 0 => v = .agg #[.int .i64 r, .string d, .bool e, .int .i64 n]
        | 1 => v = .agg (cnCells { F with pa := some ⟨g, 0, none⟩, pc := cp })
        | 2 => v = .agg (cnCells { T with pa := some ⟨g2, 0, none⟩, pc := cp2 })
        | 3 => True
        | 4 => True
        | 5 => True
        | _ => True) (fun f vals x => Blk w.heap.size x #[.int .i64 r, .string d, .bool e, .int .i64 n] ∧ Blk qw1.heap.size x (cnCells { F with pa := some ⟨g, 0, none⟩, pc := cp }) ∧ Blk qw4.heap.size x (cnCells { T with pa := some ⟨g2, 0, none⟩, pc := cp2 }) ∧ Blk qw7.heap.size x (if f 3 then #[.int .i64 r, .string d, .bool e, .int .i64 n] else #[.int .i64 0, .string ByteArray.empty, .bool false, .int .i64 0]) ∧ Blk qw10.heap.size x (if f 4 then (cnCells { F with pa := some ⟨g, 0, none⟩, pc := cp }) else (cnCells cnZero)) ∧ Blk qw13.heap.size x (if f 5 then (cnCells { T with pa := some ⟨g2, 0, none⟩, pc := cp2 }) else (cnCells cnZero)) ∧ Held shP x w.heap.size g F.pn cp ps ∧ Held shP x w.heap.size g2 T.pn cp2 qs ∧ qw33.heap.size ≤ x.heap.size ∧ Since w x) (fun v => { tmps := #[.agg #[.int .i64 r, .string d, .bool e, .int .i64 n], .agg (cnCells { F with pa := some ⟨q, 0, none⟩, pc := p }), .agg (cnCells { T with pa := some ⟨q2, 0, none⟩, pc := p2 }), .pointer (some ⟨w.heap.size, 0, none⟩), .pointer (some ⟨qw1.heap.size, 0, none⟩), .pointer (some ⟨qw4.heap.size, 0, none⟩), .pointer (some ⟨qw7.heap.size, 0, none⟩), .pointer (some ⟨qw10.heap.size, 0, none⟩), .pointer (some ⟨qw13.heap.size, 0, none⟩), undef, undef, undef, undef, .agg (cnCells { F with pa := some ⟨q, 0, none⟩, pc := p }), .agg (cnCells { F with pa := some ⟨g, 0, none⟩, pc := cp }), .agg (cnCells { T with pa := some ⟨q2, 0, none⟩, pc := p2 }), .agg (cnCells { T with pa := some ⟨g2, 0, none⟩, pc := cp2 }), .agg #[.int .i64 r, .string d, .bool e, .int .i64 n], .bool true, .bool false, .bool false, .agg (cnCells { F with pa := some ⟨g, 0, none⟩, pc := cp }), .bool true, .bool false, .bool false, .bool false, .agg (cnCells { T with pa := some ⟨g2, 0, none⟩, pc := cp2 }), .bool false, .bool true, .bool true, v 0, v 1, v 2, undef, undef, undef, undef, undef, undef, undef, undef, undef, undef, undef, undef, undef, undef, undef, undef, undef, undef, undef, undef, undef, undef, undef, undef, undef, undef, undef, undef, undef, undef, undef, undef, undef, undef, undef, undef, undef, undef, undef, undef, undef, undef, undef, undef, undef, undef, undef, undef, undef, undef, undef, undef, undef, undef, undef], defers := [] }) (by kernel_rfl) (by kernel_rfl) ?_ ?_ (fun vals => by kernel_rfl) ?_ ?_
    case refine_1 =>
      intro j x y v hl hv
      match j, hv with
      | 0, hv | 1, hv | 2, hv => exact hv
      | 3, hv | 4, hv | 5, hv => trivial
      | n + 6, _ => trivial
    case refine_2 =>
      intro f vals hf
      refine ⟨qB2.since ((Since.refl _).drew), qB23.since ((Since.refl _).drew), qB28.since ((Since.refl _).drew), (by rw [hf 3]; exact qB11.since ((Since.refl _).drew)), (by rw [hf 4]; exact qB14.since ((Since.refl _).drew)), (by rw [hf 5]; exact qB17.since ((Since.refl _).drew)), H.since ((Since.refl _).drew), H2.since ((Since.refl _).drew), ((Since.refl _).drew).size, G.trans ((Since.refl _).drew)⟩
    case refine_3 =>
      repeat (first | exact eachLow_nil | refine eachLow_cons ?_ ?_)
      all_goals intro f vals x hf hr hK
      all_goals obtain ⟨k0, k1, k2, k3, k4, k5, k6, k7, k8, k9⟩ := hK
      · have ev : vals 2 = .agg (cnCells { T with pa := some ⟨g2, 0, none⟩, pc := cp2 }) := (hr ⟨2, .data⟩ (by simp) rfl).2
        have kz : Blk qw13.heap.size x (cnCells cnZero) := by have := k5; rw [hf] at this; exact this
        refine does_store cn_big (cn_size _) (Raw.of kz (cn_size _)) (cn_one _) _ _ rfl rfl ev ?_
        intro z t B
        exact ⟨Low.touch t (show qw13.heap.size < qw33.heap.size by omega), ⟨k0.touch t (by omega), k1.touch t (by omega), k2.touch t (by omega), k3.touch t (by omega), k4.touch t (by omega), B, k6.touch t (by omega), k7.touch t (by omega), Nat.le_trans k8 t.size, since_touch k9 t (by omega)⟩, trivial⟩
      · have ev : vals 1 = .agg (cnCells { F with pa := some ⟨g, 0, none⟩, pc := cp }) := (hr ⟨1, .data⟩ (by simp) rfl).2
        have kz : Blk qw10.heap.size x (cnCells cnZero) := by have := k4; rw [hf] at this; exact this
        refine does_store cn_big (cn_size _) (Raw.of kz (cn_size _)) (cn_one _) _ _ rfl rfl ev ?_
        intro z t B
        exact ⟨Low.touch t (show qw10.heap.size < qw33.heap.size by omega), ⟨k0.touch t (by omega), k1.touch t (by omega), k2.touch t (by omega), k3.touch t (by omega), B, k5.touch t (by omega), k6.touch t (by omega), k7.touch t (by omega), Nat.le_trans k8 t.size, since_touch k9 t (by omega)⟩, trivial⟩
      · have ev : vals 0 = .agg #[.int .i64 r, .string d, .bool e, .int .i64 n] := (hr ⟨0, .data⟩ (by simp) rfl).2
        have kz : Blk qw7.heap.size x #[.int .i64 0, .string ByteArray.empty, .bool false, .int .i64 0] := by have := k3; rw [hf] at this; exact this
        refine does_store pp_big rfl (Raw.of kz rfl) (by simp [Value.oneCell']) _ _ rfl rfl ev ?_
        intro z t B
        exact ⟨Low.touch t (show qw7.heap.size < qw33.heap.size by omega), ⟨k0.touch t (by omega), k1.touch t (by omega), k2.touch t (by omega), B, k4.touch t (by omega), k5.touch t (by omega), k6.touch t (by omega), k7.touch t (by omega), Nat.le_trans k8 t.size, since_touch k9 t (by omega)⟩, trivial⟩
      · exact does_load cn_big (cn_size _) k2 _ rfl rfl ⟨Low.since (b := 0) (Since.refl _) (hN0), ⟨k0, k1, k2, k3, k4, k5, k6, k7, k8, k9⟩, rfl⟩
      · exact does_load cn_big (cn_size _) k1 _ rfl rfl ⟨Low.since (b := 0) (Since.refl _) (hN0), ⟨k0, k1, k2, k3, k4, k5, k6, k7, k8, k9⟩, rfl⟩
      · exact does_load pp_big rfl k0 _ rfl rfl ⟨Low.since (b := 0) (Since.refl _) (hN0), ⟨k0, k1, k2, k3, k4, k5, k6, k7, k8, k9⟩, rfl⟩
    case refine_4 =>
      intro f qv36 qw35 hK hf hv
      obtain ⟨k0, k1, k2, k3, k4, k5, k6, k7, k8, k9⟩ := hK
      clear qB2 qB23 qB28 qB11 qB14 qB17 H H2 G
      have hv0 : qv36 0 = _ := hv 0 (by decide)
      have hv1 : qv36 1 = _ := hv 1 (by decide)
      have hv2 : qv36 2 = _ := hv 2 (by decide)
      clear hv
      simp only [hv0, hv1, hv2]
      clear hv0 hv1 hv2
      have qB2 := k0
      clear k0
      have qB23 := k1
      clear k1
      have qB28 := k2
      clear k2
      have qB11 : Blk qw7.heap.size qw35 #[.int .i64 r, .string d, .bool e, .int .i64 n] := by have := k3; rw [hf 3 (by decide)] at this; exact this
      clear k3
      have qB14 : Blk qw10.heap.size qw35 (cnCells { F with pa := some ⟨g, 0, none⟩, pc := cp }) := by have := k4; rw [hf 4 (by decide)] at this; exact this
      clear k4
      have qB17 : Blk qw13.heap.size qw35 (cnCells { T with pa := some ⟨g2, 0, none⟩, pc := cp2 }) := by have := k5; rw [hf 5 (by decide)] at this; exact this
      clear k5
      have H := k6
      clear k6
      have H2 := k7
      clear k7
      have G := k9
      clear k9
      have qw35_l := qB17.lt
      have qw35_n := k8
      clear k8
      go_wp2_with (fail)
      exact bodyPost_ret (results_3 (hs := rfl) (t := 6) (u := 7) (v := 8) rfl _ rfl rfl rfl qB11 qB14 qB17) rfl ⟨_, _, _, _, by rw [eX.out, eE.out, eC.out, eF.out, eT.out], H, H2, by omega, G⟩
  case true =>
    have hmk : Hid (mvOk r d n F ps T qs = true) := (by unfold mvOk; rw [← hb1.out, ← hb2.out, ← hb3.out]; rfl : mvOk r d n F ps T qs = true)
    have hpk := (pipeOk_iff r d n).1 hb1.out.symm
    have hrd : IsInt (r - d.size) := by unfold IsInt; omega
    have ewr : IntKind.i64.wrap (r - (d.size : Int)) = r - (d.size : Int) := by rw [IntWalk.i64_left]; exact IntWalk.wrap64_in _ ⟨by omega, by omega⟩
    have hSz := readS_size F ps (r - d.size)
    have hD1 : (gotD r d F ps).size ≤ 1048576 := gotD_size F ps (by omega)
    have hM := writeM_le T qs (gotD r d F ps)
    obtain ⟨F1, hF1⟩ : ∃ x, Hid (x = readC F ps (r - d.size)) := ⟨_, rfl⟩
    obtain ⟨S1, hS1⟩ : ∃ x, Hid (x = readS F ps (r - d.size)) := ⟨_, rfl⟩
    obtain ⟨D1, hD1e⟩ : ∃ x, Hid (x = gotD r d F ps) := ⟨_, rfl⟩
    rw [← hD1e.out] at hD1 hM
    obtain ⟨T1, hT1⟩ : ∃ x, Hid (x = writeC T qs D1) := ⟨_, rfl⟩
    obtain ⟨M, hMe⟩ : ∃ x, Hid (x = writeM T qs D1) := ⟨_, rfl⟩
    rw [← hMe.out] at hM
    have eD : Hid (d ++ S1 = D1) := (by rw [hD1e.out, hS1.out]; rfl : d ++ S1 = D1)
    rw [← hS1.out] at hSz
    have ewn : IntKind.i64.wrap (n + (M : Int)) = n + (M : Int) := by rw [IntWalk.i64_left]; exact IntWalk.wrap64_in _ ⟨by omega, by omega⟩
    have gT1 : GoodC T1 qs := by rw [hT1.out]; exact good_write gT _
    have pT1 : T1.pn = T.pn := by rw [hT1.out]; exact write_pn _ _ _
    have pF1 : F1.pn = F.pn := by rw [hF1.out]; exact read_pn _ _ _
    replace pF1 : Hid _ := pF1
    obtain ⟨c1, hc1⟩ : ∃ b, Hid (b = emp F1.iD) := ⟨_, rfl⟩
    obtain ⟨D2, hD2⟩ : ∃ x, Hid (x = D1.extract M D1.size) := ⟨_, rfl⟩
    obtain ⟨c2, hc2⟩ : ∃ b, Hid (b = emp D2) := ⟨_, rfl⟩
    have eL : Hid (leftD r d F ps T qs = D2) := (by unfold leftD; rw [← hD1e.out, ← hMe.out, hD2.out] : leftD r d F ps T qs = D2)
    have eC : Hid (capP n M = xN) := (by rw [hxN.out]; unfold mvN; rw [hmk.out, hMe.out, hD1e.out]; rfl : capP n M = xN)
    have eF : Hid (xF = F1) := (by rw [hxF.out, hF1.out]; unfold mvF; rw [hmk.out]; rfl : xF = F1)
    have eX : Hid (xD = D2) := (by rw [hxD.out]; unfold mvD; rw [hmk.out, ← eL.out]; rfl : xD = D2)
    have hr1 := fun g cp wx Rx => sRead gF (r - d.size) hrd g cp wx Rx
    rw [← hF1.out, ← hS1.out] at hr1
    have hw1 := fun g cp wx Rx => sWrite gT D1 hD1 g cp wx Rx
    rw [← hT1.out, ← hMe.out] at hw1
    have hs1 := fun (g cp : Nat) (wx : World) (Rx : Rd shP wx (some ⟨g, 0, none⟩) T.pn qs) => sClose gT1 g cp wx (by rw [pT1]; exact Rx)
    obtain ⟨T2, hT2⟩ : ∃ x, Hid (x = closeC T1 qs) := ⟨_, rfl⟩
    rw [← hT2.out] at hs1
    have hcl := fun wx => specClip (n + (M : Int)) 0 1000000000 (by omega) wx
    have eM : min (max (n + (M : Int)) 0) 1000000000 = xN := by rw [← eC.out]; unfold capP; split <;> omega
    rw [eM] at hcl
    clear eM
    refine vR ?_
    refine vB pp_big qB2 rfl ?_
    refine vK (hk1 _) ?_
    intro qw29 qg30
    replace qB2 := qB2.since qg30
    replace qB23 := qB23.since qg30
    replace qB28 := qB28.since qg30
    replace qB11 := qB11.since qg30
    replace qB14 := qB14.since qg30
    replace qB17 := qB17.since qg30
    replace H := H.since qg30
    replace H2 := H2.since qg30
    replace G := G.trans qg30
    have qg30_s := qg30.size
    refine vV (.bool false) ?_
    refine vV (.bool false) ?_
    refine vB cn_big qB23 (cn_size _) ?_
    refine vK (hk2 g cp _ H.reads) ?_
    intro qw31 qg32
    replace qB2 := qB2.since qg32
    replace qB23 := qB23.since qg32
    replace qB28 := qB28.since qg32
    replace qB11 := qB11.since qg32
    replace qB14 := qB14.since qg32
    replace qB17 := qB17.since qg32
    replace H := H.since qg32
    replace H2 := H2.since qg32
    replace G := G.trans qg32
    have qg32_s := qg32.size
    refine vV (.bool false) ?_
    refine vV (.bool false) ?_
    refine vV (.bool false) ?_
    refine vB cn_big qB28 (cn_size _) ?_
    refine vK (hk3 g2 cp2 _ H2.reads) ?_
    intro qw33 qg34
    replace qB2 := qB2.since qg34
    replace qB23 := qB23.since qg34
    replace qB28 := qB28.since qg34
    replace qB11 := qB11.since qg34
    replace qB14 := qB14.since qg34
    replace qB17 := qB17.since qg34
    replace H := H.since qg34
    replace H2 := H2.since qg34
    replace G := G.trans qg34
    have qg34_s := qg34.size
    refine vV (.bool false) ?_
    refine vV (.bool false) ?_
    refine vE #[.agg #[.int .i64 r, .string d, .bool e, .int .i64 n], .agg (cnCells { F with pa := some ⟨q, 0, none⟩, pc := p }), .agg (cnCells { T with pa := some ⟨q2, 0, none⟩, pc := p2 }), .pointer (some ⟨w.heap.size, 0, none⟩), .pointer (some ⟨qw1.heap.size, 0, none⟩), .pointer (some ⟨qw4.heap.size, 0, none⟩), .pointer (some ⟨qw7.heap.size, 0, none⟩), .pointer (some ⟨qw10.heap.size, 0, none⟩), .pointer (some ⟨qw13.heap.size, 0, none⟩), undef, undef, undef, undef, .agg (cnCells { F with pa := some ⟨q, 0, none⟩, pc := p }), .agg (cnCells { F with pa := some ⟨g, 0, none⟩, pc := cp }), .agg (cnCells { T with pa := some ⟨q2, 0, none⟩, pc := p2 }), .agg (cnCells { T with pa := some ⟨g2, 0, none⟩, pc := cp2 }), .agg #[.int .i64 r, .string d, .bool e, .int .i64 n], .bool true, .bool false, .bool false, .agg (cnCells { F with pa := some ⟨g, 0, none⟩, pc := cp }), .bool true, .bool false, .bool false, .bool false, .agg (cnCells { T with pa := some ⟨g2, 0, none⟩, pc := cp2 }), .bool true, .bool false, .bool false, undef, undef, undef, undef, undef, undef, undef, undef, undef, undef, undef, undef, undef, undef, undef, undef, undef, undef, undef, undef, undef, undef, undef, undef, undef, undef, undef, undef, undef, undef, undef, undef, undef, undef, undef, undef, undef, undef, undef, undef, undef, undef, undef, undef, undef, undef, undef, undef, undef, undef, undef, undef, undef, undef, undef, undef, undef, undef] ?_
    go_upto_region 5 with (fail)
    refine vR ?_
    refine vB cn_big qB23 (cn_size _) ?_
    refine vV (.pointer (some ⟨w.heap.size, 0, none⟩)) ?_
    refine vD (.int .i64 r) (qB2.cell 0) ?_
    refine vV (.pointer (some ⟨w.heap.size, 1, none⟩)) ?_
    refine vD (.string d) (qB2.cell 1) ?_
    refine vV (.int .i64 (d.size : Int)) ?_
    refine vV (.int .i64 (r - (d.size : Int))) ?_ (hrun := by rw [← ewr]; kernel_rfl)
    refine vC (hr1 g cp _ H.reads) ?_
    rintro _ qw35 ⟨g3, cp3, rfl, H3, qg36⟩
    refine ⟨_, rfl, ?_⟩
    replace qB2 := qB2.since qg36
    replace qB23 := qB23.since qg36
    replace qB28 := qB28.since qg36
    replace qB11 := qB11.since qg36
    replace qB14 := qB14.since qg36
    replace qB17 := qB17.since qg36
    replace H := H.since qg36
    replace H2 := H2.since qg36
    replace G := G.trans qg36
    have qg36_s := qg36.size
    have H3_0 := H3.low'
    replace H3 := H3.raise (show w.heap.size ≤ g3 by omega)
    have H3_1 := H3.lt
    clear H
    refine vV (.tuple #[.agg (cnCells { F1 with pa := some ⟨g3, 0, none⟩, pc := cp3 }), .string S1]) ?_
    refine vV (.agg (cnCells { F1 with pa := some ⟨g3, 0, none⟩, pc := cp3 })) ?_
    refine vV (.string S1) ?_
    refine vW (qw35.alloc (.cells (cnCells cnZero) 46)) (.pointer (some ⟨qw35.heap.size, 0, none⟩)) ?_
    have qB38 := Blk.new qw35 (cnCells cnZero) 46
    have qg39 := (Since.refl qw35).alloc (.cells (cnCells cnZero) 46)
    replace qB2 := qB2.since qg39
    replace qB23 := qB23.since qg39
    replace qB28 := qB28.since qg39
    replace qB11 := qB11.since qg39
    replace qB14 := qB14.since qg39
    replace qB17 := qB17.since qg39
    replace H2 := H2.since qg39
    replace H3 := H3.since qg39
    replace G := G.trans qg39
    generalize qw35.alloc (.cells (cnCells cnZero) 46) = qw37 at qB2 qB23 qB28 qB11 qB14 qB17 H2 H3 G qB38 qg39 ⊢
    have qB38_l := qB38.lt
    have qg39_s := qg39.size
    refine sB (cnCells { F1 with pa := some ⟨g3, 0, none⟩, pc := cp3 }) cn_big qB38 (cn_size _) (cn_size _) (cn_one _) ?_
    intro qw40 qt41 qB42
    clear qB38
    replace qB2 := qB2.touch qt41 (by omega)
    replace qB23 := qB23.touch qt41 (by omega)
    replace qB28 := qB28.touch qt41 (by omega)
    replace qB11 := qB11.touch qt41 (by omega)
    replace qB14 := qB14.touch qt41 (by omega)
    replace qB17 := qB17.touch qt41 (by omega)
    replace H2 := H2.touch qt41 (by omega)
    replace H3 := H3.touch qt41 (by omega)
    replace G := since_touch G qt41 (by omega)
    have qt41_s := qt41.size
    refine vV (.string S1) ?_
    refine vE #[.agg #[.int .i64 r, .string d, .bool e, .int .i64 n], .agg (cnCells { F with pa := some ⟨q, 0, none⟩, pc := p }), .agg (cnCells { T with pa := some ⟨q2, 0, none⟩, pc := p2 }), .pointer (some ⟨w.heap.size, 0, none⟩), .pointer (some ⟨qw1.heap.size, 0, none⟩), .pointer (some ⟨qw4.heap.size, 0, none⟩), .pointer (some ⟨qw7.heap.size, 0, none⟩), .pointer (some ⟨qw10.heap.size, 0, none⟩), .pointer (some ⟨qw13.heap.size, 0, none⟩), .pointer (some ⟨qw35.heap.size, 0, none⟩), .string S1, undef, undef, .agg (cnCells { F with pa := some ⟨q, 0, none⟩, pc := p }), .agg (cnCells { F with pa := some ⟨g, 0, none⟩, pc := cp }), .agg (cnCells { T with pa := some ⟨q2, 0, none⟩, pc := p2 }), .agg (cnCells { T with pa := some ⟨g2, 0, none⟩, pc := cp2 }), .agg #[.int .i64 r, .string d, .bool e, .int .i64 n], .bool true, .bool false, .bool false, .agg (cnCells { F with pa := some ⟨g, 0, none⟩, pc := cp }), .bool true, .bool false, .bool false, .bool false, .agg (cnCells { T with pa := some ⟨g2, 0, none⟩, pc := cp2 }), .bool true, .bool false, .bool false, undef, undef, undef, .tuple #[.agg (cnCells { F1 with pa := some ⟨g3, 0, none⟩, pc := cp3 }), .string S1], .agg (cnCells { F with pa := some ⟨g, 0, none⟩, pc := cp }), .pointer (some ⟨w.heap.size, 0, none⟩), .int .i64 r, .pointer (some ⟨w.heap.size, 1, none⟩), .string d, .int .i64 (d.size : Int), .int .i64 (r - (d.size : Int)), .tuple #[.agg (cnCells { F1 with pa := some ⟨g3, 0, none⟩, pc := cp3 }), .string S1], .agg (cnCells { F1 with pa := some ⟨g3, 0, none⟩, pc := cp3 }), .string S1, undef, undef, undef, undef, undef, undef, undef, undef, undef, undef, undef, undef, undef, undef, undef, undef, undef, undef, undef, undef, undef, undef, undef, undef, undef, undef, undef, undef, undef, undef, undef, undef, undef, undef, undef, undef, undef, undef, undef, undef, undef, undef, undef, undef] ?_
    go_upto_region 6 with (fail)
    refine vR ?_
    refine vV (.pointer (some ⟨w.heap.size, 1, none⟩)) ?_
    refine vD (.string d) (qB2.cell 1) ?_
    refine vV (.string S1) ?_
    refine vAdd d S1 (by omega) ?_
    rw [eD.out]
    refine vV (.pointer (some ⟨w.heap.size, 1, none⟩)) ?_
    refine sC #[.int .i64 r, .string D1, .bool e, .int .i64 n] qB2 1 (.string D1) rfl ?_
    intro qw43 qt44 qB45
    clear qB2
    replace qB23 := qB23.touch qt44 (by omega)
    replace qB28 := qB28.touch qt44 (by omega)
    replace qB11 := qB11.touch qt44 (by omega)
    replace qB14 := qB14.touch qt44 (by omega)
    replace qB17 := qB17.touch qt44 (by omega)
    replace qB42 := qB42.touch qt44 (by omega)
    replace H2 := H2.touch qt44 (by omega)
    replace H3 := H3.touch qt44 (by omega)
    replace G := since_touch G qt44 (by omega)
    have qt44_s := qt44.size
    refine vE #[.agg #[.int .i64 r, .string d, .bool e, .int .i64 n], .agg (cnCells { F with pa := some ⟨q, 0, none⟩, pc := p }), .agg (cnCells { T with pa := some ⟨q2, 0, none⟩, pc := p2 }), .pointer (some ⟨w.heap.size, 0, none⟩), .pointer (some ⟨qw1.heap.size, 0, none⟩), .pointer (some ⟨qw4.heap.size, 0, none⟩), .pointer (some ⟨qw7.heap.size, 0, none⟩), .pointer (some ⟨qw10.heap.size, 0, none⟩), .pointer (some ⟨qw13.heap.size, 0, none⟩), .pointer (some ⟨qw35.heap.size, 0, none⟩), .string S1, undef, undef, .agg (cnCells { F with pa := some ⟨q, 0, none⟩, pc := p }), .agg (cnCells { F with pa := some ⟨g, 0, none⟩, pc := cp }), .agg (cnCells { T with pa := some ⟨q2, 0, none⟩, pc := p2 }), .agg (cnCells { T with pa := some ⟨g2, 0, none⟩, pc := cp2 }), .agg #[.int .i64 r, .string d, .bool e, .int .i64 n], .bool true, .bool false, .bool false, .agg (cnCells { F with pa := some ⟨g, 0, none⟩, pc := cp }), .bool true, .bool false, .bool false, .bool false, .agg (cnCells { T with pa := some ⟨g2, 0, none⟩, pc := cp2 }), .bool true, .bool false, .bool false, undef, undef, undef, .tuple #[.agg (cnCells { F1 with pa := some ⟨g3, 0, none⟩, pc := cp3 }), .string S1], .agg (cnCells { F with pa := some ⟨g, 0, none⟩, pc := cp }), .pointer (some ⟨w.heap.size, 0, none⟩), .int .i64 r, .pointer (some ⟨w.heap.size, 1, none⟩), .string d, .int .i64 (d.size : Int), .int .i64 (r - (d.size : Int)), .tuple #[.agg (cnCells { F1 with pa := some ⟨g3, 0, none⟩, pc := cp3 }), .string S1], .agg (cnCells { F1 with pa := some ⟨g3, 0, none⟩, pc := cp3 }), .string S1, .pointer (some ⟨w.heap.size, 1, none⟩), .string d, .string S1, .string D1, .pointer (some ⟨w.heap.size, 1, none⟩), undef, undef, undef, undef, undef, undef, undef, undef, undef, undef, undef, undef, undef, undef, undef, undef, undef, undef, undef, undef, undef, undef, undef, undef, undef, undef, undef, undef, undef, undef, undef, undef, undef, undef, undef, undef, undef, undef, undef] ?_
    go_upto_region 7 with (fail)
    refine vR ?_
    refine vB cn_big qB28 (cn_size _) ?_
    refine vV (.pointer (some ⟨w.heap.size, 1, none⟩)) ?_
    refine vD (.string D1) (qB45.cell 1) ?_
    refine vC (hw1 g2 cp2 _ H2.reads) ?_
    rintro _ qw46 ⟨g4, cp4, rfl, H4, qg47⟩
    refine ⟨_, rfl, ?_⟩
    replace qB45 := qB45.since qg47
    replace qB23 := qB23.since qg47
    replace qB28 := qB28.since qg47
    replace qB11 := qB11.since qg47
    replace qB14 := qB14.since qg47
    replace qB17 := qB17.since qg47
    replace qB42 := qB42.since qg47
    replace H2 := H2.since qg47
    replace H3 := H3.since qg47
    replace G := G.trans qg47
    have qg47_s := qg47.size
    have H4_0 := H4.low'
    replace H4 := H4.raise (show w.heap.size ≤ g4 by omega)
    have H4_1 := H4.lt
    clear H2
    refine vV (.tuple #[.agg (cnCells { T1 with pa := some ⟨g4, 0, none⟩, pc := cp4 }), .int .i64 (M : Int)]) ?_
    refine vV (.agg (cnCells { T1 with pa := some ⟨g4, 0, none⟩, pc := cp4 })) ?_
    refine vV (.int .i64 (M : Int)) ?_
    refine vW (qw46.alloc (.cells (cnCells cnZero) 46)) (.pointer (some ⟨qw46.heap.size, 0, none⟩)) ?_
    have qB49 := Blk.new qw46 (cnCells cnZero) 46
    have qg50 := (Since.refl qw46).alloc (.cells (cnCells cnZero) 46)
    replace qB45 := qB45.since qg50
    replace qB23 := qB23.since qg50
    replace qB28 := qB28.since qg50
    replace qB11 := qB11.since qg50
    replace qB14 := qB14.since qg50
    replace qB17 := qB17.since qg50
    replace qB42 := qB42.since qg50
    replace H3 := H3.since qg50
    replace H4 := H4.since qg50
    replace G := G.trans qg50
    generalize qw46.alloc (.cells (cnCells cnZero) 46) = qw48 at qB45 qB23 qB28 qB11 qB14 qB17 qB42 H3 H4 G qB49 qg50 ⊢
    have qB49_l := qB49.lt
    have qg50_s := qg50.size
    refine sB (cnCells { T1 with pa := some ⟨g4, 0, none⟩, pc := cp4 }) cn_big qB49 (cn_size _) (cn_size _) (cn_one _) ?_
    intro qw51 qt52 qB53
    clear qB49
    replace qB45 := qB45.touch qt52 (by omega)
    replace qB23 := qB23.touch qt52 (by omega)
    replace qB28 := qB28.touch qt52 (by omega)
    replace qB11 := qB11.touch qt52 (by omega)
    replace qB14 := qB14.touch qt52 (by omega)
    replace qB17 := qB17.touch qt52 (by omega)
    replace qB42 := qB42.touch qt52 (by omega)
    replace H3 := H3.touch qt52 (by omega)
    replace H4 := H4.touch qt52 (by omega)
    replace G := since_touch G qt52 (by omega)
    have qt52_s := qt52.size
    refine vV (.int .i64 (M : Int)) ?_
    refine vE #[.agg #[.int .i64 r, .string d, .bool e, .int .i64 n], .agg (cnCells { F with pa := some ⟨q, 0, none⟩, pc := p }), .agg (cnCells { T with pa := some ⟨q2, 0, none⟩, pc := p2 }), .pointer (some ⟨w.heap.size, 0, none⟩), .pointer (some ⟨qw1.heap.size, 0, none⟩), .pointer (some ⟨qw4.heap.size, 0, none⟩), .pointer (some ⟨qw7.heap.size, 0, none⟩), .pointer (some ⟨qw10.heap.size, 0, none⟩), .pointer (some ⟨qw13.heap.size, 0, none⟩), .pointer (some ⟨qw35.heap.size, 0, none⟩), .string S1, .pointer (some ⟨qw46.heap.size, 0, none⟩), .int .i64 (M : Int), .agg (cnCells { F with pa := some ⟨q, 0, none⟩, pc := p }), .agg (cnCells { F with pa := some ⟨g, 0, none⟩, pc := cp }), .agg (cnCells { T with pa := some ⟨q2, 0, none⟩, pc := p2 }), .agg (cnCells { T with pa := some ⟨g2, 0, none⟩, pc := cp2 }), .agg #[.int .i64 r, .string d, .bool e, .int .i64 n], .bool true, .bool false, .bool false, .agg (cnCells { F with pa := some ⟨g, 0, none⟩, pc := cp }), .bool true, .bool false, .bool false, .bool false, .agg (cnCells { T with pa := some ⟨g2, 0, none⟩, pc := cp2 }), .bool true, .bool false, .bool false, undef, undef, undef, .tuple #[.agg (cnCells { F1 with pa := some ⟨g3, 0, none⟩, pc := cp3 }), .string S1], .agg (cnCells { F with pa := some ⟨g, 0, none⟩, pc := cp }), .pointer (some ⟨w.heap.size, 0, none⟩), .int .i64 r, .pointer (some ⟨w.heap.size, 1, none⟩), .string d, .int .i64 (d.size : Int), .int .i64 (r - (d.size : Int)), .tuple #[.agg (cnCells { F1 with pa := some ⟨g3, 0, none⟩, pc := cp3 }), .string S1], .agg (cnCells { F1 with pa := some ⟨g3, 0, none⟩, pc := cp3 }), .string S1, .pointer (some ⟨w.heap.size, 1, none⟩), .string d, .string S1, .string D1, .pointer (some ⟨w.heap.size, 1, none⟩), .tuple #[.agg (cnCells { T1 with pa := some ⟨g4, 0, none⟩, pc := cp4 }), .int .i64 (M : Int)], .agg (cnCells { T with pa := some ⟨g2, 0, none⟩, pc := cp2 }), .pointer (some ⟨w.heap.size, 1, none⟩), .string D1, .tuple #[.agg (cnCells { T1 with pa := some ⟨g4, 0, none⟩, pc := cp4 }), .int .i64 (M : Int)], .agg (cnCells { T1 with pa := some ⟨g4, 0, none⟩, pc := cp4 }), .int .i64 (M : Int), undef, undef, undef, undef, undef, undef, undef, undef, undef, undef, undef, undef, undef, undef, undef, undef, undef, undef, undef, undef, undef, undef, undef, undef, undef, undef, undef, undef, undef, undef, undef, undef] ?_
    go_upto_region 8 with (fail)
    refine vR ?_
    refine vV (.pointer (some ⟨w.heap.size, 1, none⟩)) ?_
    refine vD (.string D1) (qB45.cell 1) ?_
    refine vV (.int .i64 (M : Int)) ?_
    refine vCut D1 M (by omega) (by omega) ?_
    rw [← hD2.out]
    refine vV (.pointer (some ⟨w.heap.size, 1, none⟩)) ?_
    refine sC #[.int .i64 r, .string D2, .bool e, .int .i64 n] qB45 1 (.string D2) rfl ?_
    intro qw54 qt55 qB56
    clear qB45
    replace qB23 := qB23.touch qt55 (by omega)
    replace qB28 := qB28.touch qt55 (by omega)
    replace qB11 := qB11.touch qt55 (by omega)
    replace qB14 := qB14.touch qt55 (by omega)
    replace qB17 := qB17.touch qt55 (by omega)
    replace qB42 := qB42.touch qt55 (by omega)
    replace qB53 := qB53.touch qt55 (by omega)
    replace H3 := H3.touch qt55 (by omega)
    replace H4 := H4.touch qt55 (by omega)
    replace G := since_touch G qt55 (by omega)
    have qt55_s := qt55.size
    refine vE #[.agg #[.int .i64 r, .string d, .bool e, .int .i64 n], .agg (cnCells { F with pa := some ⟨q, 0, none⟩, pc := p }), .agg (cnCells { T with pa := some ⟨q2, 0, none⟩, pc := p2 }), .pointer (some ⟨w.heap.size, 0, none⟩), .pointer (some ⟨qw1.heap.size, 0, none⟩), .pointer (some ⟨qw4.heap.size, 0, none⟩), .pointer (some ⟨qw7.heap.size, 0, none⟩), .pointer (some ⟨qw10.heap.size, 0, none⟩), .pointer (some ⟨qw13.heap.size, 0, none⟩), .pointer (some ⟨qw35.heap.size, 0, none⟩), .string S1, .pointer (some ⟨qw46.heap.size, 0, none⟩), .int .i64 (M : Int), .agg (cnCells { F with pa := some ⟨q, 0, none⟩, pc := p }), .agg (cnCells { F with pa := some ⟨g, 0, none⟩, pc := cp }), .agg (cnCells { T with pa := some ⟨q2, 0, none⟩, pc := p2 }), .agg (cnCells { T with pa := some ⟨g2, 0, none⟩, pc := cp2 }), .agg #[.int .i64 r, .string d, .bool e, .int .i64 n], .bool true, .bool false, .bool false, .agg (cnCells { F with pa := some ⟨g, 0, none⟩, pc := cp }), .bool true, .bool false, .bool false, .bool false, .agg (cnCells { T with pa := some ⟨g2, 0, none⟩, pc := cp2 }), .bool true, .bool false, .bool false, undef, undef, undef, .tuple #[.agg (cnCells { F1 with pa := some ⟨g3, 0, none⟩, pc := cp3 }), .string S1], .agg (cnCells { F with pa := some ⟨g, 0, none⟩, pc := cp }), .pointer (some ⟨w.heap.size, 0, none⟩), .int .i64 r, .pointer (some ⟨w.heap.size, 1, none⟩), .string d, .int .i64 (d.size : Int), .int .i64 (r - (d.size : Int)), .tuple #[.agg (cnCells { F1 with pa := some ⟨g3, 0, none⟩, pc := cp3 }), .string S1], .agg (cnCells { F1 with pa := some ⟨g3, 0, none⟩, pc := cp3 }), .string S1, .pointer (some ⟨w.heap.size, 1, none⟩), .string d, .string S1, .string D1, .pointer (some ⟨w.heap.size, 1, none⟩), .tuple #[.agg (cnCells { T1 with pa := some ⟨g4, 0, none⟩, pc := cp4 }), .int .i64 (M : Int)], .agg (cnCells { T with pa := some ⟨g2, 0, none⟩, pc := cp2 }), .pointer (some ⟨w.heap.size, 1, none⟩), .string D1, .tuple #[.agg (cnCells { T1 with pa := some ⟨g4, 0, none⟩, pc := cp4 }), .int .i64 (M : Int)], .agg (cnCells { T1 with pa := some ⟨g4, 0, none⟩, pc := cp4 }), .int .i64 (M : Int), .pointer (some ⟨w.heap.size, 1, none⟩), .string D1, .int .i64 (M : Int), .string D2, .pointer (some ⟨w.heap.size, 1, none⟩), undef, undef, undef, undef, undef, undef, undef, undef, undef, undef, undef, undef, undef, undef, undef, undef, undef, undef, undef, undef, undef, undef, undef, undef, undef, undef, undef] ?_
    go_upto_region 9 with (fail)
    refine vR ?_
    refine vV (.pointer (some ⟨w.heap.size, 3, none⟩)) ?_
    refine vD (.int .i64 n) (qB56.cell 3) ?_
    refine vV (.int .i64 (M : Int)) ?_
    refine vV (.int .i64 (n + (M : Int))) ?_ (hrun := by rw [← ewn]; kernel_rfl)
    refine vC (hcl _) ?_
    rintro _ _ ⟨rfl, rfl⟩
    refine ⟨_, rfl, ?_⟩
    refine vV (.pointer (some ⟨w.heap.size, 3, none⟩)) ?_
    refine sC #[.int .i64 r, .string D2, .bool e, .int .i64 xN] qB56 3 (.int .i64 xN) rfl ?_
    intro qw57 qt58 qB59
    clear qB56
    replace qB23 := qB23.touch qt58 (by omega)
    replace qB28 := qB28.touch qt58 (by omega)
    replace qB11 := qB11.touch qt58 (by omega)
    replace qB14 := qB14.touch qt58 (by omega)
    replace qB17 := qB17.touch qt58 (by omega)
    replace qB42 := qB42.touch qt58 (by omega)
    replace qB53 := qB53.touch qt58 (by omega)
    replace H3 := H3.touch qt58 (by omega)
    replace H4 := H4.touch qt58 (by omega)
    replace G := since_touch G qt58 (by omega)
    have qt58_s := qt58.size
    refine vE #[.agg #[.int .i64 r, .string d, .bool e, .int .i64 n], .agg (cnCells { F with pa := some ⟨q, 0, none⟩, pc := p }), .agg (cnCells { T with pa := some ⟨q2, 0, none⟩, pc := p2 }), .pointer (some ⟨w.heap.size, 0, none⟩), .pointer (some ⟨qw1.heap.size, 0, none⟩), .pointer (some ⟨qw4.heap.size, 0, none⟩), .pointer (some ⟨qw7.heap.size, 0, none⟩), .pointer (some ⟨qw10.heap.size, 0, none⟩), .pointer (some ⟨qw13.heap.size, 0, none⟩), .pointer (some ⟨qw35.heap.size, 0, none⟩), .string S1, .pointer (some ⟨qw46.heap.size, 0, none⟩), .int .i64 (M : Int), .agg (cnCells { F with pa := some ⟨q, 0, none⟩, pc := p }), .agg (cnCells { F with pa := some ⟨g, 0, none⟩, pc := cp }), .agg (cnCells { T with pa := some ⟨q2, 0, none⟩, pc := p2 }), .agg (cnCells { T with pa := some ⟨g2, 0, none⟩, pc := cp2 }), .agg #[.int .i64 r, .string d, .bool e, .int .i64 n], .bool true, .bool false, .bool false, .agg (cnCells { F with pa := some ⟨g, 0, none⟩, pc := cp }), .bool true, .bool false, .bool false, .bool false, .agg (cnCells { T with pa := some ⟨g2, 0, none⟩, pc := cp2 }), .bool true, .bool false, .bool false, undef, undef, undef, .tuple #[.agg (cnCells { F1 with pa := some ⟨g3, 0, none⟩, pc := cp3 }), .string S1], .agg (cnCells { F with pa := some ⟨g, 0, none⟩, pc := cp }), .pointer (some ⟨w.heap.size, 0, none⟩), .int .i64 r, .pointer (some ⟨w.heap.size, 1, none⟩), .string d, .int .i64 (d.size : Int), .int .i64 (r - (d.size : Int)), .tuple #[.agg (cnCells { F1 with pa := some ⟨g3, 0, none⟩, pc := cp3 }), .string S1], .agg (cnCells { F1 with pa := some ⟨g3, 0, none⟩, pc := cp3 }), .string S1, .pointer (some ⟨w.heap.size, 1, none⟩), .string d, .string S1, .string D1, .pointer (some ⟨w.heap.size, 1, none⟩), .tuple #[.agg (cnCells { T1 with pa := some ⟨g4, 0, none⟩, pc := cp4 }), .int .i64 (M : Int)], .agg (cnCells { T with pa := some ⟨g2, 0, none⟩, pc := cp2 }), .pointer (some ⟨w.heap.size, 1, none⟩), .string D1, .tuple #[.agg (cnCells { T1 with pa := some ⟨g4, 0, none⟩, pc := cp4 }), .int .i64 (M : Int)], .agg (cnCells { T1 with pa := some ⟨g4, 0, none⟩, pc := cp4 }), .int .i64 (M : Int), .pointer (some ⟨w.heap.size, 1, none⟩), .string D1, .int .i64 (M : Int), .string D2, .pointer (some ⟨w.heap.size, 1, none⟩), .pointer (some ⟨w.heap.size, 3, none⟩), .int .i64 n, .int .i64 (M : Int), .int .i64 (n + (M : Int)), .int .i64 xN, .pointer (some ⟨w.heap.size, 3, none⟩), undef, undef, undef, undef, undef, undef, undef, undef, undef, undef, undef, undef, undef, undef, undef, undef, undef, undef, undef, undef, undef] ?_
    go_upto_region 10 with (fail)
    rcases Bool.eq_false_or_eq_true F1.gfn with hgf | hgf
    all_goals replace hgf : Hid _ := hgf
    case inl =>
      cases c1
      case false =>
        rcases Bool.eq_false_or_eq_true e with hee | hee
        all_goals replace hee : Hid _ := hee
        case inl =>
          cases c2
          case false =>
            have eE : Hid (xE = true) := (by rw [hxE.out]; unfold mvE; rw [hmk.out]; show endE r d e F ps = _; unfold endE; rw [← hF1.out, hgf.out, ← hc1.out]; exact hee.out : xE = true)
            have eT : Hid (xT = T1) := (by rw [hxT.out]; unfold mvT; rw [hmk.out]; show shutT (endE r d e F ps) (leftD r d F ps T qs) (writeC T qs (gotD r d F ps)) qs = _; have e1 : endE r d e F ps = true := (by rw [← eE.out, hxE.out]; unfold mvE; rw [hmk.out]; rfl); rw [e1, eL.out, ← hD1e.out, ← hT1.out]; unfold shutT; rw [← hc2.out]; rfl : xT = T1)
            refine vR ?_
            refine vV (.pointer (some ⟨qw35.heap.size, 18, none⟩)) ?_
            refine vD (.bool true) ((qB42.cell 18).trans (by show some (.bool F1.gfn : Value) = some (.bool true : Value); rw [hgf.out])) ?_
            refine vV (.bool true) ?_
            refine vV (.pointer (some ⟨qw35.heap.size, 11, none⟩)) ?_
            refine vV (.pointer (some ⟨qw35.heap.size, 12, none⟩)) ?_
            refine vD (.string F1.iD) (qB42.cell 12) ?_
            refine vEmp (F1.iD) false (hc1.out.symm) ?_
            refine vV (.bool false) ?_
            refine vE #[.agg #[.int .i64 r, .string d, .bool e, .int .i64 n], .agg (cnCells { F with pa := some ⟨q, 0, none⟩, pc := p }), .agg (cnCells { T with pa := some ⟨q2, 0, none⟩, pc := p2 }), .pointer (some ⟨w.heap.size, 0, none⟩), .pointer (some ⟨qw1.heap.size, 0, none⟩), .pointer (some ⟨qw4.heap.size, 0, none⟩), .pointer (some ⟨qw7.heap.size, 0, none⟩), .pointer (some ⟨qw10.heap.size, 0, none⟩), .pointer (some ⟨qw13.heap.size, 0, none⟩), .pointer (some ⟨qw35.heap.size, 0, none⟩), .string S1, .pointer (some ⟨qw46.heap.size, 0, none⟩), .int .i64 (M : Int), .agg (cnCells { F with pa := some ⟨q, 0, none⟩, pc := p }), .agg (cnCells { F with pa := some ⟨g, 0, none⟩, pc := cp }), .agg (cnCells { T with pa := some ⟨q2, 0, none⟩, pc := p2 }), .agg (cnCells { T with pa := some ⟨g2, 0, none⟩, pc := cp2 }), .agg #[.int .i64 r, .string d, .bool e, .int .i64 n], .bool true, .bool false, .bool false, .agg (cnCells { F with pa := some ⟨g, 0, none⟩, pc := cp }), .bool true, .bool false, .bool false, .bool false, .agg (cnCells { T with pa := some ⟨g2, 0, none⟩, pc := cp2 }), .bool true, .bool false, .bool false, undef, undef, undef, .tuple #[.agg (cnCells { F1 with pa := some ⟨g3, 0, none⟩, pc := cp3 }), .string S1], .agg (cnCells { F with pa := some ⟨g, 0, none⟩, pc := cp }), .pointer (some ⟨w.heap.size, 0, none⟩), .int .i64 r, .pointer (some ⟨w.heap.size, 1, none⟩), .string d, .int .i64 (d.size : Int), .int .i64 (r - (d.size : Int)), .tuple #[.agg (cnCells { F1 with pa := some ⟨g3, 0, none⟩, pc := cp3 }), .string S1], .agg (cnCells { F1 with pa := some ⟨g3, 0, none⟩, pc := cp3 }), .string S1, .pointer (some ⟨w.heap.size, 1, none⟩), .string d, .string S1, .string D1, .pointer (some ⟨w.heap.size, 1, none⟩), .tuple #[.agg (cnCells { T1 with pa := some ⟨g4, 0, none⟩, pc := cp4 }), .int .i64 (M : Int)], .agg (cnCells { T with pa := some ⟨g2, 0, none⟩, pc := cp2 }), .pointer (some ⟨w.heap.size, 1, none⟩), .string D1, .tuple #[.agg (cnCells { T1 with pa := some ⟨g4, 0, none⟩, pc := cp4 }), .int .i64 (M : Int)], .agg (cnCells { T1 with pa := some ⟨g4, 0, none⟩, pc := cp4 }), .int .i64 (M : Int), .pointer (some ⟨w.heap.size, 1, none⟩), .string D1, .int .i64 (M : Int), .string D2, .pointer (some ⟨w.heap.size, 1, none⟩), .pointer (some ⟨w.heap.size, 3, none⟩), .int .i64 n, .int .i64 (M : Int), .int .i64 (n + (M : Int)), .int .i64 xN, .pointer (some ⟨w.heap.size, 3, none⟩), .pointer (some ⟨qw35.heap.size, 18, none⟩), .bool true, .bool true, .pointer (some ⟨qw35.heap.size, 11, none⟩), .pointer (some ⟨qw35.heap.size, 12, none⟩), .string F1.iD, .bool false, .bool false, undef, undef, undef, undef, undef, undef, undef, undef, undef, undef, undef, undef, undef] ?_
            go_upto_region 12 with (fail)
            refine vR ?_
            refine vV (.pointer (some ⟨w.heap.size, 2, none⟩)) ?_
            refine vD (.bool true) ((qB59.cell 2).trans (by show some (.bool e : Value) = some (.bool true : Value); rw [hee.out])) ?_
            refine vV (.bool true) ?_
            refine vV (.pointer (some ⟨w.heap.size, 1, none⟩)) ?_
            refine vD (.string D2) (qB59.cell 1) ?_
            refine vEmp (D2) false (hc2.out.symm) ?_
            refine vV (.bool false) ?_
            refine vE #[.agg #[.int .i64 r, .string d, .bool e, .int .i64 n], .agg (cnCells { F with pa := some ⟨q, 0, none⟩, pc := p }), .agg (cnCells { T with pa := some ⟨q2, 0, none⟩, pc := p2 }), .pointer (some ⟨w.heap.size, 0, none⟩), .pointer (some ⟨qw1.heap.size, 0, none⟩), .pointer (some ⟨qw4.heap.size, 0, none⟩), .pointer (some ⟨qw7.heap.size, 0, none⟩), .pointer (some ⟨qw10.heap.size, 0, none⟩), .pointer (some ⟨qw13.heap.size, 0, none⟩), .pointer (some ⟨qw35.heap.size, 0, none⟩), .string S1, .pointer (some ⟨qw46.heap.size, 0, none⟩), .int .i64 (M : Int), .agg (cnCells { F with pa := some ⟨q, 0, none⟩, pc := p }), .agg (cnCells { F with pa := some ⟨g, 0, none⟩, pc := cp }), .agg (cnCells { T with pa := some ⟨q2, 0, none⟩, pc := p2 }), .agg (cnCells { T with pa := some ⟨g2, 0, none⟩, pc := cp2 }), .agg #[.int .i64 r, .string d, .bool e, .int .i64 n], .bool true, .bool false, .bool false, .agg (cnCells { F with pa := some ⟨g, 0, none⟩, pc := cp }), .bool true, .bool false, .bool false, .bool false, .agg (cnCells { T with pa := some ⟨g2, 0, none⟩, pc := cp2 }), .bool true, .bool false, .bool false, undef, undef, undef, .tuple #[.agg (cnCells { F1 with pa := some ⟨g3, 0, none⟩, pc := cp3 }), .string S1], .agg (cnCells { F with pa := some ⟨g, 0, none⟩, pc := cp }), .pointer (some ⟨w.heap.size, 0, none⟩), .int .i64 r, .pointer (some ⟨w.heap.size, 1, none⟩), .string d, .int .i64 (d.size : Int), .int .i64 (r - (d.size : Int)), .tuple #[.agg (cnCells { F1 with pa := some ⟨g3, 0, none⟩, pc := cp3 }), .string S1], .agg (cnCells { F1 with pa := some ⟨g3, 0, none⟩, pc := cp3 }), .string S1, .pointer (some ⟨w.heap.size, 1, none⟩), .string d, .string S1, .string D1, .pointer (some ⟨w.heap.size, 1, none⟩), .tuple #[.agg (cnCells { T1 with pa := some ⟨g4, 0, none⟩, pc := cp4 }), .int .i64 (M : Int)], .agg (cnCells { T with pa := some ⟨g2, 0, none⟩, pc := cp2 }), .pointer (some ⟨w.heap.size, 1, none⟩), .string D1, .tuple #[.agg (cnCells { T1 with pa := some ⟨g4, 0, none⟩, pc := cp4 }), .int .i64 (M : Int)], .agg (cnCells { T1 with pa := some ⟨g4, 0, none⟩, pc := cp4 }), .int .i64 (M : Int), .pointer (some ⟨w.heap.size, 1, none⟩), .string D1, .int .i64 (M : Int), .string D2, .pointer (some ⟨w.heap.size, 1, none⟩), .pointer (some ⟨w.heap.size, 3, none⟩), .int .i64 n, .int .i64 (M : Int), .int .i64 (n + (M : Int)), .int .i64 xN, .pointer (some ⟨w.heap.size, 3, none⟩), .pointer (some ⟨qw35.heap.size, 18, none⟩), .bool true, .bool true, .pointer (some ⟨qw35.heap.size, 11, none⟩), .pointer (some ⟨qw35.heap.size, 12, none⟩), .string F1.iD, .bool false, .bool false, undef, .pointer (some ⟨w.heap.size, 2, none⟩), .bool true, .bool true, .pointer (some ⟨w.heap.size, 1, none⟩), .string D2, .bool false, .bool false, undef, undef, undef, undef, undef] ?_
            go_upto_region 14 with (fail)
            have hN0 : 0 < qw57.heap.size := by have := qB59.lt; omega
            refine wp_region_low (Low (fun b => b < qw57.heap.size)) (fun i x v => match i with
                | 0 => v = .agg #[.int .i64 r, .string D2, .bool e, .int .i64 xN]
                | 1 => v = .agg (cnCells { F1 with pa := some ⟨g3, 0, none⟩, pc := cp3 })
                | 2 => v = .agg (cnCells { T1 with pa := some ⟨g4, 0, none⟩, pc := cp4 })
                | 3 => True
                | 4 => True
                | 5 => True
                | _ => True) (fun f vals x => Blk w.heap.size x #[.int .i64 r, .string D2, .bool e, .int .i64 xN] ∧ Blk qw1.heap.size x (cnCells { F with pa := some ⟨g, 0, none⟩, pc := cp }) ∧ Blk qw4.heap.size x (cnCells { T with pa := some ⟨g2, 0, none⟩, pc := cp2 }) ∧ Blk qw7.heap.size x (if f 3 then #[.int .i64 r, .string D2, .bool e, .int .i64 xN] else #[.int .i64 0, .string ByteArray.empty, .bool false, .int .i64 0]) ∧ Blk qw10.heap.size x (if f 4 then (cnCells { F1 with pa := some ⟨g3, 0, none⟩, pc := cp3 }) else (cnCells cnZero)) ∧ Blk qw13.heap.size x (if f 5 then (cnCells { T1 with pa := some ⟨g4, 0, none⟩, pc := cp4 }) else (cnCells cnZero)) ∧ Blk qw35.heap.size x (cnCells { F1 with pa := some ⟨g3, 0, none⟩, pc := cp3 }) ∧ Blk qw46.heap.size x (cnCells { T1 with pa := some ⟨g4, 0, none⟩, pc := cp4 }) ∧ Held shP x w.heap.size g3 F.pn cp3 ps ∧ Held shP x w.heap.size g4 T.pn cp4 qs ∧ qw57.heap.size ≤ x.heap.size ∧ Since w x) (fun v => { tmps := #[.agg #[.int .i64 r, .string d, .bool e, .int .i64 n], .agg (cnCells { F with pa := some ⟨q, 0, none⟩, pc := p }), .agg (cnCells { T with pa := some ⟨q2, 0, none⟩, pc := p2 }), .pointer (some ⟨w.heap.size, 0, none⟩), .pointer (some ⟨qw1.heap.size, 0, none⟩), .pointer (some ⟨qw4.heap.size, 0, none⟩), .pointer (some ⟨qw7.heap.size, 0, none⟩), .pointer (some ⟨qw10.heap.size, 0, none⟩), .pointer (some ⟨qw13.heap.size, 0, none⟩), .pointer (some ⟨qw35.heap.size, 0, none⟩), .string S1, .pointer (some ⟨qw46.heap.size, 0, none⟩), .int .i64 (M : Int), .agg (cnCells { F with pa := some ⟨q, 0, none⟩, pc := p }), .agg (cnCells { F with pa := some ⟨g, 0, none⟩, pc := cp }), .agg (cnCells { T with pa := some ⟨q2, 0, none⟩, pc := p2 }), .agg (cnCells { T with pa := some ⟨g2, 0, none⟩, pc := cp2 }), .agg #[.int .i64 r, .string d, .bool e, .int .i64 n], .bool true, .bool false, .bool false, .agg (cnCells { F with pa := some ⟨g, 0, none⟩, pc := cp }), .bool true, .bool false, .bool false, .bool false, .agg (cnCells { T with pa := some ⟨g2, 0, none⟩, pc := cp2 }), .bool true, .bool false, .bool false, undef, undef, undef, .tuple #[.agg (cnCells { F1 with pa := some ⟨g3, 0, none⟩, pc := cp3 }), .string S1], .agg (cnCells { F with pa := some ⟨g, 0, none⟩, pc := cp }), .pointer (some ⟨w.heap.size, 0, none⟩), .int .i64 r, .pointer (some ⟨w.heap.size, 1, none⟩), .string d, .int .i64 (d.size : Int), .int .i64 (r - (d.size : Int)), .tuple #[.agg (cnCells { F1 with pa := some ⟨g3, 0, none⟩, pc := cp3 }), .string S1], .agg (cnCells { F1 with pa := some ⟨g3, 0, none⟩, pc := cp3 }), .string S1, .pointer (some ⟨w.heap.size, 1, none⟩), .string d, .string S1, .string D1, .pointer (some ⟨w.heap.size, 1, none⟩), .tuple #[.agg (cnCells { T1 with pa := some ⟨g4, 0, none⟩, pc := cp4 }), .int .i64 (M : Int)], .agg (cnCells { T with pa := some ⟨g2, 0, none⟩, pc := cp2 }), .pointer (some ⟨w.heap.size, 1, none⟩), .string D1, .tuple #[.agg (cnCells { T1 with pa := some ⟨g4, 0, none⟩, pc := cp4 }), .int .i64 (M : Int)], .agg (cnCells { T1 with pa := some ⟨g4, 0, none⟩, pc := cp4 }), .int .i64 (M : Int), .pointer (some ⟨w.heap.size, 1, none⟩), .string D1, .int .i64 (M : Int), .string D2, .pointer (some ⟨w.heap.size, 1, none⟩), .pointer (some ⟨w.heap.size, 3, none⟩), .int .i64 n, .int .i64 (M : Int), .int .i64 (n + (M : Int)), .int .i64 xN, .pointer (some ⟨w.heap.size, 3, none⟩), .pointer (some ⟨qw35.heap.size, 18, none⟩), .bool true, .bool true, .pointer (some ⟨qw35.heap.size, 11, none⟩), .pointer (some ⟨qw35.heap.size, 12, none⟩), .string F1.iD, .bool false, .bool false, undef, .pointer (some ⟨w.heap.size, 2, none⟩), .bool true, .bool true, .pointer (some ⟨w.heap.size, 1, none⟩), .string D2, .bool false, .bool false, undef, undef, v 0, v 1, v 2], defers := [] }) (by kernel_rfl) (by kernel_rfl) ?_ ?_ (fun vals => by kernel_rfl) ?_ ?_
            case refine_1 =>
              intro j x y v hl hv
              match j, hv with
              | 0, hv | 1, hv | 2, hv => exact hv
              | 3, hv | 4, hv | 5, hv => trivial
              | n + 6, _ => trivial
            case refine_2 =>
              intro f vals hf
              refine ⟨qB59.since ((Since.refl _).drew), qB23.since ((Since.refl _).drew), qB28.since ((Since.refl _).drew), (by rw [hf 3]; exact qB11.since ((Since.refl _).drew)), (by rw [hf 4]; exact qB14.since ((Since.refl _).drew)), (by rw [hf 5]; exact qB17.since ((Since.refl _).drew)), qB42.since ((Since.refl _).drew), qB53.since ((Since.refl _).drew), H3.since ((Since.refl _).drew), H4.since ((Since.refl _).drew), ((Since.refl _).drew).size, G.trans ((Since.refl _).drew)⟩
            case refine_3 =>
              repeat (first | exact eachLow_nil | refine eachLow_cons ?_ ?_)
              all_goals intro f vals x hf hr hK
              all_goals obtain ⟨k0, k1, k2, k3, k4, k5, k6, k7, k8, k9, k10, k11⟩ := hK
              · have ev : vals 2 = .agg (cnCells { T1 with pa := some ⟨g4, 0, none⟩, pc := cp4 }) := (hr ⟨2, .data⟩ (by simp) rfl).2
                have kz : Blk qw13.heap.size x (cnCells cnZero) := by have := k5; rw [hf] at this; exact this
                refine does_store cn_big (cn_size _) (Raw.of kz (cn_size _)) (cn_one _) _ _ rfl rfl ev ?_
                intro z t B
                exact ⟨Low.touch t (show qw13.heap.size < qw57.heap.size by omega), ⟨k0.touch t (by omega), k1.touch t (by omega), k2.touch t (by omega), k3.touch t (by omega), k4.touch t (by omega), B, k6.touch t (by omega), k7.touch t (by omega), k8.touch t (by omega), k9.touch t (by omega), Nat.le_trans k10 t.size, since_touch k11 t (by omega)⟩, trivial⟩
              · have ev : vals 1 = .agg (cnCells { F1 with pa := some ⟨g3, 0, none⟩, pc := cp3 }) := (hr ⟨1, .data⟩ (by simp) rfl).2
                have kz : Blk qw10.heap.size x (cnCells cnZero) := by have := k4; rw [hf] at this; exact this
                refine does_store cn_big (cn_size _) (Raw.of kz (cn_size _)) (cn_one _) _ _ rfl rfl ev ?_
                intro z t B
                exact ⟨Low.touch t (show qw10.heap.size < qw57.heap.size by omega), ⟨k0.touch t (by omega), k1.touch t (by omega), k2.touch t (by omega), k3.touch t (by omega), B, k5.touch t (by omega), k6.touch t (by omega), k7.touch t (by omega), k8.touch t (by omega), k9.touch t (by omega), Nat.le_trans k10 t.size, since_touch k11 t (by omega)⟩, trivial⟩
              · have ev : vals 0 = .agg #[.int .i64 r, .string D2, .bool e, .int .i64 xN] := (hr ⟨0, .data⟩ (by simp) rfl).2
                have kz : Blk qw7.heap.size x #[.int .i64 0, .string ByteArray.empty, .bool false, .int .i64 0] := by have := k3; rw [hf] at this; exact this
                refine does_store pp_big rfl (Raw.of kz rfl) (by simp [Value.oneCell']) _ _ rfl rfl ev ?_
                intro z t B
                exact ⟨Low.touch t (show qw7.heap.size < qw57.heap.size by omega), ⟨k0.touch t (by omega), k1.touch t (by omega), k2.touch t (by omega), B, k4.touch t (by omega), k5.touch t (by omega), k6.touch t (by omega), k7.touch t (by omega), k8.touch t (by omega), k9.touch t (by omega), Nat.le_trans k10 t.size, since_touch k11 t (by omega)⟩, trivial⟩
              · exact does_load cn_big (cn_size _) k7 _ rfl rfl ⟨Low.since (b := 0) (Since.refl _) (hN0), ⟨k0, k1, k2, k3, k4, k5, k6, k7, k8, k9, k10, k11⟩, rfl⟩
              · exact does_load cn_big (cn_size _) k6 _ rfl rfl ⟨Low.since (b := 0) (Since.refl _) (hN0), ⟨k0, k1, k2, k3, k4, k5, k6, k7, k8, k9, k10, k11⟩, rfl⟩
              · exact does_load pp_big rfl k0 _ rfl rfl ⟨Low.since (b := 0) (Since.refl _) (hN0), ⟨k0, k1, k2, k3, k4, k5, k6, k7, k8, k9, k10, k11⟩, rfl⟩
            case refine_4 =>
              intro f qv61 qw60 hK hf hv
              obtain ⟨k0, k1, k2, k3, k4, k5, k6, k7, k8, k9, k10, k11⟩ := hK
              clear qB59 qB23 qB28 qB11 qB14 qB17 qB42 qB53 H3 H4 G
              have hv0 : qv61 0 = _ := hv 0 (by decide)
              have hv1 : qv61 1 = _ := hv 1 (by decide)
              have hv2 : qv61 2 = _ := hv 2 (by decide)
              clear hv
              simp only [hv0, hv1, hv2]
              clear hv0 hv1 hv2
              have qB59 := k0
              clear k0
              have qB23 := k1
              clear k1
              have qB28 := k2
              clear k2
              have qB11 : Blk qw7.heap.size qw60 #[.int .i64 r, .string D2, .bool e, .int .i64 xN] := by have := k3; rw [hf 3 (by decide)] at this; exact this
              clear k3
              have qB14 : Blk qw10.heap.size qw60 (cnCells { F1 with pa := some ⟨g3, 0, none⟩, pc := cp3 }) := by have := k4; rw [hf 4 (by decide)] at this; exact this
              clear k4
              have qB17 : Blk qw13.heap.size qw60 (cnCells { T1 with pa := some ⟨g4, 0, none⟩, pc := cp4 }) := by have := k5; rw [hf 5 (by decide)] at this; exact this
              clear k5
              have qB42 := k6
              clear k6
              have qB53 := k7
              clear k7
              have H3 := k8
              clear k8
              have H4 := k9
              clear k9
              have G := k11
              clear k11
              have qw60_l := qB53.lt
              have qw60_n := k10
              clear k10
              go_wp2_with (fail)
              exact bodyPost_ret (results_3 (hs := rfl) (t := 6) (u := 7) (v := 8) rfl _ rfl rfl rfl qB11 qB14 qB17) rfl ⟨_, _, _, _, by rw [eX.out, eE.out, ← hee.out, eF.out, eT.out], H3, H4, by omega, G⟩
          case true =>
            have eE : Hid (xE = true) := (by rw [hxE.out]; unfold mvE; rw [hmk.out]; show endE r d e F ps = _; unfold endE; rw [← hF1.out, hgf.out, ← hc1.out]; exact hee.out : xE = true)
            have eT : Hid (xT = T2) := (by rw [hxT.out]; unfold mvT; rw [hmk.out]; show shutT (endE r d e F ps) (leftD r d F ps T qs) (writeC T qs (gotD r d F ps)) qs = _; have e1 : endE r d e F ps = true := (by rw [← eE.out, hxE.out]; unfold mvE; rw [hmk.out]; rfl); rw [e1, eL.out, ← hD1e.out, ← hT1.out]; unfold shutT; rw [← hc2.out]; exact hT2.out.symm : xT = T2)
            refine vR ?_
            refine vV (.pointer (some ⟨qw35.heap.size, 18, none⟩)) ?_
            refine vD (.bool true) ((qB42.cell 18).trans (by show some (.bool F1.gfn : Value) = some (.bool true : Value); rw [hgf.out])) ?_
            refine vV (.bool true) ?_
            refine vV (.pointer (some ⟨qw35.heap.size, 11, none⟩)) ?_
            refine vV (.pointer (some ⟨qw35.heap.size, 12, none⟩)) ?_
            refine vD (.string F1.iD) (qB42.cell 12) ?_
            refine vEmp (F1.iD) false (hc1.out.symm) ?_
            refine vV (.bool false) ?_
            refine vE #[.agg #[.int .i64 r, .string d, .bool e, .int .i64 n], .agg (cnCells { F with pa := some ⟨q, 0, none⟩, pc := p }), .agg (cnCells { T with pa := some ⟨q2, 0, none⟩, pc := p2 }), .pointer (some ⟨w.heap.size, 0, none⟩), .pointer (some ⟨qw1.heap.size, 0, none⟩), .pointer (some ⟨qw4.heap.size, 0, none⟩), .pointer (some ⟨qw7.heap.size, 0, none⟩), .pointer (some ⟨qw10.heap.size, 0, none⟩), .pointer (some ⟨qw13.heap.size, 0, none⟩), .pointer (some ⟨qw35.heap.size, 0, none⟩), .string S1, .pointer (some ⟨qw46.heap.size, 0, none⟩), .int .i64 (M : Int), .agg (cnCells { F with pa := some ⟨q, 0, none⟩, pc := p }), .agg (cnCells { F with pa := some ⟨g, 0, none⟩, pc := cp }), .agg (cnCells { T with pa := some ⟨q2, 0, none⟩, pc := p2 }), .agg (cnCells { T with pa := some ⟨g2, 0, none⟩, pc := cp2 }), .agg #[.int .i64 r, .string d, .bool e, .int .i64 n], .bool true, .bool false, .bool false, .agg (cnCells { F with pa := some ⟨g, 0, none⟩, pc := cp }), .bool true, .bool false, .bool false, .bool false, .agg (cnCells { T with pa := some ⟨g2, 0, none⟩, pc := cp2 }), .bool true, .bool false, .bool false, undef, undef, undef, .tuple #[.agg (cnCells { F1 with pa := some ⟨g3, 0, none⟩, pc := cp3 }), .string S1], .agg (cnCells { F with pa := some ⟨g, 0, none⟩, pc := cp }), .pointer (some ⟨w.heap.size, 0, none⟩), .int .i64 r, .pointer (some ⟨w.heap.size, 1, none⟩), .string d, .int .i64 (d.size : Int), .int .i64 (r - (d.size : Int)), .tuple #[.agg (cnCells { F1 with pa := some ⟨g3, 0, none⟩, pc := cp3 }), .string S1], .agg (cnCells { F1 with pa := some ⟨g3, 0, none⟩, pc := cp3 }), .string S1, .pointer (some ⟨w.heap.size, 1, none⟩), .string d, .string S1, .string D1, .pointer (some ⟨w.heap.size, 1, none⟩), .tuple #[.agg (cnCells { T1 with pa := some ⟨g4, 0, none⟩, pc := cp4 }), .int .i64 (M : Int)], .agg (cnCells { T with pa := some ⟨g2, 0, none⟩, pc := cp2 }), .pointer (some ⟨w.heap.size, 1, none⟩), .string D1, .tuple #[.agg (cnCells { T1 with pa := some ⟨g4, 0, none⟩, pc := cp4 }), .int .i64 (M : Int)], .agg (cnCells { T1 with pa := some ⟨g4, 0, none⟩, pc := cp4 }), .int .i64 (M : Int), .pointer (some ⟨w.heap.size, 1, none⟩), .string D1, .int .i64 (M : Int), .string D2, .pointer (some ⟨w.heap.size, 1, none⟩), .pointer (some ⟨w.heap.size, 3, none⟩), .int .i64 n, .int .i64 (M : Int), .int .i64 (n + (M : Int)), .int .i64 xN, .pointer (some ⟨w.heap.size, 3, none⟩), .pointer (some ⟨qw35.heap.size, 18, none⟩), .bool true, .bool true, .pointer (some ⟨qw35.heap.size, 11, none⟩), .pointer (some ⟨qw35.heap.size, 12, none⟩), .string F1.iD, .bool false, .bool false, undef, undef, undef, undef, undef, undef, undef, undef, undef, undef, undef, undef, undef] ?_
            go_upto_region 12 with (fail)
            refine vR ?_
            refine vV (.pointer (some ⟨w.heap.size, 2, none⟩)) ?_
            refine vD (.bool true) ((qB59.cell 2).trans (by show some (.bool e : Value) = some (.bool true : Value); rw [hee.out])) ?_
            refine vV (.bool true) ?_
            refine vV (.pointer (some ⟨w.heap.size, 1, none⟩)) ?_
            refine vD (.string D2) (qB59.cell 1) ?_
            refine vEmp (D2) true (hc2.out.symm) ?_
            refine vV (.bool true) ?_
            refine vE #[.agg #[.int .i64 r, .string d, .bool e, .int .i64 n], .agg (cnCells { F with pa := some ⟨q, 0, none⟩, pc := p }), .agg (cnCells { T with pa := some ⟨q2, 0, none⟩, pc := p2 }), .pointer (some ⟨w.heap.size, 0, none⟩), .pointer (some ⟨qw1.heap.size, 0, none⟩), .pointer (some ⟨qw4.heap.size, 0, none⟩), .pointer (some ⟨qw7.heap.size, 0, none⟩), .pointer (some ⟨qw10.heap.size, 0, none⟩), .pointer (some ⟨qw13.heap.size, 0, none⟩), .pointer (some ⟨qw35.heap.size, 0, none⟩), .string S1, .pointer (some ⟨qw46.heap.size, 0, none⟩), .int .i64 (M : Int), .agg (cnCells { F with pa := some ⟨q, 0, none⟩, pc := p }), .agg (cnCells { F with pa := some ⟨g, 0, none⟩, pc := cp }), .agg (cnCells { T with pa := some ⟨q2, 0, none⟩, pc := p2 }), .agg (cnCells { T with pa := some ⟨g2, 0, none⟩, pc := cp2 }), .agg #[.int .i64 r, .string d, .bool e, .int .i64 n], .bool true, .bool false, .bool false, .agg (cnCells { F with pa := some ⟨g, 0, none⟩, pc := cp }), .bool true, .bool false, .bool false, .bool false, .agg (cnCells { T with pa := some ⟨g2, 0, none⟩, pc := cp2 }), .bool true, .bool false, .bool false, undef, undef, undef, .tuple #[.agg (cnCells { F1 with pa := some ⟨g3, 0, none⟩, pc := cp3 }), .string S1], .agg (cnCells { F with pa := some ⟨g, 0, none⟩, pc := cp }), .pointer (some ⟨w.heap.size, 0, none⟩), .int .i64 r, .pointer (some ⟨w.heap.size, 1, none⟩), .string d, .int .i64 (d.size : Int), .int .i64 (r - (d.size : Int)), .tuple #[.agg (cnCells { F1 with pa := some ⟨g3, 0, none⟩, pc := cp3 }), .string S1], .agg (cnCells { F1 with pa := some ⟨g3, 0, none⟩, pc := cp3 }), .string S1, .pointer (some ⟨w.heap.size, 1, none⟩), .string d, .string S1, .string D1, .pointer (some ⟨w.heap.size, 1, none⟩), .tuple #[.agg (cnCells { T1 with pa := some ⟨g4, 0, none⟩, pc := cp4 }), .int .i64 (M : Int)], .agg (cnCells { T with pa := some ⟨g2, 0, none⟩, pc := cp2 }), .pointer (some ⟨w.heap.size, 1, none⟩), .string D1, .tuple #[.agg (cnCells { T1 with pa := some ⟨g4, 0, none⟩, pc := cp4 }), .int .i64 (M : Int)], .agg (cnCells { T1 with pa := some ⟨g4, 0, none⟩, pc := cp4 }), .int .i64 (M : Int), .pointer (some ⟨w.heap.size, 1, none⟩), .string D1, .int .i64 (M : Int), .string D2, .pointer (some ⟨w.heap.size, 1, none⟩), .pointer (some ⟨w.heap.size, 3, none⟩), .int .i64 n, .int .i64 (M : Int), .int .i64 (n + (M : Int)), .int .i64 xN, .pointer (some ⟨w.heap.size, 3, none⟩), .pointer (some ⟨qw35.heap.size, 18, none⟩), .bool true, .bool true, .pointer (some ⟨qw35.heap.size, 11, none⟩), .pointer (some ⟨qw35.heap.size, 12, none⟩), .string F1.iD, .bool false, .bool false, undef, .pointer (some ⟨w.heap.size, 2, none⟩), .bool true, .bool true, .pointer (some ⟨w.heap.size, 1, none⟩), .string D2, .bool true, .bool true, undef, undef, undef, undef, undef] ?_
            go_upto_region 13 with (fail)
            refine vR ?_
            refine vB cn_big qB53 (cn_size _) ?_
            refine vC (hs1 g4 cp4 _ H4.reads) ?_
            rintro _ qw60 ⟨g5, cp5, rfl, H5, qg61⟩
            refine ⟨_, rfl, ?_⟩
            replace qB59 := qB59.since qg61
            replace qB23 := qB23.since qg61
            replace qB28 := qB28.since qg61
            replace qB11 := qB11.since qg61
            replace qB14 := qB14.since qg61
            replace qB17 := qB17.since qg61
            replace qB42 := qB42.since qg61
            replace qB53 := qB53.since qg61
            replace H3 := H3.since qg61
            replace H4 := H4.since qg61
            replace G := G.trans qg61
            have qg61_s := qg61.size
            have H5_0 := H5.low'
            replace H5 := H5.raise (show w.heap.size ≤ g5 by omega)
            have H5_1 := H5.lt
            clear H4
            refine sB (cnCells { T2 with pa := some ⟨g5, 0, none⟩, pc := cp5 }) cn_big qB53 (cn_size _) (cn_size _) (cn_one _) ?_
            intro qw62 qt63 qB64
            clear qB53
            replace qB59 := qB59.touch qt63 (by omega)
            replace qB23 := qB23.touch qt63 (by omega)
            replace qB28 := qB28.touch qt63 (by omega)
            replace qB11 := qB11.touch qt63 (by omega)
            replace qB14 := qB14.touch qt63 (by omega)
            replace qB17 := qB17.touch qt63 (by omega)
            replace qB42 := qB42.touch qt63 (by omega)
            replace H3 := H3.touch qt63 (by omega)
            replace H5 := H5.touch qt63 (by omega)
            replace G := since_touch G qt63 (by omega)
            have qt63_s := qt63.size
            refine vE #[.agg #[.int .i64 r, .string d, .bool e, .int .i64 n], .agg (cnCells { F with pa := some ⟨q, 0, none⟩, pc := p }), .agg (cnCells { T with pa := some ⟨q2, 0, none⟩, pc := p2 }), .pointer (some ⟨w.heap.size, 0, none⟩), .pointer (some ⟨qw1.heap.size, 0, none⟩), .pointer (some ⟨qw4.heap.size, 0, none⟩), .pointer (some ⟨qw7.heap.size, 0, none⟩), .pointer (some ⟨qw10.heap.size, 0, none⟩), .pointer (some ⟨qw13.heap.size, 0, none⟩), .pointer (some ⟨qw35.heap.size, 0, none⟩), .string S1, .pointer (some ⟨qw46.heap.size, 0, none⟩), .int .i64 (M : Int), .agg (cnCells { F with pa := some ⟨q, 0, none⟩, pc := p }), .agg (cnCells { F with pa := some ⟨g, 0, none⟩, pc := cp }), .agg (cnCells { T with pa := some ⟨q2, 0, none⟩, pc := p2 }), .agg (cnCells { T with pa := some ⟨g2, 0, none⟩, pc := cp2 }), .agg #[.int .i64 r, .string d, .bool e, .int .i64 n], .bool true, .bool false, .bool false, .agg (cnCells { F with pa := some ⟨g, 0, none⟩, pc := cp }), .bool true, .bool false, .bool false, .bool false, .agg (cnCells { T with pa := some ⟨g2, 0, none⟩, pc := cp2 }), .bool true, .bool false, .bool false, undef, undef, undef, .tuple #[.agg (cnCells { F1 with pa := some ⟨g3, 0, none⟩, pc := cp3 }), .string S1], .agg (cnCells { F with pa := some ⟨g, 0, none⟩, pc := cp }), .pointer (some ⟨w.heap.size, 0, none⟩), .int .i64 r, .pointer (some ⟨w.heap.size, 1, none⟩), .string d, .int .i64 (d.size : Int), .int .i64 (r - (d.size : Int)), .tuple #[.agg (cnCells { F1 with pa := some ⟨g3, 0, none⟩, pc := cp3 }), .string S1], .agg (cnCells { F1 with pa := some ⟨g3, 0, none⟩, pc := cp3 }), .string S1, .pointer (some ⟨w.heap.size, 1, none⟩), .string d, .string S1, .string D1, .pointer (some ⟨w.heap.size, 1, none⟩), .tuple #[.agg (cnCells { T1 with pa := some ⟨g4, 0, none⟩, pc := cp4 }), .int .i64 (M : Int)], .agg (cnCells { T with pa := some ⟨g2, 0, none⟩, pc := cp2 }), .pointer (some ⟨w.heap.size, 1, none⟩), .string D1, .tuple #[.agg (cnCells { T1 with pa := some ⟨g4, 0, none⟩, pc := cp4 }), .int .i64 (M : Int)], .agg (cnCells { T1 with pa := some ⟨g4, 0, none⟩, pc := cp4 }), .int .i64 (M : Int), .pointer (some ⟨w.heap.size, 1, none⟩), .string D1, .int .i64 (M : Int), .string D2, .pointer (some ⟨w.heap.size, 1, none⟩), .pointer (some ⟨w.heap.size, 3, none⟩), .int .i64 n, .int .i64 (M : Int), .int .i64 (n + (M : Int)), .int .i64 xN, .pointer (some ⟨w.heap.size, 3, none⟩), .pointer (some ⟨qw35.heap.size, 18, none⟩), .bool true, .bool true, .pointer (some ⟨qw35.heap.size, 11, none⟩), .pointer (some ⟨qw35.heap.size, 12, none⟩), .string F1.iD, .bool false, .bool false, undef, .pointer (some ⟨w.heap.size, 2, none⟩), .bool true, .bool true, .pointer (some ⟨w.heap.size, 1, none⟩), .string D2, .bool true, .bool true, .agg (cnCells { T1 with pa := some ⟨g4, 0, none⟩, pc := cp4 }), .agg (cnCells { T2 with pa := some ⟨g5, 0, none⟩, pc := cp5 }), undef, undef, undef] ?_
            go_upto_region 14 with (fail)
            have hN0 : 0 < qw62.heap.size := by have := qB59.lt; omega
            refine wp_region_low (Low (fun b => b < qw62.heap.size)) (fun i x v => match i with
                | 0 => v = .agg #[.int .i64 r, .string D2, .bool e, .int .i64 xN]
                | 1 => v = .agg (cnCells { F1 with pa := some ⟨g3, 0, none⟩, pc := cp3 })
                | 2 => v = .agg (cnCells { T2 with pa := some ⟨g5, 0, none⟩, pc := cp5 })
                | 3 => True
                | 4 => True
                | 5 => True
                | _ => True) (fun f vals x => Blk w.heap.size x #[.int .i64 r, .string D2, .bool e, .int .i64 xN] ∧ Blk qw1.heap.size x (cnCells { F with pa := some ⟨g, 0, none⟩, pc := cp }) ∧ Blk qw4.heap.size x (cnCells { T with pa := some ⟨g2, 0, none⟩, pc := cp2 }) ∧ Blk qw7.heap.size x (if f 3 then #[.int .i64 r, .string D2, .bool e, .int .i64 xN] else #[.int .i64 0, .string ByteArray.empty, .bool false, .int .i64 0]) ∧ Blk qw10.heap.size x (if f 4 then (cnCells { F1 with pa := some ⟨g3, 0, none⟩, pc := cp3 }) else (cnCells cnZero)) ∧ Blk qw13.heap.size x (if f 5 then (cnCells { T2 with pa := some ⟨g5, 0, none⟩, pc := cp5 }) else (cnCells cnZero)) ∧ Blk qw35.heap.size x (cnCells { F1 with pa := some ⟨g3, 0, none⟩, pc := cp3 }) ∧ Blk qw46.heap.size x (cnCells { T2 with pa := some ⟨g5, 0, none⟩, pc := cp5 }) ∧ Held shP x w.heap.size g3 F.pn cp3 ps ∧ Held shP x w.heap.size g5 T1.pn cp5 qs ∧ qw62.heap.size ≤ x.heap.size ∧ Since w x) (fun v => { tmps := #[.agg #[.int .i64 r, .string d, .bool e, .int .i64 n], .agg (cnCells { F with pa := some ⟨q, 0, none⟩, pc := p }), .agg (cnCells { T with pa := some ⟨q2, 0, none⟩, pc := p2 }), .pointer (some ⟨w.heap.size, 0, none⟩), .pointer (some ⟨qw1.heap.size, 0, none⟩), .pointer (some ⟨qw4.heap.size, 0, none⟩), .pointer (some ⟨qw7.heap.size, 0, none⟩), .pointer (some ⟨qw10.heap.size, 0, none⟩), .pointer (some ⟨qw13.heap.size, 0, none⟩), .pointer (some ⟨qw35.heap.size, 0, none⟩), .string S1, .pointer (some ⟨qw46.heap.size, 0, none⟩), .int .i64 (M : Int), .agg (cnCells { F with pa := some ⟨q, 0, none⟩, pc := p }), .agg (cnCells { F with pa := some ⟨g, 0, none⟩, pc := cp }), .agg (cnCells { T with pa := some ⟨q2, 0, none⟩, pc := p2 }), .agg (cnCells { T with pa := some ⟨g2, 0, none⟩, pc := cp2 }), .agg #[.int .i64 r, .string d, .bool e, .int .i64 n], .bool true, .bool false, .bool false, .agg (cnCells { F with pa := some ⟨g, 0, none⟩, pc := cp }), .bool true, .bool false, .bool false, .bool false, .agg (cnCells { T with pa := some ⟨g2, 0, none⟩, pc := cp2 }), .bool true, .bool false, .bool false, undef, undef, undef, .tuple #[.agg (cnCells { F1 with pa := some ⟨g3, 0, none⟩, pc := cp3 }), .string S1], .agg (cnCells { F with pa := some ⟨g, 0, none⟩, pc := cp }), .pointer (some ⟨w.heap.size, 0, none⟩), .int .i64 r, .pointer (some ⟨w.heap.size, 1, none⟩), .string d, .int .i64 (d.size : Int), .int .i64 (r - (d.size : Int)), .tuple #[.agg (cnCells { F1 with pa := some ⟨g3, 0, none⟩, pc := cp3 }), .string S1], .agg (cnCells { F1 with pa := some ⟨g3, 0, none⟩, pc := cp3 }), .string S1, .pointer (some ⟨w.heap.size, 1, none⟩), .string d, .string S1, .string D1, .pointer (some ⟨w.heap.size, 1, none⟩), .tuple #[.agg (cnCells { T1 with pa := some ⟨g4, 0, none⟩, pc := cp4 }), .int .i64 (M : Int)], .agg (cnCells { T with pa := some ⟨g2, 0, none⟩, pc := cp2 }), .pointer (some ⟨w.heap.size, 1, none⟩), .string D1, .tuple #[.agg (cnCells { T1 with pa := some ⟨g4, 0, none⟩, pc := cp4 }), .int .i64 (M : Int)], .agg (cnCells { T1 with pa := some ⟨g4, 0, none⟩, pc := cp4 }), .int .i64 (M : Int), .pointer (some ⟨w.heap.size, 1, none⟩), .string D1, .int .i64 (M : Int), .string D2, .pointer (some ⟨w.heap.size, 1, none⟩), .pointer (some ⟨w.heap.size, 3, none⟩), .int .i64 n, .int .i64 (M : Int), .int .i64 (n + (M : Int)), .int .i64 xN, .pointer (some ⟨w.heap.size, 3, none⟩), .pointer (some ⟨qw35.heap.size, 18, none⟩), .bool true, .bool true, .pointer (some ⟨qw35.heap.size, 11, none⟩), .pointer (some ⟨qw35.heap.size, 12, none⟩), .string F1.iD, .bool false, .bool false, undef, .pointer (some ⟨w.heap.size, 2, none⟩), .bool true, .bool true, .pointer (some ⟨w.heap.size, 1, none⟩), .string D2, .bool true, .bool true, .agg (cnCells { T1 with pa := some ⟨g4, 0, none⟩, pc := cp4 }), .agg (cnCells { T2 with pa := some ⟨g5, 0, none⟩, pc := cp5 }), v 0, v 1, v 2], defers := [] }) (by kernel_rfl) (by kernel_rfl) ?_ ?_ (fun vals => by kernel_rfl) ?_ ?_
            case refine_1 =>
              intro j x y v hl hv
              match j, hv with
              | 0, hv | 1, hv | 2, hv => exact hv
              | 3, hv | 4, hv | 5, hv => trivial
              | n + 6, _ => trivial
            case refine_2 =>
              intro f vals hf
              refine ⟨qB59.since ((Since.refl _).drew), qB23.since ((Since.refl _).drew), qB28.since ((Since.refl _).drew), (by rw [hf 3]; exact qB11.since ((Since.refl _).drew)), (by rw [hf 4]; exact qB14.since ((Since.refl _).drew)), (by rw [hf 5]; exact qB17.since ((Since.refl _).drew)), qB42.since ((Since.refl _).drew), qB64.since ((Since.refl _).drew), H3.since ((Since.refl _).drew), H5.since ((Since.refl _).drew), ((Since.refl _).drew).size, G.trans ((Since.refl _).drew)⟩
            case refine_3 =>
              repeat (first | exact eachLow_nil | refine eachLow_cons ?_ ?_)
              all_goals intro f vals x hf hr hK
              all_goals obtain ⟨k0, k1, k2, k3, k4, k5, k6, k7, k8, k9, k10, k11⟩ := hK
              · have ev : vals 2 = .agg (cnCells { T2 with pa := some ⟨g5, 0, none⟩, pc := cp5 }) := (hr ⟨2, .data⟩ (by simp) rfl).2
                have kz : Blk qw13.heap.size x (cnCells cnZero) := by have := k5; rw [hf] at this; exact this
                refine does_store cn_big (cn_size _) (Raw.of kz (cn_size _)) (cn_one _) _ _ rfl rfl ev ?_
                intro z t B
                exact ⟨Low.touch t (show qw13.heap.size < qw62.heap.size by omega), ⟨k0.touch t (by omega), k1.touch t (by omega), k2.touch t (by omega), k3.touch t (by omega), k4.touch t (by omega), B, k6.touch t (by omega), k7.touch t (by omega), k8.touch t (by omega), k9.touch t (by omega), Nat.le_trans k10 t.size, since_touch k11 t (by omega)⟩, trivial⟩
              · have ev : vals 1 = .agg (cnCells { F1 with pa := some ⟨g3, 0, none⟩, pc := cp3 }) := (hr ⟨1, .data⟩ (by simp) rfl).2
                have kz : Blk qw10.heap.size x (cnCells cnZero) := by have := k4; rw [hf] at this; exact this
                refine does_store cn_big (cn_size _) (Raw.of kz (cn_size _)) (cn_one _) _ _ rfl rfl ev ?_
                intro z t B
                exact ⟨Low.touch t (show qw10.heap.size < qw62.heap.size by omega), ⟨k0.touch t (by omega), k1.touch t (by omega), k2.touch t (by omega), k3.touch t (by omega), B, k5.touch t (by omega), k6.touch t (by omega), k7.touch t (by omega), k8.touch t (by omega), k9.touch t (by omega), Nat.le_trans k10 t.size, since_touch k11 t (by omega)⟩, trivial⟩
              · have ev : vals 0 = .agg #[.int .i64 r, .string D2, .bool e, .int .i64 xN] := (hr ⟨0, .data⟩ (by simp) rfl).2
                have kz : Blk qw7.heap.size x #[.int .i64 0, .string ByteArray.empty, .bool false, .int .i64 0] := by have := k3; rw [hf] at this; exact this
                refine does_store pp_big rfl (Raw.of kz rfl) (by simp [Value.oneCell']) _ _ rfl rfl ev ?_
                intro z t B
                exact ⟨Low.touch t (show qw7.heap.size < qw62.heap.size by omega), ⟨k0.touch t (by omega), k1.touch t (by omega), k2.touch t (by omega), B, k4.touch t (by omega), k5.touch t (by omega), k6.touch t (by omega), k7.touch t (by omega), k8.touch t (by omega), k9.touch t (by omega), Nat.le_trans k10 t.size, since_touch k11 t (by omega)⟩, trivial⟩
              · exact does_load cn_big (cn_size _) k7 _ rfl rfl ⟨Low.since (b := 0) (Since.refl _) (hN0), ⟨k0, k1, k2, k3, k4, k5, k6, k7, k8, k9, k10, k11⟩, rfl⟩
              · exact does_load cn_big (cn_size _) k6 _ rfl rfl ⟨Low.since (b := 0) (Since.refl _) (hN0), ⟨k0, k1, k2, k3, k4, k5, k6, k7, k8, k9, k10, k11⟩, rfl⟩
              · exact does_load pp_big rfl k0 _ rfl rfl ⟨Low.since (b := 0) (Since.refl _) (hN0), ⟨k0, k1, k2, k3, k4, k5, k6, k7, k8, k9, k10, k11⟩, rfl⟩
            case refine_4 =>
              intro f qv66 qw65 hK hf hv
              obtain ⟨k0, k1, k2, k3, k4, k5, k6, k7, k8, k9, k10, k11⟩ := hK
              clear qB59 qB23 qB28 qB11 qB14 qB17 qB42 qB64 H3 H5 G
              have hv0 : qv66 0 = _ := hv 0 (by decide)
              have hv1 : qv66 1 = _ := hv 1 (by decide)
              have hv2 : qv66 2 = _ := hv 2 (by decide)
              clear hv
              simp only [hv0, hv1, hv2]
              clear hv0 hv1 hv2
              have qB59 := k0
              clear k0
              have qB23 := k1
              clear k1
              have qB28 := k2
              clear k2
              have qB11 : Blk qw7.heap.size qw65 #[.int .i64 r, .string D2, .bool e, .int .i64 xN] := by have := k3; rw [hf 3 (by decide)] at this; exact this
              clear k3
              have qB14 : Blk qw10.heap.size qw65 (cnCells { F1 with pa := some ⟨g3, 0, none⟩, pc := cp3 }) := by have := k4; rw [hf 4 (by decide)] at this; exact this
              clear k4
              have qB17 : Blk qw13.heap.size qw65 (cnCells { T2 with pa := some ⟨g5, 0, none⟩, pc := cp5 }) := by have := k5; rw [hf 5 (by decide)] at this; exact this
              clear k5
              have qB42 := k6
              clear k6
              have qB64 := k7
              clear k7
              have H3 := k8
              clear k8
              have H5 := k9
              clear k9
              have G := k11
              clear k11
              have qw65_l := qB64.lt
              have qw65_n := k10
              clear k10
              go_wp2_with (fail)
              exact bodyPost_ret (results_3 (hs := rfl) (t := 6) (u := 7) (v := 8) rfl _ rfl rfl rfl qB11 qB14 qB17) rfl ⟨_, _, _, _, by rw [eX.out, eE.out, ← hee.out, eF.out, eT.out], H3, (by rw [← pT1]; exact H5), by omega, G⟩
        case inr =>
          have eE : Hid (xE = false) := (by rw [hxE.out]; unfold mvE; rw [hmk.out]; show endE r d e F ps = _; unfold endE; rw [← hF1.out, hgf.out, ← hc1.out]; exact hee.out : xE = false)
          have eT : Hid (xT = T1) := (by rw [hxT.out]; unfold mvT; rw [hmk.out]; show shutT (endE r d e F ps) (leftD r d F ps T qs) (writeC T qs (gotD r d F ps)) qs = _; have e1 : endE r d e F ps = false := (by rw [← eE.out, hxE.out]; unfold mvE; rw [hmk.out]; rfl); rw [e1, eL.out, ← hD1e.out, ← hT1.out]; unfold shutT; rfl : xT = T1)
          refine vR ?_
          refine vV (.pointer (some ⟨qw35.heap.size, 18, none⟩)) ?_
          refine vD (.bool true) ((qB42.cell 18).trans (by show some (.bool F1.gfn : Value) = some (.bool true : Value); rw [hgf.out])) ?_
          refine vV (.bool true) ?_
          refine vV (.pointer (some ⟨qw35.heap.size, 11, none⟩)) ?_
          refine vV (.pointer (some ⟨qw35.heap.size, 12, none⟩)) ?_
          refine vD (.string F1.iD) (qB42.cell 12) ?_
          refine vEmp (F1.iD) false (hc1.out.symm) ?_
          refine vV (.bool false) ?_
          refine vE #[.agg #[.int .i64 r, .string d, .bool e, .int .i64 n], .agg (cnCells { F with pa := some ⟨q, 0, none⟩, pc := p }), .agg (cnCells { T with pa := some ⟨q2, 0, none⟩, pc := p2 }), .pointer (some ⟨w.heap.size, 0, none⟩), .pointer (some ⟨qw1.heap.size, 0, none⟩), .pointer (some ⟨qw4.heap.size, 0, none⟩), .pointer (some ⟨qw7.heap.size, 0, none⟩), .pointer (some ⟨qw10.heap.size, 0, none⟩), .pointer (some ⟨qw13.heap.size, 0, none⟩), .pointer (some ⟨qw35.heap.size, 0, none⟩), .string S1, .pointer (some ⟨qw46.heap.size, 0, none⟩), .int .i64 (M : Int), .agg (cnCells { F with pa := some ⟨q, 0, none⟩, pc := p }), .agg (cnCells { F with pa := some ⟨g, 0, none⟩, pc := cp }), .agg (cnCells { T with pa := some ⟨q2, 0, none⟩, pc := p2 }), .agg (cnCells { T with pa := some ⟨g2, 0, none⟩, pc := cp2 }), .agg #[.int .i64 r, .string d, .bool e, .int .i64 n], .bool true, .bool false, .bool false, .agg (cnCells { F with pa := some ⟨g, 0, none⟩, pc := cp }), .bool true, .bool false, .bool false, .bool false, .agg (cnCells { T with pa := some ⟨g2, 0, none⟩, pc := cp2 }), .bool true, .bool false, .bool false, undef, undef, undef, .tuple #[.agg (cnCells { F1 with pa := some ⟨g3, 0, none⟩, pc := cp3 }), .string S1], .agg (cnCells { F with pa := some ⟨g, 0, none⟩, pc := cp }), .pointer (some ⟨w.heap.size, 0, none⟩), .int .i64 r, .pointer (some ⟨w.heap.size, 1, none⟩), .string d, .int .i64 (d.size : Int), .int .i64 (r - (d.size : Int)), .tuple #[.agg (cnCells { F1 with pa := some ⟨g3, 0, none⟩, pc := cp3 }), .string S1], .agg (cnCells { F1 with pa := some ⟨g3, 0, none⟩, pc := cp3 }), .string S1, .pointer (some ⟨w.heap.size, 1, none⟩), .string d, .string S1, .string D1, .pointer (some ⟨w.heap.size, 1, none⟩), .tuple #[.agg (cnCells { T1 with pa := some ⟨g4, 0, none⟩, pc := cp4 }), .int .i64 (M : Int)], .agg (cnCells { T with pa := some ⟨g2, 0, none⟩, pc := cp2 }), .pointer (some ⟨w.heap.size, 1, none⟩), .string D1, .tuple #[.agg (cnCells { T1 with pa := some ⟨g4, 0, none⟩, pc := cp4 }), .int .i64 (M : Int)], .agg (cnCells { T1 with pa := some ⟨g4, 0, none⟩, pc := cp4 }), .int .i64 (M : Int), .pointer (some ⟨w.heap.size, 1, none⟩), .string D1, .int .i64 (M : Int), .string D2, .pointer (some ⟨w.heap.size, 1, none⟩), .pointer (some ⟨w.heap.size, 3, none⟩), .int .i64 n, .int .i64 (M : Int), .int .i64 (n + (M : Int)), .int .i64 xN, .pointer (some ⟨w.heap.size, 3, none⟩), .pointer (some ⟨qw35.heap.size, 18, none⟩), .bool true, .bool true, .pointer (some ⟨qw35.heap.size, 11, none⟩), .pointer (some ⟨qw35.heap.size, 12, none⟩), .string F1.iD, .bool false, .bool false, undef, undef, undef, undef, undef, undef, undef, undef, undef, undef, undef, undef, undef] ?_
          go_upto_region 12 with (fail)
          refine vR ?_
          refine vV (.pointer (some ⟨w.heap.size, 2, none⟩)) ?_
          refine vD (.bool false) ((qB59.cell 2).trans (by show some (.bool e : Value) = some (.bool false : Value); rw [hee.out])) ?_
          refine vV (.bool false) ?_
          refine vS ?_
          refine vS ?_
          refine vS ?_
          refine vV (.bool false) ?_
          refine vE #[.agg #[.int .i64 r, .string d, .bool e, .int .i64 n], .agg (cnCells { F with pa := some ⟨q, 0, none⟩, pc := p }), .agg (cnCells { T with pa := some ⟨q2, 0, none⟩, pc := p2 }), .pointer (some ⟨w.heap.size, 0, none⟩), .pointer (some ⟨qw1.heap.size, 0, none⟩), .pointer (some ⟨qw4.heap.size, 0, none⟩), .pointer (some ⟨qw7.heap.size, 0, none⟩), .pointer (some ⟨qw10.heap.size, 0, none⟩), .pointer (some ⟨qw13.heap.size, 0, none⟩), .pointer (some ⟨qw35.heap.size, 0, none⟩), .string S1, .pointer (some ⟨qw46.heap.size, 0, none⟩), .int .i64 (M : Int), .agg (cnCells { F with pa := some ⟨q, 0, none⟩, pc := p }), .agg (cnCells { F with pa := some ⟨g, 0, none⟩, pc := cp }), .agg (cnCells { T with pa := some ⟨q2, 0, none⟩, pc := p2 }), .agg (cnCells { T with pa := some ⟨g2, 0, none⟩, pc := cp2 }), .agg #[.int .i64 r, .string d, .bool e, .int .i64 n], .bool true, .bool false, .bool false, .agg (cnCells { F with pa := some ⟨g, 0, none⟩, pc := cp }), .bool true, .bool false, .bool false, .bool false, .agg (cnCells { T with pa := some ⟨g2, 0, none⟩, pc := cp2 }), .bool true, .bool false, .bool false, undef, undef, undef, .tuple #[.agg (cnCells { F1 with pa := some ⟨g3, 0, none⟩, pc := cp3 }), .string S1], .agg (cnCells { F with pa := some ⟨g, 0, none⟩, pc := cp }), .pointer (some ⟨w.heap.size, 0, none⟩), .int .i64 r, .pointer (some ⟨w.heap.size, 1, none⟩), .string d, .int .i64 (d.size : Int), .int .i64 (r - (d.size : Int)), .tuple #[.agg (cnCells { F1 with pa := some ⟨g3, 0, none⟩, pc := cp3 }), .string S1], .agg (cnCells { F1 with pa := some ⟨g3, 0, none⟩, pc := cp3 }), .string S1, .pointer (some ⟨w.heap.size, 1, none⟩), .string d, .string S1, .string D1, .pointer (some ⟨w.heap.size, 1, none⟩), .tuple #[.agg (cnCells { T1 with pa := some ⟨g4, 0, none⟩, pc := cp4 }), .int .i64 (M : Int)], .agg (cnCells { T with pa := some ⟨g2, 0, none⟩, pc := cp2 }), .pointer (some ⟨w.heap.size, 1, none⟩), .string D1, .tuple #[.agg (cnCells { T1 with pa := some ⟨g4, 0, none⟩, pc := cp4 }), .int .i64 (M : Int)], .agg (cnCells { T1 with pa := some ⟨g4, 0, none⟩, pc := cp4 }), .int .i64 (M : Int), .pointer (some ⟨w.heap.size, 1, none⟩), .string D1, .int .i64 (M : Int), .string D2, .pointer (some ⟨w.heap.size, 1, none⟩), .pointer (some ⟨w.heap.size, 3, none⟩), .int .i64 n, .int .i64 (M : Int), .int .i64 (n + (M : Int)), .int .i64 xN, .pointer (some ⟨w.heap.size, 3, none⟩), .pointer (some ⟨qw35.heap.size, 18, none⟩), .bool true, .bool true, .pointer (some ⟨qw35.heap.size, 11, none⟩), .pointer (some ⟨qw35.heap.size, 12, none⟩), .string F1.iD, .bool false, .bool false, undef, .pointer (some ⟨w.heap.size, 2, none⟩), .bool false, .bool false, undef, undef, undef, .bool false, undef, undef, undef, undef, undef] ?_
          go_upto_region 14 with (fail)
          have hN0 : 0 < qw57.heap.size := by have := qB59.lt; omega
          refine wp_region_low (Low (fun b => b < qw57.heap.size)) (fun i x v => match i with
              | 0 => v = .agg #[.int .i64 r, .string D2, .bool e, .int .i64 xN]
              | 1 => v = .agg (cnCells { F1 with pa := some ⟨g3, 0, none⟩, pc := cp3 })
              | 2 => v = .agg (cnCells { T1 with pa := some ⟨g4, 0, none⟩, pc := cp4 })
              | 3 => True
              | 4 => True
              | 5 => True
              | _ => True) (fun f vals x => Blk w.heap.size x #[.int .i64 r, .string D2, .bool e, .int .i64 xN] ∧ Blk qw1.heap.size x (cnCells { F with pa := some ⟨g, 0, none⟩, pc := cp }) ∧ Blk qw4.heap.size x (cnCells { T with pa := some ⟨g2, 0, none⟩, pc := cp2 }) ∧ Blk qw7.heap.size x (if f 3 then #[.int .i64 r, .string D2, .bool e, .int .i64 xN] else #[.int .i64 0, .string ByteArray.empty, .bool false, .int .i64 0]) ∧ Blk qw10.heap.size x (if f 4 then (cnCells { F1 with pa := some ⟨g3, 0, none⟩, pc := cp3 }) else (cnCells cnZero)) ∧ Blk qw13.heap.size x (if f 5 then (cnCells { T1 with pa := some ⟨g4, 0, none⟩, pc := cp4 }) else (cnCells cnZero)) ∧ Blk qw35.heap.size x (cnCells { F1 with pa := some ⟨g3, 0, none⟩, pc := cp3 }) ∧ Blk qw46.heap.size x (cnCells { T1 with pa := some ⟨g4, 0, none⟩, pc := cp4 }) ∧ Held shP x w.heap.size g3 F.pn cp3 ps ∧ Held shP x w.heap.size g4 T.pn cp4 qs ∧ qw57.heap.size ≤ x.heap.size ∧ Since w x) (fun v => { tmps := #[.agg #[.int .i64 r, .string d, .bool e, .int .i64 n], .agg (cnCells { F with pa := some ⟨q, 0, none⟩, pc := p }), .agg (cnCells { T with pa := some ⟨q2, 0, none⟩, pc := p2 }), .pointer (some ⟨w.heap.size, 0, none⟩), .pointer (some ⟨qw1.heap.size, 0, none⟩), .pointer (some ⟨qw4.heap.size, 0, none⟩), .pointer (some ⟨qw7.heap.size, 0, none⟩), .pointer (some ⟨qw10.heap.size, 0, none⟩), .pointer (some ⟨qw13.heap.size, 0, none⟩), .pointer (some ⟨qw35.heap.size, 0, none⟩), .string S1, .pointer (some ⟨qw46.heap.size, 0, none⟩), .int .i64 (M : Int), .agg (cnCells { F with pa := some ⟨q, 0, none⟩, pc := p }), .agg (cnCells { F with pa := some ⟨g, 0, none⟩, pc := cp }), .agg (cnCells { T with pa := some ⟨q2, 0, none⟩, pc := p2 }), .agg (cnCells { T with pa := some ⟨g2, 0, none⟩, pc := cp2 }), .agg #[.int .i64 r, .string d, .bool e, .int .i64 n], .bool true, .bool false, .bool false, .agg (cnCells { F with pa := some ⟨g, 0, none⟩, pc := cp }), .bool true, .bool false, .bool false, .bool false, .agg (cnCells { T with pa := some ⟨g2, 0, none⟩, pc := cp2 }), .bool true, .bool false, .bool false, undef, undef, undef, .tuple #[.agg (cnCells { F1 with pa := some ⟨g3, 0, none⟩, pc := cp3 }), .string S1], .agg (cnCells { F with pa := some ⟨g, 0, none⟩, pc := cp }), .pointer (some ⟨w.heap.size, 0, none⟩), .int .i64 r, .pointer (some ⟨w.heap.size, 1, none⟩), .string d, .int .i64 (d.size : Int), .int .i64 (r - (d.size : Int)), .tuple #[.agg (cnCells { F1 with pa := some ⟨g3, 0, none⟩, pc := cp3 }), .string S1], .agg (cnCells { F1 with pa := some ⟨g3, 0, none⟩, pc := cp3 }), .string S1, .pointer (some ⟨w.heap.size, 1, none⟩), .string d, .string S1, .string D1, .pointer (some ⟨w.heap.size, 1, none⟩), .tuple #[.agg (cnCells { T1 with pa := some ⟨g4, 0, none⟩, pc := cp4 }), .int .i64 (M : Int)], .agg (cnCells { T with pa := some ⟨g2, 0, none⟩, pc := cp2 }), .pointer (some ⟨w.heap.size, 1, none⟩), .string D1, .tuple #[.agg (cnCells { T1 with pa := some ⟨g4, 0, none⟩, pc := cp4 }), .int .i64 (M : Int)], .agg (cnCells { T1 with pa := some ⟨g4, 0, none⟩, pc := cp4 }), .int .i64 (M : Int), .pointer (some ⟨w.heap.size, 1, none⟩), .string D1, .int .i64 (M : Int), .string D2, .pointer (some ⟨w.heap.size, 1, none⟩), .pointer (some ⟨w.heap.size, 3, none⟩), .int .i64 n, .int .i64 (M : Int), .int .i64 (n + (M : Int)), .int .i64 xN, .pointer (some ⟨w.heap.size, 3, none⟩), .pointer (some ⟨qw35.heap.size, 18, none⟩), .bool true, .bool true, .pointer (some ⟨qw35.heap.size, 11, none⟩), .pointer (some ⟨qw35.heap.size, 12, none⟩), .string F1.iD, .bool false, .bool false, undef, .pointer (some ⟨w.heap.size, 2, none⟩), .bool false, .bool false, undef, undef, undef, .bool false, undef, undef, v 0, v 1, v 2], defers := [] }) (by kernel_rfl) (by kernel_rfl) ?_ ?_ (fun vals => by kernel_rfl) ?_ ?_
          case refine_1 =>
            intro j x y v hl hv
            match j, hv with
            | 0, hv | 1, hv | 2, hv => exact hv
            | 3, hv | 4, hv | 5, hv => trivial
            | n + 6, _ => trivial
          case refine_2 =>
            intro f vals hf
            refine ⟨qB59.since ((Since.refl _).drew), qB23.since ((Since.refl _).drew), qB28.since ((Since.refl _).drew), (by rw [hf 3]; exact qB11.since ((Since.refl _).drew)), (by rw [hf 4]; exact qB14.since ((Since.refl _).drew)), (by rw [hf 5]; exact qB17.since ((Since.refl _).drew)), qB42.since ((Since.refl _).drew), qB53.since ((Since.refl _).drew), H3.since ((Since.refl _).drew), H4.since ((Since.refl _).drew), ((Since.refl _).drew).size, G.trans ((Since.refl _).drew)⟩
          case refine_3 =>
            repeat (first | exact eachLow_nil | refine eachLow_cons ?_ ?_)
            all_goals intro f vals x hf hr hK
            all_goals obtain ⟨k0, k1, k2, k3, k4, k5, k6, k7, k8, k9, k10, k11⟩ := hK
            · have ev : vals 2 = .agg (cnCells { T1 with pa := some ⟨g4, 0, none⟩, pc := cp4 }) := (hr ⟨2, .data⟩ (by simp) rfl).2
              have kz : Blk qw13.heap.size x (cnCells cnZero) := by have := k5; rw [hf] at this; exact this
              refine does_store cn_big (cn_size _) (Raw.of kz (cn_size _)) (cn_one _) _ _ rfl rfl ev ?_
              intro z t B
              exact ⟨Low.touch t (show qw13.heap.size < qw57.heap.size by omega), ⟨k0.touch t (by omega), k1.touch t (by omega), k2.touch t (by omega), k3.touch t (by omega), k4.touch t (by omega), B, k6.touch t (by omega), k7.touch t (by omega), k8.touch t (by omega), k9.touch t (by omega), Nat.le_trans k10 t.size, since_touch k11 t (by omega)⟩, trivial⟩
            · have ev : vals 1 = .agg (cnCells { F1 with pa := some ⟨g3, 0, none⟩, pc := cp3 }) := (hr ⟨1, .data⟩ (by simp) rfl).2
              have kz : Blk qw10.heap.size x (cnCells cnZero) := by have := k4; rw [hf] at this; exact this
              refine does_store cn_big (cn_size _) (Raw.of kz (cn_size _)) (cn_one _) _ _ rfl rfl ev ?_
              intro z t B
              exact ⟨Low.touch t (show qw10.heap.size < qw57.heap.size by omega), ⟨k0.touch t (by omega), k1.touch t (by omega), k2.touch t (by omega), k3.touch t (by omega), B, k5.touch t (by omega), k6.touch t (by omega), k7.touch t (by omega), k8.touch t (by omega), k9.touch t (by omega), Nat.le_trans k10 t.size, since_touch k11 t (by omega)⟩, trivial⟩
            · have ev : vals 0 = .agg #[.int .i64 r, .string D2, .bool e, .int .i64 xN] := (hr ⟨0, .data⟩ (by simp) rfl).2
              have kz : Blk qw7.heap.size x #[.int .i64 0, .string ByteArray.empty, .bool false, .int .i64 0] := by have := k3; rw [hf] at this; exact this
              refine does_store pp_big rfl (Raw.of kz rfl) (by simp [Value.oneCell']) _ _ rfl rfl ev ?_
              intro z t B
              exact ⟨Low.touch t (show qw7.heap.size < qw57.heap.size by omega), ⟨k0.touch t (by omega), k1.touch t (by omega), k2.touch t (by omega), B, k4.touch t (by omega), k5.touch t (by omega), k6.touch t (by omega), k7.touch t (by omega), k8.touch t (by omega), k9.touch t (by omega), Nat.le_trans k10 t.size, since_touch k11 t (by omega)⟩, trivial⟩
            · exact does_load cn_big (cn_size _) k7 _ rfl rfl ⟨Low.since (b := 0) (Since.refl _) (hN0), ⟨k0, k1, k2, k3, k4, k5, k6, k7, k8, k9, k10, k11⟩, rfl⟩
            · exact does_load cn_big (cn_size _) k6 _ rfl rfl ⟨Low.since (b := 0) (Since.refl _) (hN0), ⟨k0, k1, k2, k3, k4, k5, k6, k7, k8, k9, k10, k11⟩, rfl⟩
            · exact does_load pp_big rfl k0 _ rfl rfl ⟨Low.since (b := 0) (Since.refl _) (hN0), ⟨k0, k1, k2, k3, k4, k5, k6, k7, k8, k9, k10, k11⟩, rfl⟩
          case refine_4 =>
            intro f qv61 qw60 hK hf hv
            obtain ⟨k0, k1, k2, k3, k4, k5, k6, k7, k8, k9, k10, k11⟩ := hK
            clear qB59 qB23 qB28 qB11 qB14 qB17 qB42 qB53 H3 H4 G
            have hv0 : qv61 0 = _ := hv 0 (by decide)
            have hv1 : qv61 1 = _ := hv 1 (by decide)
            have hv2 : qv61 2 = _ := hv 2 (by decide)
            clear hv
            simp only [hv0, hv1, hv2]
            clear hv0 hv1 hv2
            have qB59 := k0
            clear k0
            have qB23 := k1
            clear k1
            have qB28 := k2
            clear k2
            have qB11 : Blk qw7.heap.size qw60 #[.int .i64 r, .string D2, .bool e, .int .i64 xN] := by have := k3; rw [hf 3 (by decide)] at this; exact this
            clear k3
            have qB14 : Blk qw10.heap.size qw60 (cnCells { F1 with pa := some ⟨g3, 0, none⟩, pc := cp3 }) := by have := k4; rw [hf 4 (by decide)] at this; exact this
            clear k4
            have qB17 : Blk qw13.heap.size qw60 (cnCells { T1 with pa := some ⟨g4, 0, none⟩, pc := cp4 }) := by have := k5; rw [hf 5 (by decide)] at this; exact this
            clear k5
            have qB42 := k6
            clear k6
            have qB53 := k7
            clear k7
            have H3 := k8
            clear k8
            have H4 := k9
            clear k9
            have G := k11
            clear k11
            have qw60_l := qB53.lt
            have qw60_n := k10
            clear k10
            go_wp2_with (fail)
            exact bodyPost_ret (results_3 (hs := rfl) (t := 6) (u := 7) (v := 8) rfl _ rfl rfl rfl qB11 qB14 qB17) rfl ⟨_, _, _, _, by rw [eX.out, eE.out, ← hee.out, eF.out, eT.out], H3, H4, by omega, G⟩
      case true =>
        cases c2
        case false =>
          have eE : Hid (xE = true) := (by rw [hxE.out]; unfold mvE; rw [hmk.out]; show endE r d e F ps = _; unfold endE; rw [← hF1.out, hgf.out, ← hc1.out]; rfl : xE = true)
          have eT : Hid (xT = T1) := (by rw [hxT.out]; unfold mvT; rw [hmk.out]; show shutT (endE r d e F ps) (leftD r d F ps T qs) (writeC T qs (gotD r d F ps)) qs = _; have e1 : endE r d e F ps = true := (by rw [← eE.out, hxE.out]; unfold mvE; rw [hmk.out]; rfl); rw [e1, eL.out, ← hD1e.out, ← hT1.out]; unfold shutT; rw [← hc2.out]; rfl : xT = T1)
          refine vR ?_
          refine vV (.pointer (some ⟨qw35.heap.size, 18, none⟩)) ?_
          refine vD (.bool true) ((qB42.cell 18).trans (by show some (.bool F1.gfn : Value) = some (.bool true : Value); rw [hgf.out])) ?_
          refine vV (.bool true) ?_
          refine vV (.pointer (some ⟨qw35.heap.size, 11, none⟩)) ?_
          refine vV (.pointer (some ⟨qw35.heap.size, 12, none⟩)) ?_
          refine vD (.string F1.iD) (qB42.cell 12) ?_
          refine vEmp (F1.iD) true (hc1.out.symm) ?_
          refine vV (.bool true) ?_
          refine vE #[.agg #[.int .i64 r, .string d, .bool e, .int .i64 n], .agg (cnCells { F with pa := some ⟨q, 0, none⟩, pc := p }), .agg (cnCells { T with pa := some ⟨q2, 0, none⟩, pc := p2 }), .pointer (some ⟨w.heap.size, 0, none⟩), .pointer (some ⟨qw1.heap.size, 0, none⟩), .pointer (some ⟨qw4.heap.size, 0, none⟩), .pointer (some ⟨qw7.heap.size, 0, none⟩), .pointer (some ⟨qw10.heap.size, 0, none⟩), .pointer (some ⟨qw13.heap.size, 0, none⟩), .pointer (some ⟨qw35.heap.size, 0, none⟩), .string S1, .pointer (some ⟨qw46.heap.size, 0, none⟩), .int .i64 (M : Int), .agg (cnCells { F with pa := some ⟨q, 0, none⟩, pc := p }), .agg (cnCells { F with pa := some ⟨g, 0, none⟩, pc := cp }), .agg (cnCells { T with pa := some ⟨q2, 0, none⟩, pc := p2 }), .agg (cnCells { T with pa := some ⟨g2, 0, none⟩, pc := cp2 }), .agg #[.int .i64 r, .string d, .bool e, .int .i64 n], .bool true, .bool false, .bool false, .agg (cnCells { F with pa := some ⟨g, 0, none⟩, pc := cp }), .bool true, .bool false, .bool false, .bool false, .agg (cnCells { T with pa := some ⟨g2, 0, none⟩, pc := cp2 }), .bool true, .bool false, .bool false, undef, undef, undef, .tuple #[.agg (cnCells { F1 with pa := some ⟨g3, 0, none⟩, pc := cp3 }), .string S1], .agg (cnCells { F with pa := some ⟨g, 0, none⟩, pc := cp }), .pointer (some ⟨w.heap.size, 0, none⟩), .int .i64 r, .pointer (some ⟨w.heap.size, 1, none⟩), .string d, .int .i64 (d.size : Int), .int .i64 (r - (d.size : Int)), .tuple #[.agg (cnCells { F1 with pa := some ⟨g3, 0, none⟩, pc := cp3 }), .string S1], .agg (cnCells { F1 with pa := some ⟨g3, 0, none⟩, pc := cp3 }), .string S1, .pointer (some ⟨w.heap.size, 1, none⟩), .string d, .string S1, .string D1, .pointer (some ⟨w.heap.size, 1, none⟩), .tuple #[.agg (cnCells { T1 with pa := some ⟨g4, 0, none⟩, pc := cp4 }), .int .i64 (M : Int)], .agg (cnCells { T with pa := some ⟨g2, 0, none⟩, pc := cp2 }), .pointer (some ⟨w.heap.size, 1, none⟩), .string D1, .tuple #[.agg (cnCells { T1 with pa := some ⟨g4, 0, none⟩, pc := cp4 }), .int .i64 (M : Int)], .agg (cnCells { T1 with pa := some ⟨g4, 0, none⟩, pc := cp4 }), .int .i64 (M : Int), .pointer (some ⟨w.heap.size, 1, none⟩), .string D1, .int .i64 (M : Int), .string D2, .pointer (some ⟨w.heap.size, 1, none⟩), .pointer (some ⟨w.heap.size, 3, none⟩), .int .i64 n, .int .i64 (M : Int), .int .i64 (n + (M : Int)), .int .i64 xN, .pointer (some ⟨w.heap.size, 3, none⟩), .pointer (some ⟨qw35.heap.size, 18, none⟩), .bool true, .bool true, .pointer (some ⟨qw35.heap.size, 11, none⟩), .pointer (some ⟨qw35.heap.size, 12, none⟩), .string F1.iD, .bool true, .bool true, undef, undef, undef, undef, undef, undef, undef, undef, undef, undef, undef, undef, undef] ?_
          go_upto_region 11 with (fail)
          refine vR ?_
          refine vV (.pointer (some ⟨w.heap.size, 2, none⟩)) ?_
          refine sC #[.int .i64 r, .string D2, .bool true, .int .i64 xN] qB59 2 (.bool true) rfl ?_
          intro qw60 qt61 qB62
          clear qB59
          replace qB23 := qB23.touch qt61 (by omega)
          replace qB28 := qB28.touch qt61 (by omega)
          replace qB11 := qB11.touch qt61 (by omega)
          replace qB14 := qB14.touch qt61 (by omega)
          replace qB17 := qB17.touch qt61 (by omega)
          replace qB42 := qB42.touch qt61 (by omega)
          replace qB53 := qB53.touch qt61 (by omega)
          replace H3 := H3.touch qt61 (by omega)
          replace H4 := H4.touch qt61 (by omega)
          replace G := since_touch G qt61 (by omega)
          have qt61_s := qt61.size
          refine vE #[.agg #[.int .i64 r, .string d, .bool e, .int .i64 n], .agg (cnCells { F with pa := some ⟨q, 0, none⟩, pc := p }), .agg (cnCells { T with pa := some ⟨q2, 0, none⟩, pc := p2 }), .pointer (some ⟨w.heap.size, 0, none⟩), .pointer (some ⟨qw1.heap.size, 0, none⟩), .pointer (some ⟨qw4.heap.size, 0, none⟩), .pointer (some ⟨qw7.heap.size, 0, none⟩), .pointer (some ⟨qw10.heap.size, 0, none⟩), .pointer (some ⟨qw13.heap.size, 0, none⟩), .pointer (some ⟨qw35.heap.size, 0, none⟩), .string S1, .pointer (some ⟨qw46.heap.size, 0, none⟩), .int .i64 (M : Int), .agg (cnCells { F with pa := some ⟨q, 0, none⟩, pc := p }), .agg (cnCells { F with pa := some ⟨g, 0, none⟩, pc := cp }), .agg (cnCells { T with pa := some ⟨q2, 0, none⟩, pc := p2 }), .agg (cnCells { T with pa := some ⟨g2, 0, none⟩, pc := cp2 }), .agg #[.int .i64 r, .string d, .bool e, .int .i64 n], .bool true, .bool false, .bool false, .agg (cnCells { F with pa := some ⟨g, 0, none⟩, pc := cp }), .bool true, .bool false, .bool false, .bool false, .agg (cnCells { T with pa := some ⟨g2, 0, none⟩, pc := cp2 }), .bool true, .bool false, .bool false, undef, undef, undef, .tuple #[.agg (cnCells { F1 with pa := some ⟨g3, 0, none⟩, pc := cp3 }), .string S1], .agg (cnCells { F with pa := some ⟨g, 0, none⟩, pc := cp }), .pointer (some ⟨w.heap.size, 0, none⟩), .int .i64 r, .pointer (some ⟨w.heap.size, 1, none⟩), .string d, .int .i64 (d.size : Int), .int .i64 (r - (d.size : Int)), .tuple #[.agg (cnCells { F1 with pa := some ⟨g3, 0, none⟩, pc := cp3 }), .string S1], .agg (cnCells { F1 with pa := some ⟨g3, 0, none⟩, pc := cp3 }), .string S1, .pointer (some ⟨w.heap.size, 1, none⟩), .string d, .string S1, .string D1, .pointer (some ⟨w.heap.size, 1, none⟩), .tuple #[.agg (cnCells { T1 with pa := some ⟨g4, 0, none⟩, pc := cp4 }), .int .i64 (M : Int)], .agg (cnCells { T with pa := some ⟨g2, 0, none⟩, pc := cp2 }), .pointer (some ⟨w.heap.size, 1, none⟩), .string D1, .tuple #[.agg (cnCells { T1 with pa := some ⟨g4, 0, none⟩, pc := cp4 }), .int .i64 (M : Int)], .agg (cnCells { T1 with pa := some ⟨g4, 0, none⟩, pc := cp4 }), .int .i64 (M : Int), .pointer (some ⟨w.heap.size, 1, none⟩), .string D1, .int .i64 (M : Int), .string D2, .pointer (some ⟨w.heap.size, 1, none⟩), .pointer (some ⟨w.heap.size, 3, none⟩), .int .i64 n, .int .i64 (M : Int), .int .i64 (n + (M : Int)), .int .i64 xN, .pointer (some ⟨w.heap.size, 3, none⟩), .pointer (some ⟨qw35.heap.size, 18, none⟩), .bool true, .bool true, .pointer (some ⟨qw35.heap.size, 11, none⟩), .pointer (some ⟨qw35.heap.size, 12, none⟩), .string F1.iD, .bool true, .bool true, .pointer (some ⟨w.heap.size, 2, none⟩), undef, undef, undef, undef, undef, undef, undef, undef, undef, undef, undef, undef] ?_
          go_upto_region 12 with (fail)
          refine vR ?_
          refine vV (.pointer (some ⟨w.heap.size, 2, none⟩)) ?_
          refine vD (.bool true) (qB62.cell 2) ?_
          refine vV (.bool true) ?_
          refine vV (.pointer (some ⟨w.heap.size, 1, none⟩)) ?_
          refine vD (.string D2) (qB62.cell 1) ?_
          refine vEmp (D2) false (hc2.out.symm) ?_
          refine vV (.bool false) ?_
          refine vE #[.agg #[.int .i64 r, .string d, .bool e, .int .i64 n], .agg (cnCells { F with pa := some ⟨q, 0, none⟩, pc := p }), .agg (cnCells { T with pa := some ⟨q2, 0, none⟩, pc := p2 }), .pointer (some ⟨w.heap.size, 0, none⟩), .pointer (some ⟨qw1.heap.size, 0, none⟩), .pointer (some ⟨qw4.heap.size, 0, none⟩), .pointer (some ⟨qw7.heap.size, 0, none⟩), .pointer (some ⟨qw10.heap.size, 0, none⟩), .pointer (some ⟨qw13.heap.size, 0, none⟩), .pointer (some ⟨qw35.heap.size, 0, none⟩), .string S1, .pointer (some ⟨qw46.heap.size, 0, none⟩), .int .i64 (M : Int), .agg (cnCells { F with pa := some ⟨q, 0, none⟩, pc := p }), .agg (cnCells { F with pa := some ⟨g, 0, none⟩, pc := cp }), .agg (cnCells { T with pa := some ⟨q2, 0, none⟩, pc := p2 }), .agg (cnCells { T with pa := some ⟨g2, 0, none⟩, pc := cp2 }), .agg #[.int .i64 r, .string d, .bool e, .int .i64 n], .bool true, .bool false, .bool false, .agg (cnCells { F with pa := some ⟨g, 0, none⟩, pc := cp }), .bool true, .bool false, .bool false, .bool false, .agg (cnCells { T with pa := some ⟨g2, 0, none⟩, pc := cp2 }), .bool true, .bool false, .bool false, undef, undef, undef, .tuple #[.agg (cnCells { F1 with pa := some ⟨g3, 0, none⟩, pc := cp3 }), .string S1], .agg (cnCells { F with pa := some ⟨g, 0, none⟩, pc := cp }), .pointer (some ⟨w.heap.size, 0, none⟩), .int .i64 r, .pointer (some ⟨w.heap.size, 1, none⟩), .string d, .int .i64 (d.size : Int), .int .i64 (r - (d.size : Int)), .tuple #[.agg (cnCells { F1 with pa := some ⟨g3, 0, none⟩, pc := cp3 }), .string S1], .agg (cnCells { F1 with pa := some ⟨g3, 0, none⟩, pc := cp3 }), .string S1, .pointer (some ⟨w.heap.size, 1, none⟩), .string d, .string S1, .string D1, .pointer (some ⟨w.heap.size, 1, none⟩), .tuple #[.agg (cnCells { T1 with pa := some ⟨g4, 0, none⟩, pc := cp4 }), .int .i64 (M : Int)], .agg (cnCells { T with pa := some ⟨g2, 0, none⟩, pc := cp2 }), .pointer (some ⟨w.heap.size, 1, none⟩), .string D1, .tuple #[.agg (cnCells { T1 with pa := some ⟨g4, 0, none⟩, pc := cp4 }), .int .i64 (M : Int)], .agg (cnCells { T1 with pa := some ⟨g4, 0, none⟩, pc := cp4 }), .int .i64 (M : Int), .pointer (some ⟨w.heap.size, 1, none⟩), .string D1, .int .i64 (M : Int), .string D2, .pointer (some ⟨w.heap.size, 1, none⟩), .pointer (some ⟨w.heap.size, 3, none⟩), .int .i64 n, .int .i64 (M : Int), .int .i64 (n + (M : Int)), .int .i64 xN, .pointer (some ⟨w.heap.size, 3, none⟩), .pointer (some ⟨qw35.heap.size, 18, none⟩), .bool true, .bool true, .pointer (some ⟨qw35.heap.size, 11, none⟩), .pointer (some ⟨qw35.heap.size, 12, none⟩), .string F1.iD, .bool true, .bool true, .pointer (some ⟨w.heap.size, 2, none⟩), .pointer (some ⟨w.heap.size, 2, none⟩), .bool true, .bool true, .pointer (some ⟨w.heap.size, 1, none⟩), .string D2, .bool false, .bool false, undef, undef, undef, undef, undef] ?_
          go_upto_region 14 with (fail)
          have hN0 : 0 < qw60.heap.size := by have := qB62.lt; omega
          refine wp_region_low (Low (fun b => b < qw60.heap.size)) (fun i x v => match i with
              | 0 => v = .agg #[.int .i64 r, .string D2, .bool true, .int .i64 xN]
              | 1 => v = .agg (cnCells { F1 with pa := some ⟨g3, 0, none⟩, pc := cp3 })
              | 2 => v = .agg (cnCells { T1 with pa := some ⟨g4, 0, none⟩, pc := cp4 })
              | 3 => True
              | 4 => True
              | 5 => True
              | _ => True) (fun f vals x => Blk w.heap.size x #[.int .i64 r, .string D2, .bool true, .int .i64 xN] ∧ Blk qw1.heap.size x (cnCells { F with pa := some ⟨g, 0, none⟩, pc := cp }) ∧ Blk qw4.heap.size x (cnCells { T with pa := some ⟨g2, 0, none⟩, pc := cp2 }) ∧ Blk qw7.heap.size x (if f 3 then #[.int .i64 r, .string D2, .bool true, .int .i64 xN] else #[.int .i64 0, .string ByteArray.empty, .bool false, .int .i64 0]) ∧ Blk qw10.heap.size x (if f 4 then (cnCells { F1 with pa := some ⟨g3, 0, none⟩, pc := cp3 }) else (cnCells cnZero)) ∧ Blk qw13.heap.size x (if f 5 then (cnCells { T1 with pa := some ⟨g4, 0, none⟩, pc := cp4 }) else (cnCells cnZero)) ∧ Blk qw35.heap.size x (cnCells { F1 with pa := some ⟨g3, 0, none⟩, pc := cp3 }) ∧ Blk qw46.heap.size x (cnCells { T1 with pa := some ⟨g4, 0, none⟩, pc := cp4 }) ∧ Held shP x w.heap.size g3 F.pn cp3 ps ∧ Held shP x w.heap.size g4 T.pn cp4 qs ∧ qw60.heap.size ≤ x.heap.size ∧ Since w x) (fun v => { tmps := #[.agg #[.int .i64 r, .string d, .bool e, .int .i64 n], .agg (cnCells { F with pa := some ⟨q, 0, none⟩, pc := p }), .agg (cnCells { T with pa := some ⟨q2, 0, none⟩, pc := p2 }), .pointer (some ⟨w.heap.size, 0, none⟩), .pointer (some ⟨qw1.heap.size, 0, none⟩), .pointer (some ⟨qw4.heap.size, 0, none⟩), .pointer (some ⟨qw7.heap.size, 0, none⟩), .pointer (some ⟨qw10.heap.size, 0, none⟩), .pointer (some ⟨qw13.heap.size, 0, none⟩), .pointer (some ⟨qw35.heap.size, 0, none⟩), .string S1, .pointer (some ⟨qw46.heap.size, 0, none⟩), .int .i64 (M : Int), .agg (cnCells { F with pa := some ⟨q, 0, none⟩, pc := p }), .agg (cnCells { F with pa := some ⟨g, 0, none⟩, pc := cp }), .agg (cnCells { T with pa := some ⟨q2, 0, none⟩, pc := p2 }), .agg (cnCells { T with pa := some ⟨g2, 0, none⟩, pc := cp2 }), .agg #[.int .i64 r, .string d, .bool e, .int .i64 n], .bool true, .bool false, .bool false, .agg (cnCells { F with pa := some ⟨g, 0, none⟩, pc := cp }), .bool true, .bool false, .bool false, .bool false, .agg (cnCells { T with pa := some ⟨g2, 0, none⟩, pc := cp2 }), .bool true, .bool false, .bool false, undef, undef, undef, .tuple #[.agg (cnCells { F1 with pa := some ⟨g3, 0, none⟩, pc := cp3 }), .string S1], .agg (cnCells { F with pa := some ⟨g, 0, none⟩, pc := cp }), .pointer (some ⟨w.heap.size, 0, none⟩), .int .i64 r, .pointer (some ⟨w.heap.size, 1, none⟩), .string d, .int .i64 (d.size : Int), .int .i64 (r - (d.size : Int)), .tuple #[.agg (cnCells { F1 with pa := some ⟨g3, 0, none⟩, pc := cp3 }), .string S1], .agg (cnCells { F1 with pa := some ⟨g3, 0, none⟩, pc := cp3 }), .string S1, .pointer (some ⟨w.heap.size, 1, none⟩), .string d, .string S1, .string D1, .pointer (some ⟨w.heap.size, 1, none⟩), .tuple #[.agg (cnCells { T1 with pa := some ⟨g4, 0, none⟩, pc := cp4 }), .int .i64 (M : Int)], .agg (cnCells { T with pa := some ⟨g2, 0, none⟩, pc := cp2 }), .pointer (some ⟨w.heap.size, 1, none⟩), .string D1, .tuple #[.agg (cnCells { T1 with pa := some ⟨g4, 0, none⟩, pc := cp4 }), .int .i64 (M : Int)], .agg (cnCells { T1 with pa := some ⟨g4, 0, none⟩, pc := cp4 }), .int .i64 (M : Int), .pointer (some ⟨w.heap.size, 1, none⟩), .string D1, .int .i64 (M : Int), .string D2, .pointer (some ⟨w.heap.size, 1, none⟩), .pointer (some ⟨w.heap.size, 3, none⟩), .int .i64 n, .int .i64 (M : Int), .int .i64 (n + (M : Int)), .int .i64 xN, .pointer (some ⟨w.heap.size, 3, none⟩), .pointer (some ⟨qw35.heap.size, 18, none⟩), .bool true, .bool true, .pointer (some ⟨qw35.heap.size, 11, none⟩), .pointer (some ⟨qw35.heap.size, 12, none⟩), .string F1.iD, .bool true, .bool true, .pointer (some ⟨w.heap.size, 2, none⟩), .pointer (some ⟨w.heap.size, 2, none⟩), .bool true, .bool true, .pointer (some ⟨w.heap.size, 1, none⟩), .string D2, .bool false, .bool false, undef, undef, v 0, v 1, v 2], defers := [] }) (by kernel_rfl) (by kernel_rfl) ?_ ?_ (fun vals => by kernel_rfl) ?_ ?_
          case refine_1 =>
            intro j x y v hl hv
            match j, hv with
            | 0, hv | 1, hv | 2, hv => exact hv
            | 3, hv | 4, hv | 5, hv => trivial
            | n + 6, _ => trivial
          case refine_2 =>
            intro f vals hf
            refine ⟨qB62.since ((Since.refl _).drew), qB23.since ((Since.refl _).drew), qB28.since ((Since.refl _).drew), (by rw [hf 3]; exact qB11.since ((Since.refl _).drew)), (by rw [hf 4]; exact qB14.since ((Since.refl _).drew)), (by rw [hf 5]; exact qB17.since ((Since.refl _).drew)), qB42.since ((Since.refl _).drew), qB53.since ((Since.refl _).drew), H3.since ((Since.refl _).drew), H4.since ((Since.refl _).drew), ((Since.refl _).drew).size, G.trans ((Since.refl _).drew)⟩
          case refine_3 =>
            repeat (first | exact eachLow_nil | refine eachLow_cons ?_ ?_)
            all_goals intro f vals x hf hr hK
            all_goals obtain ⟨k0, k1, k2, k3, k4, k5, k6, k7, k8, k9, k10, k11⟩ := hK
            · have ev : vals 2 = .agg (cnCells { T1 with pa := some ⟨g4, 0, none⟩, pc := cp4 }) := (hr ⟨2, .data⟩ (by simp) rfl).2
              have kz : Blk qw13.heap.size x (cnCells cnZero) := by have := k5; rw [hf] at this; exact this
              refine does_store cn_big (cn_size _) (Raw.of kz (cn_size _)) (cn_one _) _ _ rfl rfl ev ?_
              intro z t B
              exact ⟨Low.touch t (show qw13.heap.size < qw60.heap.size by omega), ⟨k0.touch t (by omega), k1.touch t (by omega), k2.touch t (by omega), k3.touch t (by omega), k4.touch t (by omega), B, k6.touch t (by omega), k7.touch t (by omega), k8.touch t (by omega), k9.touch t (by omega), Nat.le_trans k10 t.size, since_touch k11 t (by omega)⟩, trivial⟩
            · have ev : vals 1 = .agg (cnCells { F1 with pa := some ⟨g3, 0, none⟩, pc := cp3 }) := (hr ⟨1, .data⟩ (by simp) rfl).2
              have kz : Blk qw10.heap.size x (cnCells cnZero) := by have := k4; rw [hf] at this; exact this
              refine does_store cn_big (cn_size _) (Raw.of kz (cn_size _)) (cn_one _) _ _ rfl rfl ev ?_
              intro z t B
              exact ⟨Low.touch t (show qw10.heap.size < qw60.heap.size by omega), ⟨k0.touch t (by omega), k1.touch t (by omega), k2.touch t (by omega), k3.touch t (by omega), B, k5.touch t (by omega), k6.touch t (by omega), k7.touch t (by omega), k8.touch t (by omega), k9.touch t (by omega), Nat.le_trans k10 t.size, since_touch k11 t (by omega)⟩, trivial⟩
            · have ev : vals 0 = .agg #[.int .i64 r, .string D2, .bool true, .int .i64 xN] := (hr ⟨0, .data⟩ (by simp) rfl).2
              have kz : Blk qw7.heap.size x #[.int .i64 0, .string ByteArray.empty, .bool false, .int .i64 0] := by have := k3; rw [hf] at this; exact this
              refine does_store pp_big rfl (Raw.of kz rfl) (by simp [Value.oneCell']) _ _ rfl rfl ev ?_
              intro z t B
              exact ⟨Low.touch t (show qw7.heap.size < qw60.heap.size by omega), ⟨k0.touch t (by omega), k1.touch t (by omega), k2.touch t (by omega), B, k4.touch t (by omega), k5.touch t (by omega), k6.touch t (by omega), k7.touch t (by omega), k8.touch t (by omega), k9.touch t (by omega), Nat.le_trans k10 t.size, since_touch k11 t (by omega)⟩, trivial⟩
            · exact does_load cn_big (cn_size _) k7 _ rfl rfl ⟨Low.since (b := 0) (Since.refl _) (hN0), ⟨k0, k1, k2, k3, k4, k5, k6, k7, k8, k9, k10, k11⟩, rfl⟩
            · exact does_load cn_big (cn_size _) k6 _ rfl rfl ⟨Low.since (b := 0) (Since.refl _) (hN0), ⟨k0, k1, k2, k3, k4, k5, k6, k7, k8, k9, k10, k11⟩, rfl⟩
            · exact does_load pp_big rfl k0 _ rfl rfl ⟨Low.since (b := 0) (Since.refl _) (hN0), ⟨k0, k1, k2, k3, k4, k5, k6, k7, k8, k9, k10, k11⟩, rfl⟩
          case refine_4 =>
            intro f qv64 qw63 hK hf hv
            obtain ⟨k0, k1, k2, k3, k4, k5, k6, k7, k8, k9, k10, k11⟩ := hK
            clear qB62 qB23 qB28 qB11 qB14 qB17 qB42 qB53 H3 H4 G
            have hv0 : qv64 0 = _ := hv 0 (by decide)
            have hv1 : qv64 1 = _ := hv 1 (by decide)
            have hv2 : qv64 2 = _ := hv 2 (by decide)
            clear hv
            simp only [hv0, hv1, hv2]
            clear hv0 hv1 hv2
            have qB62 := k0
            clear k0
            have qB23 := k1
            clear k1
            have qB28 := k2
            clear k2
            have qB11 : Blk qw7.heap.size qw63 #[.int .i64 r, .string D2, .bool true, .int .i64 xN] := by have := k3; rw [hf 3 (by decide)] at this; exact this
            clear k3
            have qB14 : Blk qw10.heap.size qw63 (cnCells { F1 with pa := some ⟨g3, 0, none⟩, pc := cp3 }) := by have := k4; rw [hf 4 (by decide)] at this; exact this
            clear k4
            have qB17 : Blk qw13.heap.size qw63 (cnCells { T1 with pa := some ⟨g4, 0, none⟩, pc := cp4 }) := by have := k5; rw [hf 5 (by decide)] at this; exact this
            clear k5
            have qB42 := k6
            clear k6
            have qB53 := k7
            clear k7
            have H3 := k8
            clear k8
            have H4 := k9
            clear k9
            have G := k11
            clear k11
            have qw63_l := qB53.lt
            have qw63_n := k10
            clear k10
            go_wp2_with (fail)
            exact bodyPost_ret (results_3 (hs := rfl) (t := 6) (u := 7) (v := 8) rfl _ rfl rfl rfl qB11 qB14 qB17) rfl ⟨_, _, _, _, by rw [eX.out, eE.out, eF.out, eT.out], H3, H4, by omega, G⟩
        case true =>
          have eE : Hid (xE = true) := (by rw [hxE.out]; unfold mvE; rw [hmk.out]; show endE r d e F ps = _; unfold endE; rw [← hF1.out, hgf.out, ← hc1.out]; rfl : xE = true)
          have eT : Hid (xT = T2) := (by rw [hxT.out]; unfold mvT; rw [hmk.out]; show shutT (endE r d e F ps) (leftD r d F ps T qs) (writeC T qs (gotD r d F ps)) qs = _; have e1 : endE r d e F ps = true := (by rw [← eE.out, hxE.out]; unfold mvE; rw [hmk.out]; rfl); rw [e1, eL.out, ← hD1e.out, ← hT1.out]; unfold shutT; rw [← hc2.out]; exact hT2.out.symm : xT = T2)
          refine vR ?_
          refine vV (.pointer (some ⟨qw35.heap.size, 18, none⟩)) ?_
          refine vD (.bool true) ((qB42.cell 18).trans (by show some (.bool F1.gfn : Value) = some (.bool true : Value); rw [hgf.out])) ?_
          refine vV (.bool true) ?_
          refine vV (.pointer (some ⟨qw35.heap.size, 11, none⟩)) ?_
          refine vV (.pointer (some ⟨qw35.heap.size, 12, none⟩)) ?_
          refine vD (.string F1.iD) (qB42.cell 12) ?_
          refine vEmp (F1.iD) true (hc1.out.symm) ?_
          refine vV (.bool true) ?_
          refine vE #[.agg #[.int .i64 r, .string d, .bool e, .int .i64 n], .agg (cnCells { F with pa := some ⟨q, 0, none⟩, pc := p }), .agg (cnCells { T with pa := some ⟨q2, 0, none⟩, pc := p2 }), .pointer (some ⟨w.heap.size, 0, none⟩), .pointer (some ⟨qw1.heap.size, 0, none⟩), .pointer (some ⟨qw4.heap.size, 0, none⟩), .pointer (some ⟨qw7.heap.size, 0, none⟩), .pointer (some ⟨qw10.heap.size, 0, none⟩), .pointer (some ⟨qw13.heap.size, 0, none⟩), .pointer (some ⟨qw35.heap.size, 0, none⟩), .string S1, .pointer (some ⟨qw46.heap.size, 0, none⟩), .int .i64 (M : Int), .agg (cnCells { F with pa := some ⟨q, 0, none⟩, pc := p }), .agg (cnCells { F with pa := some ⟨g, 0, none⟩, pc := cp }), .agg (cnCells { T with pa := some ⟨q2, 0, none⟩, pc := p2 }), .agg (cnCells { T with pa := some ⟨g2, 0, none⟩, pc := cp2 }), .agg #[.int .i64 r, .string d, .bool e, .int .i64 n], .bool true, .bool false, .bool false, .agg (cnCells { F with pa := some ⟨g, 0, none⟩, pc := cp }), .bool true, .bool false, .bool false, .bool false, .agg (cnCells { T with pa := some ⟨g2, 0, none⟩, pc := cp2 }), .bool true, .bool false, .bool false, undef, undef, undef, .tuple #[.agg (cnCells { F1 with pa := some ⟨g3, 0, none⟩, pc := cp3 }), .string S1], .agg (cnCells { F with pa := some ⟨g, 0, none⟩, pc := cp }), .pointer (some ⟨w.heap.size, 0, none⟩), .int .i64 r, .pointer (some ⟨w.heap.size, 1, none⟩), .string d, .int .i64 (d.size : Int), .int .i64 (r - (d.size : Int)), .tuple #[.agg (cnCells { F1 with pa := some ⟨g3, 0, none⟩, pc := cp3 }), .string S1], .agg (cnCells { F1 with pa := some ⟨g3, 0, none⟩, pc := cp3 }), .string S1, .pointer (some ⟨w.heap.size, 1, none⟩), .string d, .string S1, .string D1, .pointer (some ⟨w.heap.size, 1, none⟩), .tuple #[.agg (cnCells { T1 with pa := some ⟨g4, 0, none⟩, pc := cp4 }), .int .i64 (M : Int)], .agg (cnCells { T with pa := some ⟨g2, 0, none⟩, pc := cp2 }), .pointer (some ⟨w.heap.size, 1, none⟩), .string D1, .tuple #[.agg (cnCells { T1 with pa := some ⟨g4, 0, none⟩, pc := cp4 }), .int .i64 (M : Int)], .agg (cnCells { T1 with pa := some ⟨g4, 0, none⟩, pc := cp4 }), .int .i64 (M : Int), .pointer (some ⟨w.heap.size, 1, none⟩), .string D1, .int .i64 (M : Int), .string D2, .pointer (some ⟨w.heap.size, 1, none⟩), .pointer (some ⟨w.heap.size, 3, none⟩), .int .i64 n, .int .i64 (M : Int), .int .i64 (n + (M : Int)), .int .i64 xN, .pointer (some ⟨w.heap.size, 3, none⟩), .pointer (some ⟨qw35.heap.size, 18, none⟩), .bool true, .bool true, .pointer (some ⟨qw35.heap.size, 11, none⟩), .pointer (some ⟨qw35.heap.size, 12, none⟩), .string F1.iD, .bool true, .bool true, undef, undef, undef, undef, undef, undef, undef, undef, undef, undef, undef, undef, undef] ?_
          go_upto_region 11 with (fail)
          refine vR ?_
          refine vV (.pointer (some ⟨w.heap.size, 2, none⟩)) ?_
          refine sC #[.int .i64 r, .string D2, .bool true, .int .i64 xN] qB59 2 (.bool true) rfl ?_
          intro qw60 qt61 qB62
          clear qB59
          replace qB23 := qB23.touch qt61 (by omega)
          replace qB28 := qB28.touch qt61 (by omega)
          replace qB11 := qB11.touch qt61 (by omega)
          replace qB14 := qB14.touch qt61 (by omega)
          replace qB17 := qB17.touch qt61 (by omega)
          replace qB42 := qB42.touch qt61 (by omega)
          replace qB53 := qB53.touch qt61 (by omega)
          replace H3 := H3.touch qt61 (by omega)
          replace H4 := H4.touch qt61 (by omega)
          replace G := since_touch G qt61 (by omega)
          have qt61_s := qt61.size
          refine vE #[.agg #[.int .i64 r, .string d, .bool e, .int .i64 n], .agg (cnCells { F with pa := some ⟨q, 0, none⟩, pc := p }), .agg (cnCells { T with pa := some ⟨q2, 0, none⟩, pc := p2 }), .pointer (some ⟨w.heap.size, 0, none⟩), .pointer (some ⟨qw1.heap.size, 0, none⟩), .pointer (some ⟨qw4.heap.size, 0, none⟩), .pointer (some ⟨qw7.heap.size, 0, none⟩), .pointer (some ⟨qw10.heap.size, 0, none⟩), .pointer (some ⟨qw13.heap.size, 0, none⟩), .pointer (some ⟨qw35.heap.size, 0, none⟩), .string S1, .pointer (some ⟨qw46.heap.size, 0, none⟩), .int .i64 (M : Int), .agg (cnCells { F with pa := some ⟨q, 0, none⟩, pc := p }), .agg (cnCells { F with pa := some ⟨g, 0, none⟩, pc := cp }), .agg (cnCells { T with pa := some ⟨q2, 0, none⟩, pc := p2 }), .agg (cnCells { T with pa := some ⟨g2, 0, none⟩, pc := cp2 }), .agg #[.int .i64 r, .string d, .bool e, .int .i64 n], .bool true, .bool false, .bool false, .agg (cnCells { F with pa := some ⟨g, 0, none⟩, pc := cp }), .bool true, .bool false, .bool false, .bool false, .agg (cnCells { T with pa := some ⟨g2, 0, none⟩, pc := cp2 }), .bool true, .bool false, .bool false, undef, undef, undef, .tuple #[.agg (cnCells { F1 with pa := some ⟨g3, 0, none⟩, pc := cp3 }), .string S1], .agg (cnCells { F with pa := some ⟨g, 0, none⟩, pc := cp }), .pointer (some ⟨w.heap.size, 0, none⟩), .int .i64 r, .pointer (some ⟨w.heap.size, 1, none⟩), .string d, .int .i64 (d.size : Int), .int .i64 (r - (d.size : Int)), .tuple #[.agg (cnCells { F1 with pa := some ⟨g3, 0, none⟩, pc := cp3 }), .string S1], .agg (cnCells { F1 with pa := some ⟨g3, 0, none⟩, pc := cp3 }), .string S1, .pointer (some ⟨w.heap.size, 1, none⟩), .string d, .string S1, .string D1, .pointer (some ⟨w.heap.size, 1, none⟩), .tuple #[.agg (cnCells { T1 with pa := some ⟨g4, 0, none⟩, pc := cp4 }), .int .i64 (M : Int)], .agg (cnCells { T with pa := some ⟨g2, 0, none⟩, pc := cp2 }), .pointer (some ⟨w.heap.size, 1, none⟩), .string D1, .tuple #[.agg (cnCells { T1 with pa := some ⟨g4, 0, none⟩, pc := cp4 }), .int .i64 (M : Int)], .agg (cnCells { T1 with pa := some ⟨g4, 0, none⟩, pc := cp4 }), .int .i64 (M : Int), .pointer (some ⟨w.heap.size, 1, none⟩), .string D1, .int .i64 (M : Int), .string D2, .pointer (some ⟨w.heap.size, 1, none⟩), .pointer (some ⟨w.heap.size, 3, none⟩), .int .i64 n, .int .i64 (M : Int), .int .i64 (n + (M : Int)), .int .i64 xN, .pointer (some ⟨w.heap.size, 3, none⟩), .pointer (some ⟨qw35.heap.size, 18, none⟩), .bool true, .bool true, .pointer (some ⟨qw35.heap.size, 11, none⟩), .pointer (some ⟨qw35.heap.size, 12, none⟩), .string F1.iD, .bool true, .bool true, .pointer (some ⟨w.heap.size, 2, none⟩), undef, undef, undef, undef, undef, undef, undef, undef, undef, undef, undef, undef] ?_
          go_upto_region 12 with (fail)
          refine vR ?_
          refine vV (.pointer (some ⟨w.heap.size, 2, none⟩)) ?_
          refine vD (.bool true) (qB62.cell 2) ?_
          refine vV (.bool true) ?_
          refine vV (.pointer (some ⟨w.heap.size, 1, none⟩)) ?_
          refine vD (.string D2) (qB62.cell 1) ?_
          refine vEmp (D2) true (hc2.out.symm) ?_
          refine vV (.bool true) ?_
          refine vE #[.agg #[.int .i64 r, .string d, .bool e, .int .i64 n], .agg (cnCells { F with pa := some ⟨q, 0, none⟩, pc := p }), .agg (cnCells { T with pa := some ⟨q2, 0, none⟩, pc := p2 }), .pointer (some ⟨w.heap.size, 0, none⟩), .pointer (some ⟨qw1.heap.size, 0, none⟩), .pointer (some ⟨qw4.heap.size, 0, none⟩), .pointer (some ⟨qw7.heap.size, 0, none⟩), .pointer (some ⟨qw10.heap.size, 0, none⟩), .pointer (some ⟨qw13.heap.size, 0, none⟩), .pointer (some ⟨qw35.heap.size, 0, none⟩), .string S1, .pointer (some ⟨qw46.heap.size, 0, none⟩), .int .i64 (M : Int), .agg (cnCells { F with pa := some ⟨q, 0, none⟩, pc := p }), .agg (cnCells { F with pa := some ⟨g, 0, none⟩, pc := cp }), .agg (cnCells { T with pa := some ⟨q2, 0, none⟩, pc := p2 }), .agg (cnCells { T with pa := some ⟨g2, 0, none⟩, pc := cp2 }), .agg #[.int .i64 r, .string d, .bool e, .int .i64 n], .bool true, .bool false, .bool false, .agg (cnCells { F with pa := some ⟨g, 0, none⟩, pc := cp }), .bool true, .bool false, .bool false, .bool false, .agg (cnCells { T with pa := some ⟨g2, 0, none⟩, pc := cp2 }), .bool true, .bool false, .bool false, undef, undef, undef, .tuple #[.agg (cnCells { F1 with pa := some ⟨g3, 0, none⟩, pc := cp3 }), .string S1], .agg (cnCells { F with pa := some ⟨g, 0, none⟩, pc := cp }), .pointer (some ⟨w.heap.size, 0, none⟩), .int .i64 r, .pointer (some ⟨w.heap.size, 1, none⟩), .string d, .int .i64 (d.size : Int), .int .i64 (r - (d.size : Int)), .tuple #[.agg (cnCells { F1 with pa := some ⟨g3, 0, none⟩, pc := cp3 }), .string S1], .agg (cnCells { F1 with pa := some ⟨g3, 0, none⟩, pc := cp3 }), .string S1, .pointer (some ⟨w.heap.size, 1, none⟩), .string d, .string S1, .string D1, .pointer (some ⟨w.heap.size, 1, none⟩), .tuple #[.agg (cnCells { T1 with pa := some ⟨g4, 0, none⟩, pc := cp4 }), .int .i64 (M : Int)], .agg (cnCells { T with pa := some ⟨g2, 0, none⟩, pc := cp2 }), .pointer (some ⟨w.heap.size, 1, none⟩), .string D1, .tuple #[.agg (cnCells { T1 with pa := some ⟨g4, 0, none⟩, pc := cp4 }), .int .i64 (M : Int)], .agg (cnCells { T1 with pa := some ⟨g4, 0, none⟩, pc := cp4 }), .int .i64 (M : Int), .pointer (some ⟨w.heap.size, 1, none⟩), .string D1, .int .i64 (M : Int), .string D2, .pointer (some ⟨w.heap.size, 1, none⟩), .pointer (some ⟨w.heap.size, 3, none⟩), .int .i64 n, .int .i64 (M : Int), .int .i64 (n + (M : Int)), .int .i64 xN, .pointer (some ⟨w.heap.size, 3, none⟩), .pointer (some ⟨qw35.heap.size, 18, none⟩), .bool true, .bool true, .pointer (some ⟨qw35.heap.size, 11, none⟩), .pointer (some ⟨qw35.heap.size, 12, none⟩), .string F1.iD, .bool true, .bool true, .pointer (some ⟨w.heap.size, 2, none⟩), .pointer (some ⟨w.heap.size, 2, none⟩), .bool true, .bool true, .pointer (some ⟨w.heap.size, 1, none⟩), .string D2, .bool true, .bool true, undef, undef, undef, undef, undef] ?_
          go_upto_region 13 with (fail)
          refine vR ?_
          refine vB cn_big qB53 (cn_size _) ?_
          refine vC (hs1 g4 cp4 _ H4.reads) ?_
          rintro _ qw63 ⟨g5, cp5, rfl, H5, qg64⟩
          refine ⟨_, rfl, ?_⟩
          replace qB62 := qB62.since qg64
          replace qB23 := qB23.since qg64
          replace qB28 := qB28.since qg64
          replace qB11 := qB11.since qg64
          replace qB14 := qB14.since qg64
          replace qB17 := qB17.since qg64
          replace qB42 := qB42.since qg64
          replace qB53 := qB53.since qg64
          replace H3 := H3.since qg64
          replace H4 := H4.since qg64
          replace G := G.trans qg64
          have qg64_s := qg64.size
          have H5_0 := H5.low'
          replace H5 := H5.raise (show w.heap.size ≤ g5 by omega)
          have H5_1 := H5.lt
          clear H4
          refine sB (cnCells { T2 with pa := some ⟨g5, 0, none⟩, pc := cp5 }) cn_big qB53 (cn_size _) (cn_size _) (cn_one _) ?_
          intro qw65 qt66 qB67
          clear qB53
          replace qB62 := qB62.touch qt66 (by omega)
          replace qB23 := qB23.touch qt66 (by omega)
          replace qB28 := qB28.touch qt66 (by omega)
          replace qB11 := qB11.touch qt66 (by omega)
          replace qB14 := qB14.touch qt66 (by omega)
          replace qB17 := qB17.touch qt66 (by omega)
          replace qB42 := qB42.touch qt66 (by omega)
          replace H3 := H3.touch qt66 (by omega)
          replace H5 := H5.touch qt66 (by omega)
          replace G := since_touch G qt66 (by omega)
          have qt66_s := qt66.size
          refine vE #[.agg #[.int .i64 r, .string d, .bool e, .int .i64 n], .agg (cnCells { F with pa := some ⟨q, 0, none⟩, pc := p }), .agg (cnCells { T with pa := some ⟨q2, 0, none⟩, pc := p2 }), .pointer (some ⟨w.heap.size, 0, none⟩), .pointer (some ⟨qw1.heap.size, 0, none⟩), .pointer (some ⟨qw4.heap.size, 0, none⟩), .pointer (some ⟨qw7.heap.size, 0, none⟩), .pointer (some ⟨qw10.heap.size, 0, none⟩), .pointer (some ⟨qw13.heap.size, 0, none⟩), .pointer (some ⟨qw35.heap.size, 0, none⟩), .string S1, .pointer (some ⟨qw46.heap.size, 0, none⟩), .int .i64 (M : Int), .agg (cnCells { F with pa := some ⟨q, 0, none⟩, pc := p }), .agg (cnCells { F with pa := some ⟨g, 0, none⟩, pc := cp }), .agg (cnCells { T with pa := some ⟨q2, 0, none⟩, pc := p2 }), .agg (cnCells { T with pa := some ⟨g2, 0, none⟩, pc := cp2 }), .agg #[.int .i64 r, .string d, .bool e, .int .i64 n], .bool true, .bool false, .bool false, .agg (cnCells { F with pa := some ⟨g, 0, none⟩, pc := cp }), .bool true, .bool false, .bool false, .bool false, .agg (cnCells { T with pa := some ⟨g2, 0, none⟩, pc := cp2 }), .bool true, .bool false, .bool false, undef, undef, undef, .tuple #[.agg (cnCells { F1 with pa := some ⟨g3, 0, none⟩, pc := cp3 }), .string S1], .agg (cnCells { F with pa := some ⟨g, 0, none⟩, pc := cp }), .pointer (some ⟨w.heap.size, 0, none⟩), .int .i64 r, .pointer (some ⟨w.heap.size, 1, none⟩), .string d, .int .i64 (d.size : Int), .int .i64 (r - (d.size : Int)), .tuple #[.agg (cnCells { F1 with pa := some ⟨g3, 0, none⟩, pc := cp3 }), .string S1], .agg (cnCells { F1 with pa := some ⟨g3, 0, none⟩, pc := cp3 }), .string S1, .pointer (some ⟨w.heap.size, 1, none⟩), .string d, .string S1, .string D1, .pointer (some ⟨w.heap.size, 1, none⟩), .tuple #[.agg (cnCells { T1 with pa := some ⟨g4, 0, none⟩, pc := cp4 }), .int .i64 (M : Int)], .agg (cnCells { T with pa := some ⟨g2, 0, none⟩, pc := cp2 }), .pointer (some ⟨w.heap.size, 1, none⟩), .string D1, .tuple #[.agg (cnCells { T1 with pa := some ⟨g4, 0, none⟩, pc := cp4 }), .int .i64 (M : Int)], .agg (cnCells { T1 with pa := some ⟨g4, 0, none⟩, pc := cp4 }), .int .i64 (M : Int), .pointer (some ⟨w.heap.size, 1, none⟩), .string D1, .int .i64 (M : Int), .string D2, .pointer (some ⟨w.heap.size, 1, none⟩), .pointer (some ⟨w.heap.size, 3, none⟩), .int .i64 n, .int .i64 (M : Int), .int .i64 (n + (M : Int)), .int .i64 xN, .pointer (some ⟨w.heap.size, 3, none⟩), .pointer (some ⟨qw35.heap.size, 18, none⟩), .bool true, .bool true, .pointer (some ⟨qw35.heap.size, 11, none⟩), .pointer (some ⟨qw35.heap.size, 12, none⟩), .string F1.iD, .bool true, .bool true, .pointer (some ⟨w.heap.size, 2, none⟩), .pointer (some ⟨w.heap.size, 2, none⟩), .bool true, .bool true, .pointer (some ⟨w.heap.size, 1, none⟩), .string D2, .bool true, .bool true, .agg (cnCells { T1 with pa := some ⟨g4, 0, none⟩, pc := cp4 }), .agg (cnCells { T2 with pa := some ⟨g5, 0, none⟩, pc := cp5 }), undef, undef, undef] ?_
          go_upto_region 14 with (fail)
          have hN0 : 0 < qw65.heap.size := by have := qB62.lt; omega
          refine wp_region_low (Low (fun b => b < qw65.heap.size)) (fun i x v => match i with
              | 0 => v = .agg #[.int .i64 r, .string D2, .bool true, .int .i64 xN]
              | 1 => v = .agg (cnCells { F1 with pa := some ⟨g3, 0, none⟩, pc := cp3 })
              | 2 => v = .agg (cnCells { T2 with pa := some ⟨g5, 0, none⟩, pc := cp5 })
              | 3 => True
              | 4 => True
              | 5 => True
              | _ => True) (fun f vals x => Blk w.heap.size x #[.int .i64 r, .string D2, .bool true, .int .i64 xN] ∧ Blk qw1.heap.size x (cnCells { F with pa := some ⟨g, 0, none⟩, pc := cp }) ∧ Blk qw4.heap.size x (cnCells { T with pa := some ⟨g2, 0, none⟩, pc := cp2 }) ∧ Blk qw7.heap.size x (if f 3 then #[.int .i64 r, .string D2, .bool true, .int .i64 xN] else #[.int .i64 0, .string ByteArray.empty, .bool false, .int .i64 0]) ∧ Blk qw10.heap.size x (if f 4 then (cnCells { F1 with pa := some ⟨g3, 0, none⟩, pc := cp3 }) else (cnCells cnZero)) ∧ Blk qw13.heap.size x (if f 5 then (cnCells { T2 with pa := some ⟨g5, 0, none⟩, pc := cp5 }) else (cnCells cnZero)) ∧ Blk qw35.heap.size x (cnCells { F1 with pa := some ⟨g3, 0, none⟩, pc := cp3 }) ∧ Blk qw46.heap.size x (cnCells { T2 with pa := some ⟨g5, 0, none⟩, pc := cp5 }) ∧ Held shP x w.heap.size g3 F.pn cp3 ps ∧ Held shP x w.heap.size g5 T1.pn cp5 qs ∧ qw65.heap.size ≤ x.heap.size ∧ Since w x) (fun v => { tmps := #[.agg #[.int .i64 r, .string d, .bool e, .int .i64 n], .agg (cnCells { F with pa := some ⟨q, 0, none⟩, pc := p }), .agg (cnCells { T with pa := some ⟨q2, 0, none⟩, pc := p2 }), .pointer (some ⟨w.heap.size, 0, none⟩), .pointer (some ⟨qw1.heap.size, 0, none⟩), .pointer (some ⟨qw4.heap.size, 0, none⟩), .pointer (some ⟨qw7.heap.size, 0, none⟩), .pointer (some ⟨qw10.heap.size, 0, none⟩), .pointer (some ⟨qw13.heap.size, 0, none⟩), .pointer (some ⟨qw35.heap.size, 0, none⟩), .string S1, .pointer (some ⟨qw46.heap.size, 0, none⟩), .int .i64 (M : Int), .agg (cnCells { F with pa := some ⟨q, 0, none⟩, pc := p }), .agg (cnCells { F with pa := some ⟨g, 0, none⟩, pc := cp }), .agg (cnCells { T with pa := some ⟨q2, 0, none⟩, pc := p2 }), .agg (cnCells { T with pa := some ⟨g2, 0, none⟩, pc := cp2 }), .agg #[.int .i64 r, .string d, .bool e, .int .i64 n], .bool true, .bool false, .bool false, .agg (cnCells { F with pa := some ⟨g, 0, none⟩, pc := cp }), .bool true, .bool false, .bool false, .bool false, .agg (cnCells { T with pa := some ⟨g2, 0, none⟩, pc := cp2 }), .bool true, .bool false, .bool false, undef, undef, undef, .tuple #[.agg (cnCells { F1 with pa := some ⟨g3, 0, none⟩, pc := cp3 }), .string S1], .agg (cnCells { F with pa := some ⟨g, 0, none⟩, pc := cp }), .pointer (some ⟨w.heap.size, 0, none⟩), .int .i64 r, .pointer (some ⟨w.heap.size, 1, none⟩), .string d, .int .i64 (d.size : Int), .int .i64 (r - (d.size : Int)), .tuple #[.agg (cnCells { F1 with pa := some ⟨g3, 0, none⟩, pc := cp3 }), .string S1], .agg (cnCells { F1 with pa := some ⟨g3, 0, none⟩, pc := cp3 }), .string S1, .pointer (some ⟨w.heap.size, 1, none⟩), .string d, .string S1, .string D1, .pointer (some ⟨w.heap.size, 1, none⟩), .tuple #[.agg (cnCells { T1 with pa := some ⟨g4, 0, none⟩, pc := cp4 }), .int .i64 (M : Int)], .agg (cnCells { T with pa := some ⟨g2, 0, none⟩, pc := cp2 }), .pointer (some ⟨w.heap.size, 1, none⟩), .string D1, .tuple #[.agg (cnCells { T1 with pa := some ⟨g4, 0, none⟩, pc := cp4 }), .int .i64 (M : Int)], .agg (cnCells { T1 with pa := some ⟨g4, 0, none⟩, pc := cp4 }), .int .i64 (M : Int), .pointer (some ⟨w.heap.size, 1, none⟩), .string D1, .int .i64 (M : Int), .string D2, .pointer (some ⟨w.heap.size, 1, none⟩), .pointer (some ⟨w.heap.size, 3, none⟩), .int .i64 n, .int .i64 (M : Int), .int .i64 (n + (M : Int)), .int .i64 xN, .pointer (some ⟨w.heap.size, 3, none⟩), .pointer (some ⟨qw35.heap.size, 18, none⟩), .bool true, .bool true, .pointer (some ⟨qw35.heap.size, 11, none⟩), .pointer (some ⟨qw35.heap.size, 12, none⟩), .string F1.iD, .bool true, .bool true, .pointer (some ⟨w.heap.size, 2, none⟩), .pointer (some ⟨w.heap.size, 2, none⟩), .bool true, .bool true, .pointer (some ⟨w.heap.size, 1, none⟩), .string D2, .bool true, .bool true, .agg (cnCells { T1 with pa := some ⟨g4, 0, none⟩, pc := cp4 }), .agg (cnCells { T2 with pa := some ⟨g5, 0, none⟩, pc := cp5 }), v 0, v 1, v 2], defers := [] }) (by kernel_rfl) (by kernel_rfl) ?_ ?_ (fun vals => by kernel_rfl) ?_ ?_
          case refine_1 =>
            intro j x y v hl hv
            match j, hv with
            | 0, hv | 1, hv | 2, hv => exact hv
            | 3, hv | 4, hv | 5, hv => trivial
            | n + 6, _ => trivial
          case refine_2 =>
            intro f vals hf
            refine ⟨qB62.since ((Since.refl _).drew), qB23.since ((Since.refl _).drew), qB28.since ((Since.refl _).drew), (by rw [hf 3]; exact qB11.since ((Since.refl _).drew)), (by rw [hf 4]; exact qB14.since ((Since.refl _).drew)), (by rw [hf 5]; exact qB17.since ((Since.refl _).drew)), qB42.since ((Since.refl _).drew), qB67.since ((Since.refl _).drew), H3.since ((Since.refl _).drew), H5.since ((Since.refl _).drew), ((Since.refl _).drew).size, G.trans ((Since.refl _).drew)⟩
          case refine_3 =>
            repeat (first | exact eachLow_nil | refine eachLow_cons ?_ ?_)
            all_goals intro f vals x hf hr hK
            all_goals obtain ⟨k0, k1, k2, k3, k4, k5, k6, k7, k8, k9, k10, k11⟩ := hK
            · have ev : vals 2 = .agg (cnCells { T2 with pa := some ⟨g5, 0, none⟩, pc := cp5 }) := (hr ⟨2, .data⟩ (by simp) rfl).2
              have kz : Blk qw13.heap.size x (cnCells cnZero) := by have := k5; rw [hf] at this; exact this
              refine does_store cn_big (cn_size _) (Raw.of kz (cn_size _)) (cn_one _) _ _ rfl rfl ev ?_
              intro z t B
              exact ⟨Low.touch t (show qw13.heap.size < qw65.heap.size by omega), ⟨k0.touch t (by omega), k1.touch t (by omega), k2.touch t (by omega), k3.touch t (by omega), k4.touch t (by omega), B, k6.touch t (by omega), k7.touch t (by omega), k8.touch t (by omega), k9.touch t (by omega), Nat.le_trans k10 t.size, since_touch k11 t (by omega)⟩, trivial⟩
            · have ev : vals 1 = .agg (cnCells { F1 with pa := some ⟨g3, 0, none⟩, pc := cp3 }) := (hr ⟨1, .data⟩ (by simp) rfl).2
              have kz : Blk qw10.heap.size x (cnCells cnZero) := by have := k4; rw [hf] at this; exact this
              refine does_store cn_big (cn_size _) (Raw.of kz (cn_size _)) (cn_one _) _ _ rfl rfl ev ?_
              intro z t B
              exact ⟨Low.touch t (show qw10.heap.size < qw65.heap.size by omega), ⟨k0.touch t (by omega), k1.touch t (by omega), k2.touch t (by omega), k3.touch t (by omega), B, k5.touch t (by omega), k6.touch t (by omega), k7.touch t (by omega), k8.touch t (by omega), k9.touch t (by omega), Nat.le_trans k10 t.size, since_touch k11 t (by omega)⟩, trivial⟩
            · have ev : vals 0 = .agg #[.int .i64 r, .string D2, .bool true, .int .i64 xN] := (hr ⟨0, .data⟩ (by simp) rfl).2
              have kz : Blk qw7.heap.size x #[.int .i64 0, .string ByteArray.empty, .bool false, .int .i64 0] := by have := k3; rw [hf] at this; exact this
              refine does_store pp_big rfl (Raw.of kz rfl) (by simp [Value.oneCell']) _ _ rfl rfl ev ?_
              intro z t B
              exact ⟨Low.touch t (show qw7.heap.size < qw65.heap.size by omega), ⟨k0.touch t (by omega), k1.touch t (by omega), k2.touch t (by omega), B, k4.touch t (by omega), k5.touch t (by omega), k6.touch t (by omega), k7.touch t (by omega), k8.touch t (by omega), k9.touch t (by omega), Nat.le_trans k10 t.size, since_touch k11 t (by omega)⟩, trivial⟩
            · exact does_load cn_big (cn_size _) k7 _ rfl rfl ⟨Low.since (b := 0) (Since.refl _) (hN0), ⟨k0, k1, k2, k3, k4, k5, k6, k7, k8, k9, k10, k11⟩, rfl⟩
            · exact does_load cn_big (cn_size _) k6 _ rfl rfl ⟨Low.since (b := 0) (Since.refl _) (hN0), ⟨k0, k1, k2, k3, k4, k5, k6, k7, k8, k9, k10, k11⟩, rfl⟩
            · exact does_load pp_big rfl k0 _ rfl rfl ⟨Low.since (b := 0) (Since.refl _) (hN0), ⟨k0, k1, k2, k3, k4, k5, k6, k7, k8, k9, k10, k11⟩, rfl⟩
          case refine_4 =>
            intro f qv69 qw68 hK hf hv
            obtain ⟨k0, k1, k2, k3, k4, k5, k6, k7, k8, k9, k10, k11⟩ := hK
            clear qB62 qB23 qB28 qB11 qB14 qB17 qB42 qB67 H3 H5 G
            have hv0 : qv69 0 = _ := hv 0 (by decide)
            have hv1 : qv69 1 = _ := hv 1 (by decide)
            have hv2 : qv69 2 = _ := hv 2 (by decide)
            clear hv
            simp only [hv0, hv1, hv2]
            clear hv0 hv1 hv2
            have qB62 := k0
            clear k0
            have qB23 := k1
            clear k1
            have qB28 := k2
            clear k2
            have qB11 : Blk qw7.heap.size qw68 #[.int .i64 r, .string D2, .bool true, .int .i64 xN] := by have := k3; rw [hf 3 (by decide)] at this; exact this
            clear k3
            have qB14 : Blk qw10.heap.size qw68 (cnCells { F1 with pa := some ⟨g3, 0, none⟩, pc := cp3 }) := by have := k4; rw [hf 4 (by decide)] at this; exact this
            clear k4
            have qB17 : Blk qw13.heap.size qw68 (cnCells { T2 with pa := some ⟨g5, 0, none⟩, pc := cp5 }) := by have := k5; rw [hf 5 (by decide)] at this; exact this
            clear k5
            have qB42 := k6
            clear k6
            have qB67 := k7
            clear k7
            have H3 := k8
            clear k8
            have H5 := k9
            clear k9
            have G := k11
            clear k11
            have qw68_l := qB67.lt
            have qw68_n := k10
            clear k10
            go_wp2_with (fail)
            exact bodyPost_ret (results_3 (hs := rfl) (t := 6) (u := 7) (v := 8) rfl _ rfl rfl rfl qB11 qB14 qB17) rfl ⟨_, _, _, _, by rw [eX.out, eE.out, eF.out, eT.out], H3, (by rw [← pT1]; exact H5), by omega, G⟩
    case inr =>
      rcases Bool.eq_false_or_eq_true e with hee | hee
      all_goals replace hee : Hid _ := hee
      case inl =>
        cases c2
        case false =>
          have eE : Hid (xE = true) := (by rw [hxE.out]; unfold mvE; rw [hmk.out]; show endE r d e F ps = _; unfold endE; rw [← hF1.out, hgf.out]; exact hee.out : xE = true)
          have eT : Hid (xT = T1) := (by rw [hxT.out]; unfold mvT; rw [hmk.out]; show shutT (endE r d e F ps) (leftD r d F ps T qs) (writeC T qs (gotD r d F ps)) qs = _; have e1 : endE r d e F ps = true := (by rw [← eE.out, hxE.out]; unfold mvE; rw [hmk.out]; rfl); rw [e1, eL.out, ← hD1e.out, ← hT1.out]; unfold shutT; rw [← hc2.out]; rfl : xT = T1)
          refine vR ?_
          refine vV (.pointer (some ⟨qw35.heap.size, 18, none⟩)) ?_
          refine vD (.bool false) ((qB42.cell 18).trans (by show some (.bool F1.gfn : Value) = some (.bool false : Value); rw [hgf.out])) ?_
          refine vV (.bool false) ?_
          refine vS ?_
          refine vS ?_
          refine vS ?_
          refine vS ?_
          refine vV (.bool false) ?_
          refine vE #[.agg #[.int .i64 r, .string d, .bool e, .int .i64 n], .agg (cnCells { F with pa := some ⟨q, 0, none⟩, pc := p }), .agg (cnCells { T with pa := some ⟨q2, 0, none⟩, pc := p2 }), .pointer (some ⟨w.heap.size, 0, none⟩), .pointer (some ⟨qw1.heap.size, 0, none⟩), .pointer (some ⟨qw4.heap.size, 0, none⟩), .pointer (some ⟨qw7.heap.size, 0, none⟩), .pointer (some ⟨qw10.heap.size, 0, none⟩), .pointer (some ⟨qw13.heap.size, 0, none⟩), .pointer (some ⟨qw35.heap.size, 0, none⟩), .string S1, .pointer (some ⟨qw46.heap.size, 0, none⟩), .int .i64 (M : Int), .agg (cnCells { F with pa := some ⟨q, 0, none⟩, pc := p }), .agg (cnCells { F with pa := some ⟨g, 0, none⟩, pc := cp }), .agg (cnCells { T with pa := some ⟨q2, 0, none⟩, pc := p2 }), .agg (cnCells { T with pa := some ⟨g2, 0, none⟩, pc := cp2 }), .agg #[.int .i64 r, .string d, .bool e, .int .i64 n], .bool true, .bool false, .bool false, .agg (cnCells { F with pa := some ⟨g, 0, none⟩, pc := cp }), .bool true, .bool false, .bool false, .bool false, .agg (cnCells { T with pa := some ⟨g2, 0, none⟩, pc := cp2 }), .bool true, .bool false, .bool false, undef, undef, undef, .tuple #[.agg (cnCells { F1 with pa := some ⟨g3, 0, none⟩, pc := cp3 }), .string S1], .agg (cnCells { F with pa := some ⟨g, 0, none⟩, pc := cp }), .pointer (some ⟨w.heap.size, 0, none⟩), .int .i64 r, .pointer (some ⟨w.heap.size, 1, none⟩), .string d, .int .i64 (d.size : Int), .int .i64 (r - (d.size : Int)), .tuple #[.agg (cnCells { F1 with pa := some ⟨g3, 0, none⟩, pc := cp3 }), .string S1], .agg (cnCells { F1 with pa := some ⟨g3, 0, none⟩, pc := cp3 }), .string S1, .pointer (some ⟨w.heap.size, 1, none⟩), .string d, .string S1, .string D1, .pointer (some ⟨w.heap.size, 1, none⟩), .tuple #[.agg (cnCells { T1 with pa := some ⟨g4, 0, none⟩, pc := cp4 }), .int .i64 (M : Int)], .agg (cnCells { T with pa := some ⟨g2, 0, none⟩, pc := cp2 }), .pointer (some ⟨w.heap.size, 1, none⟩), .string D1, .tuple #[.agg (cnCells { T1 with pa := some ⟨g4, 0, none⟩, pc := cp4 }), .int .i64 (M : Int)], .agg (cnCells { T1 with pa := some ⟨g4, 0, none⟩, pc := cp4 }), .int .i64 (M : Int), .pointer (some ⟨w.heap.size, 1, none⟩), .string D1, .int .i64 (M : Int), .string D2, .pointer (some ⟨w.heap.size, 1, none⟩), .pointer (some ⟨w.heap.size, 3, none⟩), .int .i64 n, .int .i64 (M : Int), .int .i64 (n + (M : Int)), .int .i64 xN, .pointer (some ⟨w.heap.size, 3, none⟩), .pointer (some ⟨qw35.heap.size, 18, none⟩), .bool false, .bool false, undef, undef, undef, undef, .bool false, undef, undef, undef, undef, undef, undef, undef, undef, undef, undef, undef, undef, undef] ?_
          go_upto_region 12 with (fail)
          refine vR ?_
          refine vV (.pointer (some ⟨w.heap.size, 2, none⟩)) ?_
          refine vD (.bool true) ((qB59.cell 2).trans (by show some (.bool e : Value) = some (.bool true : Value); rw [hee.out])) ?_
          refine vV (.bool true) ?_
          refine vV (.pointer (some ⟨w.heap.size, 1, none⟩)) ?_
          refine vD (.string D2) (qB59.cell 1) ?_
          refine vEmp (D2) false (hc2.out.symm) ?_
          refine vV (.bool false) ?_
          refine vE #[.agg #[.int .i64 r, .string d, .bool e, .int .i64 n], .agg (cnCells { F with pa := some ⟨q, 0, none⟩, pc := p }), .agg (cnCells { T with pa := some ⟨q2, 0, none⟩, pc := p2 }), .pointer (some ⟨w.heap.size, 0, none⟩), .pointer (some ⟨qw1.heap.size, 0, none⟩), .pointer (some ⟨qw4.heap.size, 0, none⟩), .pointer (some ⟨qw7.heap.size, 0, none⟩), .pointer (some ⟨qw10.heap.size, 0, none⟩), .pointer (some ⟨qw13.heap.size, 0, none⟩), .pointer (some ⟨qw35.heap.size, 0, none⟩), .string S1, .pointer (some ⟨qw46.heap.size, 0, none⟩), .int .i64 (M : Int), .agg (cnCells { F with pa := some ⟨q, 0, none⟩, pc := p }), .agg (cnCells { F with pa := some ⟨g, 0, none⟩, pc := cp }), .agg (cnCells { T with pa := some ⟨q2, 0, none⟩, pc := p2 }), .agg (cnCells { T with pa := some ⟨g2, 0, none⟩, pc := cp2 }), .agg #[.int .i64 r, .string d, .bool e, .int .i64 n], .bool true, .bool false, .bool false, .agg (cnCells { F with pa := some ⟨g, 0, none⟩, pc := cp }), .bool true, .bool false, .bool false, .bool false, .agg (cnCells { T with pa := some ⟨g2, 0, none⟩, pc := cp2 }), .bool true, .bool false, .bool false, undef, undef, undef, .tuple #[.agg (cnCells { F1 with pa := some ⟨g3, 0, none⟩, pc := cp3 }), .string S1], .agg (cnCells { F with pa := some ⟨g, 0, none⟩, pc := cp }), .pointer (some ⟨w.heap.size, 0, none⟩), .int .i64 r, .pointer (some ⟨w.heap.size, 1, none⟩), .string d, .int .i64 (d.size : Int), .int .i64 (r - (d.size : Int)), .tuple #[.agg (cnCells { F1 with pa := some ⟨g3, 0, none⟩, pc := cp3 }), .string S1], .agg (cnCells { F1 with pa := some ⟨g3, 0, none⟩, pc := cp3 }), .string S1, .pointer (some ⟨w.heap.size, 1, none⟩), .string d, .string S1, .string D1, .pointer (some ⟨w.heap.size, 1, none⟩), .tuple #[.agg (cnCells { T1 with pa := some ⟨g4, 0, none⟩, pc := cp4 }), .int .i64 (M : Int)], .agg (cnCells { T with pa := some ⟨g2, 0, none⟩, pc := cp2 }), .pointer (some ⟨w.heap.size, 1, none⟩), .string D1, .tuple #[.agg (cnCells { T1 with pa := some ⟨g4, 0, none⟩, pc := cp4 }), .int .i64 (M : Int)], .agg (cnCells { T1 with pa := some ⟨g4, 0, none⟩, pc := cp4 }), .int .i64 (M : Int), .pointer (some ⟨w.heap.size, 1, none⟩), .string D1, .int .i64 (M : Int), .string D2, .pointer (some ⟨w.heap.size, 1, none⟩), .pointer (some ⟨w.heap.size, 3, none⟩), .int .i64 n, .int .i64 (M : Int), .int .i64 (n + (M : Int)), .int .i64 xN, .pointer (some ⟨w.heap.size, 3, none⟩), .pointer (some ⟨qw35.heap.size, 18, none⟩), .bool false, .bool false, undef, undef, undef, undef, .bool false, undef, .pointer (some ⟨w.heap.size, 2, none⟩), .bool true, .bool true, .pointer (some ⟨w.heap.size, 1, none⟩), .string D2, .bool false, .bool false, undef, undef, undef, undef, undef] ?_
          go_upto_region 14 with (fail)
          have hN0 : 0 < qw57.heap.size := by have := qB59.lt; omega
          refine wp_region_low (Low (fun b => b < qw57.heap.size)) (fun i x v => match i with
              | 0 => v = .agg #[.int .i64 r, .string D2, .bool e, .int .i64 xN]
              | 1 => v = .agg (cnCells { F1 with pa := some ⟨g3, 0, none⟩, pc := cp3 })
              | 2 => v = .agg (cnCells { T1 with pa := some ⟨g4, 0, none⟩, pc := cp4 })
              | 3 => True
              | 4 => True
              | 5 => True
              | _ => True) (fun f vals x => Blk w.heap.size x #[.int .i64 r, .string D2, .bool e, .int .i64 xN] ∧ Blk qw1.heap.size x (cnCells { F with pa := some ⟨g, 0, none⟩, pc := cp }) ∧ Blk qw4.heap.size x (cnCells { T with pa := some ⟨g2, 0, none⟩, pc := cp2 }) ∧ Blk qw7.heap.size x (if f 3 then #[.int .i64 r, .string D2, .bool e, .int .i64 xN] else #[.int .i64 0, .string ByteArray.empty, .bool false, .int .i64 0]) ∧ Blk qw10.heap.size x (if f 4 then (cnCells { F1 with pa := some ⟨g3, 0, none⟩, pc := cp3 }) else (cnCells cnZero)) ∧ Blk qw13.heap.size x (if f 5 then (cnCells { T1 with pa := some ⟨g4, 0, none⟩, pc := cp4 }) else (cnCells cnZero)) ∧ Blk qw35.heap.size x (cnCells { F1 with pa := some ⟨g3, 0, none⟩, pc := cp3 }) ∧ Blk qw46.heap.size x (cnCells { T1 with pa := some ⟨g4, 0, none⟩, pc := cp4 }) ∧ Held shP x w.heap.size g3 F.pn cp3 ps ∧ Held shP x w.heap.size g4 T.pn cp4 qs ∧ qw57.heap.size ≤ x.heap.size ∧ Since w x) (fun v => { tmps := #[.agg #[.int .i64 r, .string d, .bool e, .int .i64 n], .agg (cnCells { F with pa := some ⟨q, 0, none⟩, pc := p }), .agg (cnCells { T with pa := some ⟨q2, 0, none⟩, pc := p2 }), .pointer (some ⟨w.heap.size, 0, none⟩), .pointer (some ⟨qw1.heap.size, 0, none⟩), .pointer (some ⟨qw4.heap.size, 0, none⟩), .pointer (some ⟨qw7.heap.size, 0, none⟩), .pointer (some ⟨qw10.heap.size, 0, none⟩), .pointer (some ⟨qw13.heap.size, 0, none⟩), .pointer (some ⟨qw35.heap.size, 0, none⟩), .string S1, .pointer (some ⟨qw46.heap.size, 0, none⟩), .int .i64 (M : Int), .agg (cnCells { F with pa := some ⟨q, 0, none⟩, pc := p }), .agg (cnCells { F with pa := some ⟨g, 0, none⟩, pc := cp }), .agg (cnCells { T with pa := some ⟨q2, 0, none⟩, pc := p2 }), .agg (cnCells { T with pa := some ⟨g2, 0, none⟩, pc := cp2 }), .agg #[.int .i64 r, .string d, .bool e, .int .i64 n], .bool true, .bool false, .bool false, .agg (cnCells { F with pa := some ⟨g, 0, none⟩, pc := cp }), .bool true, .bool false, .bool false, .bool false, .agg (cnCells { T with pa := some ⟨g2, 0, none⟩, pc := cp2 }), .bool true, .bool false, .bool false, undef, undef, undef, .tuple #[.agg (cnCells { F1 with pa := some ⟨g3, 0, none⟩, pc := cp3 }), .string S1], .agg (cnCells { F with pa := some ⟨g, 0, none⟩, pc := cp }), .pointer (some ⟨w.heap.size, 0, none⟩), .int .i64 r, .pointer (some ⟨w.heap.size, 1, none⟩), .string d, .int .i64 (d.size : Int), .int .i64 (r - (d.size : Int)), .tuple #[.agg (cnCells { F1 with pa := some ⟨g3, 0, none⟩, pc := cp3 }), .string S1], .agg (cnCells { F1 with pa := some ⟨g3, 0, none⟩, pc := cp3 }), .string S1, .pointer (some ⟨w.heap.size, 1, none⟩), .string d, .string S1, .string D1, .pointer (some ⟨w.heap.size, 1, none⟩), .tuple #[.agg (cnCells { T1 with pa := some ⟨g4, 0, none⟩, pc := cp4 }), .int .i64 (M : Int)], .agg (cnCells { T with pa := some ⟨g2, 0, none⟩, pc := cp2 }), .pointer (some ⟨w.heap.size, 1, none⟩), .string D1, .tuple #[.agg (cnCells { T1 with pa := some ⟨g4, 0, none⟩, pc := cp4 }), .int .i64 (M : Int)], .agg (cnCells { T1 with pa := some ⟨g4, 0, none⟩, pc := cp4 }), .int .i64 (M : Int), .pointer (some ⟨w.heap.size, 1, none⟩), .string D1, .int .i64 (M : Int), .string D2, .pointer (some ⟨w.heap.size, 1, none⟩), .pointer (some ⟨w.heap.size, 3, none⟩), .int .i64 n, .int .i64 (M : Int), .int .i64 (n + (M : Int)), .int .i64 xN, .pointer (some ⟨w.heap.size, 3, none⟩), .pointer (some ⟨qw35.heap.size, 18, none⟩), .bool false, .bool false, undef, undef, undef, undef, .bool false, undef, .pointer (some ⟨w.heap.size, 2, none⟩), .bool true, .bool true, .pointer (some ⟨w.heap.size, 1, none⟩), .string D2, .bool false, .bool false, undef, undef, v 0, v 1, v 2], defers := [] }) (by kernel_rfl) (by kernel_rfl) ?_ ?_ (fun vals => by kernel_rfl) ?_ ?_
          case refine_1 =>
            intro j x y v hl hv
            match j, hv with
            | 0, hv | 1, hv | 2, hv => exact hv
            | 3, hv | 4, hv | 5, hv => trivial
            | n + 6, _ => trivial
          case refine_2 =>
            intro f vals hf
            refine ⟨qB59.since ((Since.refl _).drew), qB23.since ((Since.refl _).drew), qB28.since ((Since.refl _).drew), (by rw [hf 3]; exact qB11.since ((Since.refl _).drew)), (by rw [hf 4]; exact qB14.since ((Since.refl _).drew)), (by rw [hf 5]; exact qB17.since ((Since.refl _).drew)), qB42.since ((Since.refl _).drew), qB53.since ((Since.refl _).drew), H3.since ((Since.refl _).drew), H4.since ((Since.refl _).drew), ((Since.refl _).drew).size, G.trans ((Since.refl _).drew)⟩
          case refine_3 =>
            repeat (first | exact eachLow_nil | refine eachLow_cons ?_ ?_)
            all_goals intro f vals x hf hr hK
            all_goals obtain ⟨k0, k1, k2, k3, k4, k5, k6, k7, k8, k9, k10, k11⟩ := hK
            · have ev : vals 2 = .agg (cnCells { T1 with pa := some ⟨g4, 0, none⟩, pc := cp4 }) := (hr ⟨2, .data⟩ (by simp) rfl).2
              have kz : Blk qw13.heap.size x (cnCells cnZero) := by have := k5; rw [hf] at this; exact this
              refine does_store cn_big (cn_size _) (Raw.of kz (cn_size _)) (cn_one _) _ _ rfl rfl ev ?_
              intro z t B
              exact ⟨Low.touch t (show qw13.heap.size < qw57.heap.size by omega), ⟨k0.touch t (by omega), k1.touch t (by omega), k2.touch t (by omega), k3.touch t (by omega), k4.touch t (by omega), B, k6.touch t (by omega), k7.touch t (by omega), k8.touch t (by omega), k9.touch t (by omega), Nat.le_trans k10 t.size, since_touch k11 t (by omega)⟩, trivial⟩
            · have ev : vals 1 = .agg (cnCells { F1 with pa := some ⟨g3, 0, none⟩, pc := cp3 }) := (hr ⟨1, .data⟩ (by simp) rfl).2
              have kz : Blk qw10.heap.size x (cnCells cnZero) := by have := k4; rw [hf] at this; exact this
              refine does_store cn_big (cn_size _) (Raw.of kz (cn_size _)) (cn_one _) _ _ rfl rfl ev ?_
              intro z t B
              exact ⟨Low.touch t (show qw10.heap.size < qw57.heap.size by omega), ⟨k0.touch t (by omega), k1.touch t (by omega), k2.touch t (by omega), k3.touch t (by omega), B, k5.touch t (by omega), k6.touch t (by omega), k7.touch t (by omega), k8.touch t (by omega), k9.touch t (by omega), Nat.le_trans k10 t.size, since_touch k11 t (by omega)⟩, trivial⟩
            · have ev : vals 0 = .agg #[.int .i64 r, .string D2, .bool e, .int .i64 xN] := (hr ⟨0, .data⟩ (by simp) rfl).2
              have kz : Blk qw7.heap.size x #[.int .i64 0, .string ByteArray.empty, .bool false, .int .i64 0] := by have := k3; rw [hf] at this; exact this
              refine does_store pp_big rfl (Raw.of kz rfl) (by simp [Value.oneCell']) _ _ rfl rfl ev ?_
              intro z t B
              exact ⟨Low.touch t (show qw7.heap.size < qw57.heap.size by omega), ⟨k0.touch t (by omega), k1.touch t (by omega), k2.touch t (by omega), B, k4.touch t (by omega), k5.touch t (by omega), k6.touch t (by omega), k7.touch t (by omega), k8.touch t (by omega), k9.touch t (by omega), Nat.le_trans k10 t.size, since_touch k11 t (by omega)⟩, trivial⟩
            · exact does_load cn_big (cn_size _) k7 _ rfl rfl ⟨Low.since (b := 0) (Since.refl _) (hN0), ⟨k0, k1, k2, k3, k4, k5, k6, k7, k8, k9, k10, k11⟩, rfl⟩
            · exact does_load cn_big (cn_size _) k6 _ rfl rfl ⟨Low.since (b := 0) (Since.refl _) (hN0), ⟨k0, k1, k2, k3, k4, k5, k6, k7, k8, k9, k10, k11⟩, rfl⟩
            · exact does_load pp_big rfl k0 _ rfl rfl ⟨Low.since (b := 0) (Since.refl _) (hN0), ⟨k0, k1, k2, k3, k4, k5, k6, k7, k8, k9, k10, k11⟩, rfl⟩
          case refine_4 =>
            intro f qv61 qw60 hK hf hv
            obtain ⟨k0, k1, k2, k3, k4, k5, k6, k7, k8, k9, k10, k11⟩ := hK
            clear qB59 qB23 qB28 qB11 qB14 qB17 qB42 qB53 H3 H4 G
            have hv0 : qv61 0 = _ := hv 0 (by decide)
            have hv1 : qv61 1 = _ := hv 1 (by decide)
            have hv2 : qv61 2 = _ := hv 2 (by decide)
            clear hv
            simp only [hv0, hv1, hv2]
            clear hv0 hv1 hv2
            have qB59 := k0
            clear k0
            have qB23 := k1
            clear k1
            have qB28 := k2
            clear k2
            have qB11 : Blk qw7.heap.size qw60 #[.int .i64 r, .string D2, .bool e, .int .i64 xN] := by have := k3; rw [hf 3 (by decide)] at this; exact this
            clear k3
            have qB14 : Blk qw10.heap.size qw60 (cnCells { F1 with pa := some ⟨g3, 0, none⟩, pc := cp3 }) := by have := k4; rw [hf 4 (by decide)] at this; exact this
            clear k4
            have qB17 : Blk qw13.heap.size qw60 (cnCells { T1 with pa := some ⟨g4, 0, none⟩, pc := cp4 }) := by have := k5; rw [hf 5 (by decide)] at this; exact this
            clear k5
            have qB42 := k6
            clear k6
            have qB53 := k7
            clear k7
            have H3 := k8
            clear k8
            have H4 := k9
            clear k9
            have G := k11
            clear k11
            have qw60_l := qB53.lt
            have qw60_n := k10
            clear k10
            go_wp2_with (fail)
            exact bodyPost_ret (results_3 (hs := rfl) (t := 6) (u := 7) (v := 8) rfl _ rfl rfl rfl qB11 qB14 qB17) rfl ⟨_, _, _, _, by rw [eX.out, eE.out, ← hee.out, eF.out, eT.out], H3, H4, by omega, G⟩
        case true =>
          have eE : Hid (xE = true) := (by rw [hxE.out]; unfold mvE; rw [hmk.out]; show endE r d e F ps = _; unfold endE; rw [← hF1.out, hgf.out]; exact hee.out : xE = true)
          have eT : Hid (xT = T2) := (by rw [hxT.out]; unfold mvT; rw [hmk.out]; show shutT (endE r d e F ps) (leftD r d F ps T qs) (writeC T qs (gotD r d F ps)) qs = _; have e1 : endE r d e F ps = true := (by rw [← eE.out, hxE.out]; unfold mvE; rw [hmk.out]; rfl); rw [e1, eL.out, ← hD1e.out, ← hT1.out]; unfold shutT; rw [← hc2.out]; exact hT2.out.symm : xT = T2)
          refine vR ?_
          refine vV (.pointer (some ⟨qw35.heap.size, 18, none⟩)) ?_
          refine vD (.bool false) ((qB42.cell 18).trans (by show some (.bool F1.gfn : Value) = some (.bool false : Value); rw [hgf.out])) ?_
          refine vV (.bool false) ?_
          refine vS ?_
          refine vS ?_
          refine vS ?_
          refine vS ?_
          refine vV (.bool false) ?_
          refine vE #[.agg #[.int .i64 r, .string d, .bool e, .int .i64 n], .agg (cnCells { F with pa := some ⟨q, 0, none⟩, pc := p }), .agg (cnCells { T with pa := some ⟨q2, 0, none⟩, pc := p2 }), .pointer (some ⟨w.heap.size, 0, none⟩), .pointer (some ⟨qw1.heap.size, 0, none⟩), .pointer (some ⟨qw4.heap.size, 0, none⟩), .pointer (some ⟨qw7.heap.size, 0, none⟩), .pointer (some ⟨qw10.heap.size, 0, none⟩), .pointer (some ⟨qw13.heap.size, 0, none⟩), .pointer (some ⟨qw35.heap.size, 0, none⟩), .string S1, .pointer (some ⟨qw46.heap.size, 0, none⟩), .int .i64 (M : Int), .agg (cnCells { F with pa := some ⟨q, 0, none⟩, pc := p }), .agg (cnCells { F with pa := some ⟨g, 0, none⟩, pc := cp }), .agg (cnCells { T with pa := some ⟨q2, 0, none⟩, pc := p2 }), .agg (cnCells { T with pa := some ⟨g2, 0, none⟩, pc := cp2 }), .agg #[.int .i64 r, .string d, .bool e, .int .i64 n], .bool true, .bool false, .bool false, .agg (cnCells { F with pa := some ⟨g, 0, none⟩, pc := cp }), .bool true, .bool false, .bool false, .bool false, .agg (cnCells { T with pa := some ⟨g2, 0, none⟩, pc := cp2 }), .bool true, .bool false, .bool false, undef, undef, undef, .tuple #[.agg (cnCells { F1 with pa := some ⟨g3, 0, none⟩, pc := cp3 }), .string S1], .agg (cnCells { F with pa := some ⟨g, 0, none⟩, pc := cp }), .pointer (some ⟨w.heap.size, 0, none⟩), .int .i64 r, .pointer (some ⟨w.heap.size, 1, none⟩), .string d, .int .i64 (d.size : Int), .int .i64 (r - (d.size : Int)), .tuple #[.agg (cnCells { F1 with pa := some ⟨g3, 0, none⟩, pc := cp3 }), .string S1], .agg (cnCells { F1 with pa := some ⟨g3, 0, none⟩, pc := cp3 }), .string S1, .pointer (some ⟨w.heap.size, 1, none⟩), .string d, .string S1, .string D1, .pointer (some ⟨w.heap.size, 1, none⟩), .tuple #[.agg (cnCells { T1 with pa := some ⟨g4, 0, none⟩, pc := cp4 }), .int .i64 (M : Int)], .agg (cnCells { T with pa := some ⟨g2, 0, none⟩, pc := cp2 }), .pointer (some ⟨w.heap.size, 1, none⟩), .string D1, .tuple #[.agg (cnCells { T1 with pa := some ⟨g4, 0, none⟩, pc := cp4 }), .int .i64 (M : Int)], .agg (cnCells { T1 with pa := some ⟨g4, 0, none⟩, pc := cp4 }), .int .i64 (M : Int), .pointer (some ⟨w.heap.size, 1, none⟩), .string D1, .int .i64 (M : Int), .string D2, .pointer (some ⟨w.heap.size, 1, none⟩), .pointer (some ⟨w.heap.size, 3, none⟩), .int .i64 n, .int .i64 (M : Int), .int .i64 (n + (M : Int)), .int .i64 xN, .pointer (some ⟨w.heap.size, 3, none⟩), .pointer (some ⟨qw35.heap.size, 18, none⟩), .bool false, .bool false, undef, undef, undef, undef, .bool false, undef, undef, undef, undef, undef, undef, undef, undef, undef, undef, undef, undef, undef] ?_
          go_upto_region 12 with (fail)
          refine vR ?_
          refine vV (.pointer (some ⟨w.heap.size, 2, none⟩)) ?_
          refine vD (.bool true) ((qB59.cell 2).trans (by show some (.bool e : Value) = some (.bool true : Value); rw [hee.out])) ?_
          refine vV (.bool true) ?_
          refine vV (.pointer (some ⟨w.heap.size, 1, none⟩)) ?_
          refine vD (.string D2) (qB59.cell 1) ?_
          refine vEmp (D2) true (hc2.out.symm) ?_
          refine vV (.bool true) ?_
          refine vE #[.agg #[.int .i64 r, .string d, .bool e, .int .i64 n], .agg (cnCells { F with pa := some ⟨q, 0, none⟩, pc := p }), .agg (cnCells { T with pa := some ⟨q2, 0, none⟩, pc := p2 }), .pointer (some ⟨w.heap.size, 0, none⟩), .pointer (some ⟨qw1.heap.size, 0, none⟩), .pointer (some ⟨qw4.heap.size, 0, none⟩), .pointer (some ⟨qw7.heap.size, 0, none⟩), .pointer (some ⟨qw10.heap.size, 0, none⟩), .pointer (some ⟨qw13.heap.size, 0, none⟩), .pointer (some ⟨qw35.heap.size, 0, none⟩), .string S1, .pointer (some ⟨qw46.heap.size, 0, none⟩), .int .i64 (M : Int), .agg (cnCells { F with pa := some ⟨q, 0, none⟩, pc := p }), .agg (cnCells { F with pa := some ⟨g, 0, none⟩, pc := cp }), .agg (cnCells { T with pa := some ⟨q2, 0, none⟩, pc := p2 }), .agg (cnCells { T with pa := some ⟨g2, 0, none⟩, pc := cp2 }), .agg #[.int .i64 r, .string d, .bool e, .int .i64 n], .bool true, .bool false, .bool false, .agg (cnCells { F with pa := some ⟨g, 0, none⟩, pc := cp }), .bool true, .bool false, .bool false, .bool false, .agg (cnCells { T with pa := some ⟨g2, 0, none⟩, pc := cp2 }), .bool true, .bool false, .bool false, undef, undef, undef, .tuple #[.agg (cnCells { F1 with pa := some ⟨g3, 0, none⟩, pc := cp3 }), .string S1], .agg (cnCells { F with pa := some ⟨g, 0, none⟩, pc := cp }), .pointer (some ⟨w.heap.size, 0, none⟩), .int .i64 r, .pointer (some ⟨w.heap.size, 1, none⟩), .string d, .int .i64 (d.size : Int), .int .i64 (r - (d.size : Int)), .tuple #[.agg (cnCells { F1 with pa := some ⟨g3, 0, none⟩, pc := cp3 }), .string S1], .agg (cnCells { F1 with pa := some ⟨g3, 0, none⟩, pc := cp3 }), .string S1, .pointer (some ⟨w.heap.size, 1, none⟩), .string d, .string S1, .string D1, .pointer (some ⟨w.heap.size, 1, none⟩), .tuple #[.agg (cnCells { T1 with pa := some ⟨g4, 0, none⟩, pc := cp4 }), .int .i64 (M : Int)], .agg (cnCells { T with pa := some ⟨g2, 0, none⟩, pc := cp2 }), .pointer (some ⟨w.heap.size, 1, none⟩), .string D1, .tuple #[.agg (cnCells { T1 with pa := some ⟨g4, 0, none⟩, pc := cp4 }), .int .i64 (M : Int)], .agg (cnCells { T1 with pa := some ⟨g4, 0, none⟩, pc := cp4 }), .int .i64 (M : Int), .pointer (some ⟨w.heap.size, 1, none⟩), .string D1, .int .i64 (M : Int), .string D2, .pointer (some ⟨w.heap.size, 1, none⟩), .pointer (some ⟨w.heap.size, 3, none⟩), .int .i64 n, .int .i64 (M : Int), .int .i64 (n + (M : Int)), .int .i64 xN, .pointer (some ⟨w.heap.size, 3, none⟩), .pointer (some ⟨qw35.heap.size, 18, none⟩), .bool false, .bool false, undef, undef, undef, undef, .bool false, undef, .pointer (some ⟨w.heap.size, 2, none⟩), .bool true, .bool true, .pointer (some ⟨w.heap.size, 1, none⟩), .string D2, .bool true, .bool true, undef, undef, undef, undef, undef] ?_
          go_upto_region 13 with (fail)
          refine vR ?_
          refine vB cn_big qB53 (cn_size _) ?_
          refine vC (hs1 g4 cp4 _ H4.reads) ?_
          rintro _ qw60 ⟨g5, cp5, rfl, H5, qg61⟩
          refine ⟨_, rfl, ?_⟩
          replace qB59 := qB59.since qg61
          replace qB23 := qB23.since qg61
          replace qB28 := qB28.since qg61
          replace qB11 := qB11.since qg61
          replace qB14 := qB14.since qg61
          replace qB17 := qB17.since qg61
          replace qB42 := qB42.since qg61
          replace qB53 := qB53.since qg61
          replace H3 := H3.since qg61
          replace H4 := H4.since qg61
          replace G := G.trans qg61
          have qg61_s := qg61.size
          have H5_0 := H5.low'
          replace H5 := H5.raise (show w.heap.size ≤ g5 by omega)
          have H5_1 := H5.lt
          clear H4
          refine sB (cnCells { T2 with pa := some ⟨g5, 0, none⟩, pc := cp5 }) cn_big qB53 (cn_size _) (cn_size _) (cn_one _) ?_
          intro qw62 qt63 qB64
          clear qB53
          replace qB59 := qB59.touch qt63 (by omega)
          replace qB23 := qB23.touch qt63 (by omega)
          replace qB28 := qB28.touch qt63 (by omega)
          replace qB11 := qB11.touch qt63 (by omega)
          replace qB14 := qB14.touch qt63 (by omega)
          replace qB17 := qB17.touch qt63 (by omega)
          replace qB42 := qB42.touch qt63 (by omega)
          replace H3 := H3.touch qt63 (by omega)
          replace H5 := H5.touch qt63 (by omega)
          replace G := since_touch G qt63 (by omega)
          have qt63_s := qt63.size
          refine vE #[.agg #[.int .i64 r, .string d, .bool e, .int .i64 n], .agg (cnCells { F with pa := some ⟨q, 0, none⟩, pc := p }), .agg (cnCells { T with pa := some ⟨q2, 0, none⟩, pc := p2 }), .pointer (some ⟨w.heap.size, 0, none⟩), .pointer (some ⟨qw1.heap.size, 0, none⟩), .pointer (some ⟨qw4.heap.size, 0, none⟩), .pointer (some ⟨qw7.heap.size, 0, none⟩), .pointer (some ⟨qw10.heap.size, 0, none⟩), .pointer (some ⟨qw13.heap.size, 0, none⟩), .pointer (some ⟨qw35.heap.size, 0, none⟩), .string S1, .pointer (some ⟨qw46.heap.size, 0, none⟩), .int .i64 (M : Int), .agg (cnCells { F with pa := some ⟨q, 0, none⟩, pc := p }), .agg (cnCells { F with pa := some ⟨g, 0, none⟩, pc := cp }), .agg (cnCells { T with pa := some ⟨q2, 0, none⟩, pc := p2 }), .agg (cnCells { T with pa := some ⟨g2, 0, none⟩, pc := cp2 }), .agg #[.int .i64 r, .string d, .bool e, .int .i64 n], .bool true, .bool false, .bool false, .agg (cnCells { F with pa := some ⟨g, 0, none⟩, pc := cp }), .bool true, .bool false, .bool false, .bool false, .agg (cnCells { T with pa := some ⟨g2, 0, none⟩, pc := cp2 }), .bool true, .bool false, .bool false, undef, undef, undef, .tuple #[.agg (cnCells { F1 with pa := some ⟨g3, 0, none⟩, pc := cp3 }), .string S1], .agg (cnCells { F with pa := some ⟨g, 0, none⟩, pc := cp }), .pointer (some ⟨w.heap.size, 0, none⟩), .int .i64 r, .pointer (some ⟨w.heap.size, 1, none⟩), .string d, .int .i64 (d.size : Int), .int .i64 (r - (d.size : Int)), .tuple #[.agg (cnCells { F1 with pa := some ⟨g3, 0, none⟩, pc := cp3 }), .string S1], .agg (cnCells { F1 with pa := some ⟨g3, 0, none⟩, pc := cp3 }), .string S1, .pointer (some ⟨w.heap.size, 1, none⟩), .string d, .string S1, .string D1, .pointer (some ⟨w.heap.size, 1, none⟩), .tuple #[.agg (cnCells { T1 with pa := some ⟨g4, 0, none⟩, pc := cp4 }), .int .i64 (M : Int)], .agg (cnCells { T with pa := some ⟨g2, 0, none⟩, pc := cp2 }), .pointer (some ⟨w.heap.size, 1, none⟩), .string D1, .tuple #[.agg (cnCells { T1 with pa := some ⟨g4, 0, none⟩, pc := cp4 }), .int .i64 (M : Int)], .agg (cnCells { T1 with pa := some ⟨g4, 0, none⟩, pc := cp4 }), .int .i64 (M : Int), .pointer (some ⟨w.heap.size, 1, none⟩), .string D1, .int .i64 (M : Int), .string D2, .pointer (some ⟨w.heap.size, 1, none⟩), .pointer (some ⟨w.heap.size, 3, none⟩), .int .i64 n, .int .i64 (M : Int), .int .i64 (n + (M : Int)), .int .i64 xN, .pointer (some ⟨w.heap.size, 3, none⟩), .pointer (some ⟨qw35.heap.size, 18, none⟩), .bool false, .bool false, undef, undef, undef, undef, .bool false, undef, .pointer (some ⟨w.heap.size, 2, none⟩), .bool true, .bool true, .pointer (some ⟨w.heap.size, 1, none⟩), .string D2, .bool true, .bool true, .agg (cnCells { T1 with pa := some ⟨g4, 0, none⟩, pc := cp4 }), .agg (cnCells { T2 with pa := some ⟨g5, 0, none⟩, pc := cp5 }), undef, undef, undef] ?_
          go_upto_region 14 with (fail)
          have hN0 : 0 < qw62.heap.size := by have := qB59.lt; omega
          refine wp_region_low (Low (fun b => b < qw62.heap.size)) (fun i x v => match i with
              | 0 => v = .agg #[.int .i64 r, .string D2, .bool e, .int .i64 xN]
              | 1 => v = .agg (cnCells { F1 with pa := some ⟨g3, 0, none⟩, pc := cp3 })
              | 2 => v = .agg (cnCells { T2 with pa := some ⟨g5, 0, none⟩, pc := cp5 })
              | 3 => True
              | 4 => True
              | 5 => True
              | _ => True) (fun f vals x => Blk w.heap.size x #[.int .i64 r, .string D2, .bool e, .int .i64 xN] ∧ Blk qw1.heap.size x (cnCells { F with pa := some ⟨g, 0, none⟩, pc := cp }) ∧ Blk qw4.heap.size x (cnCells { T with pa := some ⟨g2, 0, none⟩, pc := cp2 }) ∧ Blk qw7.heap.size x (if f 3 then #[.int .i64 r, .string D2, .bool e, .int .i64 xN] else #[.int .i64 0, .string ByteArray.empty, .bool false, .int .i64 0]) ∧ Blk qw10.heap.size x (if f 4 then (cnCells { F1 with pa := some ⟨g3, 0, none⟩, pc := cp3 }) else (cnCells cnZero)) ∧ Blk qw13.heap.size x (if f 5 then (cnCells { T2 with pa := some ⟨g5, 0, none⟩, pc := cp5 }) else (cnCells cnZero)) ∧ Blk qw35.heap.size x (cnCells { F1 with pa := some ⟨g3, 0, none⟩, pc := cp3 }) ∧ Blk qw46.heap.size x (cnCells { T2 with pa := some ⟨g5, 0, none⟩, pc := cp5 }) ∧ Held shP x w.heap.size g3 F.pn cp3 ps ∧ Held shP x w.heap.size g5 T1.pn cp5 qs ∧ qw62.heap.size ≤ x.heap.size ∧ Since w x) (fun v => { tmps := #[.agg #[.int .i64 r, .string d, .bool e, .int .i64 n], .agg (cnCells { F with pa := some ⟨q, 0, none⟩, pc := p }), .agg (cnCells { T with pa := some ⟨q2, 0, none⟩, pc := p2 }), .pointer (some ⟨w.heap.size, 0, none⟩), .pointer (some ⟨qw1.heap.size, 0, none⟩), .pointer (some ⟨qw4.heap.size, 0, none⟩), .pointer (some ⟨qw7.heap.size, 0, none⟩), .pointer (some ⟨qw10.heap.size, 0, none⟩), .pointer (some ⟨qw13.heap.size, 0, none⟩), .pointer (some ⟨qw35.heap.size, 0, none⟩), .string S1, .pointer (some ⟨qw46.heap.size, 0, none⟩), .int .i64 (M : Int), .agg (cnCells { F with pa := some ⟨q, 0, none⟩, pc := p }), .agg (cnCells { F with pa := some ⟨g, 0, none⟩, pc := cp }), .agg (cnCells { T with pa := some ⟨q2, 0, none⟩, pc := p2 }), .agg (cnCells { T with pa := some ⟨g2, 0, none⟩, pc := cp2 }), .agg #[.int .i64 r, .string d, .bool e, .int .i64 n], .bool true, .bool false, .bool false, .agg (cnCells { F with pa := some ⟨g, 0, none⟩, pc := cp }), .bool true, .bool false, .bool false, .bool false, .agg (cnCells { T with pa := some ⟨g2, 0, none⟩, pc := cp2 }), .bool true, .bool false, .bool false, undef, undef, undef, .tuple #[.agg (cnCells { F1 with pa := some ⟨g3, 0, none⟩, pc := cp3 }), .string S1], .agg (cnCells { F with pa := some ⟨g, 0, none⟩, pc := cp }), .pointer (some ⟨w.heap.size, 0, none⟩), .int .i64 r, .pointer (some ⟨w.heap.size, 1, none⟩), .string d, .int .i64 (d.size : Int), .int .i64 (r - (d.size : Int)), .tuple #[.agg (cnCells { F1 with pa := some ⟨g3, 0, none⟩, pc := cp3 }), .string S1], .agg (cnCells { F1 with pa := some ⟨g3, 0, none⟩, pc := cp3 }), .string S1, .pointer (some ⟨w.heap.size, 1, none⟩), .string d, .string S1, .string D1, .pointer (some ⟨w.heap.size, 1, none⟩), .tuple #[.agg (cnCells { T1 with pa := some ⟨g4, 0, none⟩, pc := cp4 }), .int .i64 (M : Int)], .agg (cnCells { T with pa := some ⟨g2, 0, none⟩, pc := cp2 }), .pointer (some ⟨w.heap.size, 1, none⟩), .string D1, .tuple #[.agg (cnCells { T1 with pa := some ⟨g4, 0, none⟩, pc := cp4 }), .int .i64 (M : Int)], .agg (cnCells { T1 with pa := some ⟨g4, 0, none⟩, pc := cp4 }), .int .i64 (M : Int), .pointer (some ⟨w.heap.size, 1, none⟩), .string D1, .int .i64 (M : Int), .string D2, .pointer (some ⟨w.heap.size, 1, none⟩), .pointer (some ⟨w.heap.size, 3, none⟩), .int .i64 n, .int .i64 (M : Int), .int .i64 (n + (M : Int)), .int .i64 xN, .pointer (some ⟨w.heap.size, 3, none⟩), .pointer (some ⟨qw35.heap.size, 18, none⟩), .bool false, .bool false, undef, undef, undef, undef, .bool false, undef, .pointer (some ⟨w.heap.size, 2, none⟩), .bool true, .bool true, .pointer (some ⟨w.heap.size, 1, none⟩), .string D2, .bool true, .bool true, .agg (cnCells { T1 with pa := some ⟨g4, 0, none⟩, pc := cp4 }), .agg (cnCells { T2 with pa := some ⟨g5, 0, none⟩, pc := cp5 }), v 0, v 1, v 2], defers := [] }) (by kernel_rfl) (by kernel_rfl) ?_ ?_ (fun vals => by kernel_rfl) ?_ ?_
          case refine_1 =>
            intro j x y v hl hv
            match j, hv with
            | 0, hv | 1, hv | 2, hv => exact hv
            | 3, hv | 4, hv | 5, hv => trivial
            | n + 6, _ => trivial
          case refine_2 =>
            intro f vals hf
            refine ⟨qB59.since ((Since.refl _).drew), qB23.since ((Since.refl _).drew), qB28.since ((Since.refl _).drew), (by rw [hf 3]; exact qB11.since ((Since.refl _).drew)), (by rw [hf 4]; exact qB14.since ((Since.refl _).drew)), (by rw [hf 5]; exact qB17.since ((Since.refl _).drew)), qB42.since ((Since.refl _).drew), qB64.since ((Since.refl _).drew), H3.since ((Since.refl _).drew), H5.since ((Since.refl _).drew), ((Since.refl _).drew).size, G.trans ((Since.refl _).drew)⟩
          case refine_3 =>
            repeat (first | exact eachLow_nil | refine eachLow_cons ?_ ?_)
            all_goals intro f vals x hf hr hK
            all_goals obtain ⟨k0, k1, k2, k3, k4, k5, k6, k7, k8, k9, k10, k11⟩ := hK
            · have ev : vals 2 = .agg (cnCells { T2 with pa := some ⟨g5, 0, none⟩, pc := cp5 }) := (hr ⟨2, .data⟩ (by simp) rfl).2
              have kz : Blk qw13.heap.size x (cnCells cnZero) := by have := k5; rw [hf] at this; exact this
              refine does_store cn_big (cn_size _) (Raw.of kz (cn_size _)) (cn_one _) _ _ rfl rfl ev ?_
              intro z t B
              exact ⟨Low.touch t (show qw13.heap.size < qw62.heap.size by omega), ⟨k0.touch t (by omega), k1.touch t (by omega), k2.touch t (by omega), k3.touch t (by omega), k4.touch t (by omega), B, k6.touch t (by omega), k7.touch t (by omega), k8.touch t (by omega), k9.touch t (by omega), Nat.le_trans k10 t.size, since_touch k11 t (by omega)⟩, trivial⟩
            · have ev : vals 1 = .agg (cnCells { F1 with pa := some ⟨g3, 0, none⟩, pc := cp3 }) := (hr ⟨1, .data⟩ (by simp) rfl).2
              have kz : Blk qw10.heap.size x (cnCells cnZero) := by have := k4; rw [hf] at this; exact this
              refine does_store cn_big (cn_size _) (Raw.of kz (cn_size _)) (cn_one _) _ _ rfl rfl ev ?_
              intro z t B
              exact ⟨Low.touch t (show qw10.heap.size < qw62.heap.size by omega), ⟨k0.touch t (by omega), k1.touch t (by omega), k2.touch t (by omega), k3.touch t (by omega), B, k5.touch t (by omega), k6.touch t (by omega), k7.touch t (by omega), k8.touch t (by omega), k9.touch t (by omega), Nat.le_trans k10 t.size, since_touch k11 t (by omega)⟩, trivial⟩
            · have ev : vals 0 = .agg #[.int .i64 r, .string D2, .bool e, .int .i64 xN] := (hr ⟨0, .data⟩ (by simp) rfl).2
              have kz : Blk qw7.heap.size x #[.int .i64 0, .string ByteArray.empty, .bool false, .int .i64 0] := by have := k3; rw [hf] at this; exact this
              refine does_store pp_big rfl (Raw.of kz rfl) (by simp [Value.oneCell']) _ _ rfl rfl ev ?_
              intro z t B
              exact ⟨Low.touch t (show qw7.heap.size < qw62.heap.size by omega), ⟨k0.touch t (by omega), k1.touch t (by omega), k2.touch t (by omega), B, k4.touch t (by omega), k5.touch t (by omega), k6.touch t (by omega), k7.touch t (by omega), k8.touch t (by omega), k9.touch t (by omega), Nat.le_trans k10 t.size, since_touch k11 t (by omega)⟩, trivial⟩
            · exact does_load cn_big (cn_size _) k7 _ rfl rfl ⟨Low.since (b := 0) (Since.refl _) (hN0), ⟨k0, k1, k2, k3, k4, k5, k6, k7, k8, k9, k10, k11⟩, rfl⟩
            · exact does_load cn_big (cn_size _) k6 _ rfl rfl ⟨Low.since (b := 0) (Since.refl _) (hN0), ⟨k0, k1, k2, k3, k4, k5, k6, k7, k8, k9, k10, k11⟩, rfl⟩
            · exact does_load pp_big rfl k0 _ rfl rfl ⟨Low.since (b := 0) (Since.refl _) (hN0), ⟨k0, k1, k2, k3, k4, k5, k6, k7, k8, k9, k10, k11⟩, rfl⟩
          case refine_4 =>
            intro f qv66 qw65 hK hf hv
            obtain ⟨k0, k1, k2, k3, k4, k5, k6, k7, k8, k9, k10, k11⟩ := hK
            clear qB59 qB23 qB28 qB11 qB14 qB17 qB42 qB64 H3 H5 G
            have hv0 : qv66 0 = _ := hv 0 (by decide)
            have hv1 : qv66 1 = _ := hv 1 (by decide)
            have hv2 : qv66 2 = _ := hv 2 (by decide)
            clear hv
            simp only [hv0, hv1, hv2]
            clear hv0 hv1 hv2
            have qB59 := k0
            clear k0
            have qB23 := k1
            clear k1
            have qB28 := k2
            clear k2
            have qB11 : Blk qw7.heap.size qw65 #[.int .i64 r, .string D2, .bool e, .int .i64 xN] := by have := k3; rw [hf 3 (by decide)] at this; exact this
            clear k3
            have qB14 : Blk qw10.heap.size qw65 (cnCells { F1 with pa := some ⟨g3, 0, none⟩, pc := cp3 }) := by have := k4; rw [hf 4 (by decide)] at this; exact this
            clear k4
            have qB17 : Blk qw13.heap.size qw65 (cnCells { T2 with pa := some ⟨g5, 0, none⟩, pc := cp5 }) := by have := k5; rw [hf 5 (by decide)] at this; exact this
            clear k5
            have qB42 := k6
            clear k6
            have qB64 := k7
            clear k7
            have H3 := k8
            clear k8
            have H5 := k9
            clear k9
            have G := k11
            clear k11
            have qw65_l := qB64.lt
            have qw65_n := k10
            clear k10
            go_wp2_with (fail)
            exact bodyPost_ret (results_3 (hs := rfl) (t := 6) (u := 7) (v := 8) rfl _ rfl rfl rfl qB11 qB14 qB17) rfl ⟨_, _, _, _, by rw [eX.out, eE.out, ← hee.out, eF.out, eT.out], H3, (by rw [← pT1]; exact H5), by omega, G⟩
      case inr =>
        have eE : Hid (xE = false) := (by rw [hxE.out]; unfold mvE; rw [hmk.out]; show endE r d e F ps = _; unfold endE; rw [← hF1.out, hgf.out]; exact hee.out : xE = false)
        have eT : Hid (xT = T1) := (by rw [hxT.out]; unfold mvT; rw [hmk.out]; show shutT (endE r d e F ps) (leftD r d F ps T qs) (writeC T qs (gotD r d F ps)) qs = _; have e1 : endE r d e F ps = false := (by rw [← eE.out, hxE.out]; unfold mvE; rw [hmk.out]; rfl); rw [e1, eL.out, ← hD1e.out, ← hT1.out]; unfold shutT; rfl : xT = T1)
        refine vR ?_
        refine vV (.pointer (some ⟨qw35.heap.size, 18, none⟩)) ?_
        refine vD (.bool false) ((qB42.cell 18).trans (by show some (.bool F1.gfn : Value) = some (.bool false : Value); rw [hgf.out])) ?_
        refine vV (.bool false) ?_
        refine vS ?_
        refine vS ?_
        refine vS ?_
        refine vS ?_
        refine vV (.bool false) ?_
        refine vE #[.agg #[.int .i64 r, .string d, .bool e, .int .i64 n], .agg (cnCells { F with pa := some ⟨q, 0, none⟩, pc := p }), .agg (cnCells { T with pa := some ⟨q2, 0, none⟩, pc := p2 }), .pointer (some ⟨w.heap.size, 0, none⟩), .pointer (some ⟨qw1.heap.size, 0, none⟩), .pointer (some ⟨qw4.heap.size, 0, none⟩), .pointer (some ⟨qw7.heap.size, 0, none⟩), .pointer (some ⟨qw10.heap.size, 0, none⟩), .pointer (some ⟨qw13.heap.size, 0, none⟩), .pointer (some ⟨qw35.heap.size, 0, none⟩), .string S1, .pointer (some ⟨qw46.heap.size, 0, none⟩), .int .i64 (M : Int), .agg (cnCells { F with pa := some ⟨q, 0, none⟩, pc := p }), .agg (cnCells { F with pa := some ⟨g, 0, none⟩, pc := cp }), .agg (cnCells { T with pa := some ⟨q2, 0, none⟩, pc := p2 }), .agg (cnCells { T with pa := some ⟨g2, 0, none⟩, pc := cp2 }), .agg #[.int .i64 r, .string d, .bool e, .int .i64 n], .bool true, .bool false, .bool false, .agg (cnCells { F with pa := some ⟨g, 0, none⟩, pc := cp }), .bool true, .bool false, .bool false, .bool false, .agg (cnCells { T with pa := some ⟨g2, 0, none⟩, pc := cp2 }), .bool true, .bool false, .bool false, undef, undef, undef, .tuple #[.agg (cnCells { F1 with pa := some ⟨g3, 0, none⟩, pc := cp3 }), .string S1], .agg (cnCells { F with pa := some ⟨g, 0, none⟩, pc := cp }), .pointer (some ⟨w.heap.size, 0, none⟩), .int .i64 r, .pointer (some ⟨w.heap.size, 1, none⟩), .string d, .int .i64 (d.size : Int), .int .i64 (r - (d.size : Int)), .tuple #[.agg (cnCells { F1 with pa := some ⟨g3, 0, none⟩, pc := cp3 }), .string S1], .agg (cnCells { F1 with pa := some ⟨g3, 0, none⟩, pc := cp3 }), .string S1, .pointer (some ⟨w.heap.size, 1, none⟩), .string d, .string S1, .string D1, .pointer (some ⟨w.heap.size, 1, none⟩), .tuple #[.agg (cnCells { T1 with pa := some ⟨g4, 0, none⟩, pc := cp4 }), .int .i64 (M : Int)], .agg (cnCells { T with pa := some ⟨g2, 0, none⟩, pc := cp2 }), .pointer (some ⟨w.heap.size, 1, none⟩), .string D1, .tuple #[.agg (cnCells { T1 with pa := some ⟨g4, 0, none⟩, pc := cp4 }), .int .i64 (M : Int)], .agg (cnCells { T1 with pa := some ⟨g4, 0, none⟩, pc := cp4 }), .int .i64 (M : Int), .pointer (some ⟨w.heap.size, 1, none⟩), .string D1, .int .i64 (M : Int), .string D2, .pointer (some ⟨w.heap.size, 1, none⟩), .pointer (some ⟨w.heap.size, 3, none⟩), .int .i64 n, .int .i64 (M : Int), .int .i64 (n + (M : Int)), .int .i64 xN, .pointer (some ⟨w.heap.size, 3, none⟩), .pointer (some ⟨qw35.heap.size, 18, none⟩), .bool false, .bool false, undef, undef, undef, undef, .bool false, undef, undef, undef, undef, undef, undef, undef, undef, undef, undef, undef, undef, undef] ?_
        go_upto_region 12 with (fail)
        refine vR ?_
        refine vV (.pointer (some ⟨w.heap.size, 2, none⟩)) ?_
        refine vD (.bool false) ((qB59.cell 2).trans (by show some (.bool e : Value) = some (.bool false : Value); rw [hee.out])) ?_
        refine vV (.bool false) ?_
        refine vS ?_
        refine vS ?_
        refine vS ?_
        refine vV (.bool false) ?_
        refine vE #[.agg #[.int .i64 r, .string d, .bool e, .int .i64 n], .agg (cnCells { F with pa := some ⟨q, 0, none⟩, pc := p }), .agg (cnCells { T with pa := some ⟨q2, 0, none⟩, pc := p2 }), .pointer (some ⟨w.heap.size, 0, none⟩), .pointer (some ⟨qw1.heap.size, 0, none⟩), .pointer (some ⟨qw4.heap.size, 0, none⟩), .pointer (some ⟨qw7.heap.size, 0, none⟩), .pointer (some ⟨qw10.heap.size, 0, none⟩), .pointer (some ⟨qw13.heap.size, 0, none⟩), .pointer (some ⟨qw35.heap.size, 0, none⟩), .string S1, .pointer (some ⟨qw46.heap.size, 0, none⟩), .int .i64 (M : Int), .agg (cnCells { F with pa := some ⟨q, 0, none⟩, pc := p }), .agg (cnCells { F with pa := some ⟨g, 0, none⟩, pc := cp }), .agg (cnCells { T with pa := some ⟨q2, 0, none⟩, pc := p2 }), .agg (cnCells { T with pa := some ⟨g2, 0, none⟩, pc := cp2 }), .agg #[.int .i64 r, .string d, .bool e, .int .i64 n], .bool true, .bool false, .bool false, .agg (cnCells { F with pa := some ⟨g, 0, none⟩, pc := cp }), .bool true, .bool false, .bool false, .bool false, .agg (cnCells { T with pa := some ⟨g2, 0, none⟩, pc := cp2 }), .bool true, .bool false, .bool false, undef, undef, undef, .tuple #[.agg (cnCells { F1 with pa := some ⟨g3, 0, none⟩, pc := cp3 }), .string S1], .agg (cnCells { F with pa := some ⟨g, 0, none⟩, pc := cp }), .pointer (some ⟨w.heap.size, 0, none⟩), .int .i64 r, .pointer (some ⟨w.heap.size, 1, none⟩), .string d, .int .i64 (d.size : Int), .int .i64 (r - (d.size : Int)), .tuple #[.agg (cnCells { F1 with pa := some ⟨g3, 0, none⟩, pc := cp3 }), .string S1], .agg (cnCells { F1 with pa := some ⟨g3, 0, none⟩, pc := cp3 }), .string S1, .pointer (some ⟨w.heap.size, 1, none⟩), .string d, .string S1, .string D1, .pointer (some ⟨w.heap.size, 1, none⟩), .tuple #[.agg (cnCells { T1 with pa := some ⟨g4, 0, none⟩, pc := cp4 }), .int .i64 (M : Int)], .agg (cnCells { T with pa := some ⟨g2, 0, none⟩, pc := cp2 }), .pointer (some ⟨w.heap.size, 1, none⟩), .string D1, .tuple #[.agg (cnCells { T1 with pa := some ⟨g4, 0, none⟩, pc := cp4 }), .int .i64 (M : Int)], .agg (cnCells { T1 with pa := some ⟨g4, 0, none⟩, pc := cp4 }), .int .i64 (M : Int), .pointer (some ⟨w.heap.size, 1, none⟩), .string D1, .int .i64 (M : Int), .string D2, .pointer (some ⟨w.heap.size, 1, none⟩), .pointer (some ⟨w.heap.size, 3, none⟩), .int .i64 n, .int .i64 (M : Int), .int .i64 (n + (M : Int)), .int .i64 xN, .pointer (some ⟨w.heap.size, 3, none⟩), .pointer (some ⟨qw35.heap.size, 18, none⟩), .bool false, .bool false, undef, undef, undef, undef, .bool false, undef, .pointer (some ⟨w.heap.size, 2, none⟩), .bool false, .bool false, undef, undef, undef, .bool false, undef, undef, undef, undef, undef] ?_
        go_upto_region 14 with (fail)
        have hN0 : 0 < qw57.heap.size := by have := qB59.lt; omega
        refine wp_region_low (Low (fun b => b < qw57.heap.size)) (fun i x v => match i with
            | 0 => v = .agg #[.int .i64 r, .string D2, .bool e, .int .i64 xN]
            | 1 => v = .agg (cnCells { F1 with pa := some ⟨g3, 0, none⟩, pc := cp3 })
            | 2 => v = .agg (cnCells { T1 with pa := some ⟨g4, 0, none⟩, pc := cp4 })
            | 3 => True
            | 4 => True
            | 5 => True
            | _ => True) (fun f vals x => Blk w.heap.size x #[.int .i64 r, .string D2, .bool e, .int .i64 xN] ∧ Blk qw1.heap.size x (cnCells { F with pa := some ⟨g, 0, none⟩, pc := cp }) ∧ Blk qw4.heap.size x (cnCells { T with pa := some ⟨g2, 0, none⟩, pc := cp2 }) ∧ Blk qw7.heap.size x (if f 3 then #[.int .i64 r, .string D2, .bool e, .int .i64 xN] else #[.int .i64 0, .string ByteArray.empty, .bool false, .int .i64 0]) ∧ Blk qw10.heap.size x (if f 4 then (cnCells { F1 with pa := some ⟨g3, 0, none⟩, pc := cp3 }) else (cnCells cnZero)) ∧ Blk qw13.heap.size x (if f 5 then (cnCells { T1 with pa := some ⟨g4, 0, none⟩, pc := cp4 }) else (cnCells cnZero)) ∧ Blk qw35.heap.size x (cnCells { F1 with pa := some ⟨g3, 0, none⟩, pc := cp3 }) ∧ Blk qw46.heap.size x (cnCells { T1 with pa := some ⟨g4, 0, none⟩, pc := cp4 }) ∧ Held shP x w.heap.size g3 F.pn cp3 ps ∧ Held shP x w.heap.size g4 T.pn cp4 qs ∧ qw57.heap.size ≤ x.heap.size ∧ Since w x) (fun v => { tmps := #[.agg #[.int .i64 r, .string d, .bool e, .int .i64 n], .agg (cnCells { F with pa := some ⟨q, 0, none⟩, pc := p }), .agg (cnCells { T with pa := some ⟨q2, 0, none⟩, pc := p2 }), .pointer (some ⟨w.heap.size, 0, none⟩), .pointer (some ⟨qw1.heap.size, 0, none⟩), .pointer (some ⟨qw4.heap.size, 0, none⟩), .pointer (some ⟨qw7.heap.size, 0, none⟩), .pointer (some ⟨qw10.heap.size, 0, none⟩), .pointer (some ⟨qw13.heap.size, 0, none⟩), .pointer (some ⟨qw35.heap.size, 0, none⟩), .string S1, .pointer (some ⟨qw46.heap.size, 0, none⟩), .int .i64 (M : Int), .agg (cnCells { F with pa := some ⟨q, 0, none⟩, pc := p }), .agg (cnCells { F with pa := some ⟨g, 0, none⟩, pc := cp }), .agg (cnCells { T with pa := some ⟨q2, 0, none⟩, pc := p2 }), .agg (cnCells { T with pa := some ⟨g2, 0, none⟩, pc := cp2 }), .agg #[.int .i64 r, .string d, .bool e, .int .i64 n], .bool true, .bool false, .bool false, .agg (cnCells { F with pa := some ⟨g, 0, none⟩, pc := cp }), .bool true, .bool false, .bool false, .bool false, .agg (cnCells { T with pa := some ⟨g2, 0, none⟩, pc := cp2 }), .bool true, .bool false, .bool false, undef, undef, undef, .tuple #[.agg (cnCells { F1 with pa := some ⟨g3, 0, none⟩, pc := cp3 }), .string S1], .agg (cnCells { F with pa := some ⟨g, 0, none⟩, pc := cp }), .pointer (some ⟨w.heap.size, 0, none⟩), .int .i64 r, .pointer (some ⟨w.heap.size, 1, none⟩), .string d, .int .i64 (d.size : Int), .int .i64 (r - (d.size : Int)), .tuple #[.agg (cnCells { F1 with pa := some ⟨g3, 0, none⟩, pc := cp3 }), .string S1], .agg (cnCells { F1 with pa := some ⟨g3, 0, none⟩, pc := cp3 }), .string S1, .pointer (some ⟨w.heap.size, 1, none⟩), .string d, .string S1, .string D1, .pointer (some ⟨w.heap.size, 1, none⟩), .tuple #[.agg (cnCells { T1 with pa := some ⟨g4, 0, none⟩, pc := cp4 }), .int .i64 (M : Int)], .agg (cnCells { T with pa := some ⟨g2, 0, none⟩, pc := cp2 }), .pointer (some ⟨w.heap.size, 1, none⟩), .string D1, .tuple #[.agg (cnCells { T1 with pa := some ⟨g4, 0, none⟩, pc := cp4 }), .int .i64 (M : Int)], .agg (cnCells { T1 with pa := some ⟨g4, 0, none⟩, pc := cp4 }), .int .i64 (M : Int), .pointer (some ⟨w.heap.size, 1, none⟩), .string D1, .int .i64 (M : Int), .string D2, .pointer (some ⟨w.heap.size, 1, none⟩), .pointer (some ⟨w.heap.size, 3, none⟩), .int .i64 n, .int .i64 (M : Int), .int .i64 (n + (M : Int)), .int .i64 xN, .pointer (some ⟨w.heap.size, 3, none⟩), .pointer (some ⟨qw35.heap.size, 18, none⟩), .bool false, .bool false, undef, undef, undef, undef, .bool false, undef, .pointer (some ⟨w.heap.size, 2, none⟩), .bool false, .bool false, undef, undef, undef, .bool false, undef, undef, v 0, v 1, v 2], defers := [] }) (by kernel_rfl) (by kernel_rfl) ?_ ?_ (fun vals => by kernel_rfl) ?_ ?_
        case refine_1 =>
          intro j x y v hl hv
          match j, hv with
          | 0, hv | 1, hv | 2, hv => exact hv
          | 3, hv | 4, hv | 5, hv => trivial
          | n + 6, _ => trivial
        case refine_2 =>
          intro f vals hf
          refine ⟨qB59.since ((Since.refl _).drew), qB23.since ((Since.refl _).drew), qB28.since ((Since.refl _).drew), (by rw [hf 3]; exact qB11.since ((Since.refl _).drew)), (by rw [hf 4]; exact qB14.since ((Since.refl _).drew)), (by rw [hf 5]; exact qB17.since ((Since.refl _).drew)), qB42.since ((Since.refl _).drew), qB53.since ((Since.refl _).drew), H3.since ((Since.refl _).drew), H4.since ((Since.refl _).drew), ((Since.refl _).drew).size, G.trans ((Since.refl _).drew)⟩
        case refine_3 =>
          repeat (first | exact eachLow_nil | refine eachLow_cons ?_ ?_)
          all_goals intro f vals x hf hr hK
          all_goals obtain ⟨k0, k1, k2, k3, k4, k5, k6, k7, k8, k9, k10, k11⟩ := hK
          · have ev : vals 2 = .agg (cnCells { T1 with pa := some ⟨g4, 0, none⟩, pc := cp4 }) := (hr ⟨2, .data⟩ (by simp) rfl).2
            have kz : Blk qw13.heap.size x (cnCells cnZero) := by have := k5; rw [hf] at this; exact this
            refine does_store cn_big (cn_size _) (Raw.of kz (cn_size _)) (cn_one _) _ _ rfl rfl ev ?_
            intro z t B
            exact ⟨Low.touch t (show qw13.heap.size < qw57.heap.size by omega), ⟨k0.touch t (by omega), k1.touch t (by omega), k2.touch t (by omega), k3.touch t (by omega), k4.touch t (by omega), B, k6.touch t (by omega), k7.touch t (by omega), k8.touch t (by omega), k9.touch t (by omega), Nat.le_trans k10 t.size, since_touch k11 t (by omega)⟩, trivial⟩
          · have ev : vals 1 = .agg (cnCells { F1 with pa := some ⟨g3, 0, none⟩, pc := cp3 }) := (hr ⟨1, .data⟩ (by simp) rfl).2
            have kz : Blk qw10.heap.size x (cnCells cnZero) := by have := k4; rw [hf] at this; exact this
            refine does_store cn_big (cn_size _) (Raw.of kz (cn_size _)) (cn_one _) _ _ rfl rfl ev ?_
            intro z t B
            exact ⟨Low.touch t (show qw10.heap.size < qw57.heap.size by omega), ⟨k0.touch t (by omega), k1.touch t (by omega), k2.touch t (by omega), k3.touch t (by omega), B, k5.touch t (by omega), k6.touch t (by omega), k7.touch t (by omega), k8.touch t (by omega), k9.touch t (by omega), Nat.le_trans k10 t.size, since_touch k11 t (by omega)⟩, trivial⟩
          · have ev : vals 0 = .agg #[.int .i64 r, .string D2, .bool e, .int .i64 xN] := (hr ⟨0, .data⟩ (by simp) rfl).2
            have kz : Blk qw7.heap.size x #[.int .i64 0, .string ByteArray.empty, .bool false, .int .i64 0] := by have := k3; rw [hf] at this; exact this
            refine does_store pp_big rfl (Raw.of kz rfl) (by simp [Value.oneCell']) _ _ rfl rfl ev ?_
            intro z t B
            exact ⟨Low.touch t (show qw7.heap.size < qw57.heap.size by omega), ⟨k0.touch t (by omega), k1.touch t (by omega), k2.touch t (by omega), B, k4.touch t (by omega), k5.touch t (by omega), k6.touch t (by omega), k7.touch t (by omega), k8.touch t (by omega), k9.touch t (by omega), Nat.le_trans k10 t.size, since_touch k11 t (by omega)⟩, trivial⟩
          · exact does_load cn_big (cn_size _) k7 _ rfl rfl ⟨Low.since (b := 0) (Since.refl _) (hN0), ⟨k0, k1, k2, k3, k4, k5, k6, k7, k8, k9, k10, k11⟩, rfl⟩
          · exact does_load cn_big (cn_size _) k6 _ rfl rfl ⟨Low.since (b := 0) (Since.refl _) (hN0), ⟨k0, k1, k2, k3, k4, k5, k6, k7, k8, k9, k10, k11⟩, rfl⟩
          · exact does_load pp_big rfl k0 _ rfl rfl ⟨Low.since (b := 0) (Since.refl _) (hN0), ⟨k0, k1, k2, k3, k4, k5, k6, k7, k8, k9, k10, k11⟩, rfl⟩
        case refine_4 =>
          intro f qv61 qw60 hK hf hv
          obtain ⟨k0, k1, k2, k3, k4, k5, k6, k7, k8, k9, k10, k11⟩ := hK
          clear qB59 qB23 qB28 qB11 qB14 qB17 qB42 qB53 H3 H4 G
          have hv0 : qv61 0 = _ := hv 0 (by decide)
          have hv1 : qv61 1 = _ := hv 1 (by decide)
          have hv2 : qv61 2 = _ := hv 2 (by decide)
          clear hv
          simp only [hv0, hv1, hv2]
          clear hv0 hv1 hv2
          have qB59 := k0
          clear k0
          have qB23 := k1
          clear k1
          have qB28 := k2
          clear k2
          have qB11 : Blk qw7.heap.size qw60 #[.int .i64 r, .string D2, .bool e, .int .i64 xN] := by have := k3; rw [hf 3 (by decide)] at this; exact this
          clear k3
          have qB14 : Blk qw10.heap.size qw60 (cnCells { F1 with pa := some ⟨g3, 0, none⟩, pc := cp3 }) := by have := k4; rw [hf 4 (by decide)] at this; exact this
          clear k4
          have qB17 : Blk qw13.heap.size qw60 (cnCells { T1 with pa := some ⟨g4, 0, none⟩, pc := cp4 }) := by have := k5; rw [hf 5 (by decide)] at this; exact this
          clear k5
          have qB42 := k6
          clear k6
          have qB53 := k7
          clear k7
          have H3 := k8
          clear k8
          have H4 := k9
          clear k9
          have G := k11
          clear k11
          have qw60_l := qB53.lt
          have qw60_n := k10
          clear k10
          go_wp2_with (fail)
          exact bodyPost_ret (results_3 (hs := rfl) (t := 6) (u := 7) (v := 8) rfl _ rfl rfl rfl qB11 qB14 qB17) rfl ⟨_, _, _, _, by rw [eX.out, eE.out, ← hee.out, eF.out, eT.out], H3, H4, by omega, G⟩
end Go.Proofs.YtipaaddjpmlajaaGreat
