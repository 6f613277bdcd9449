/-
  A turn of a pipe, as impl makes it.
-/
import Derived.Test.YtipaaddjpmlajaaGreatCd13
import Derived.Deep.DeepCutAuto
namespace Go.Proofs.YtipaaddjpmlajaaGreat
open Go.ChangeShapes Go.WideShapes Go.ChangeAt Go.RowKit
set_option linter.unusedVariables false
set_option maxRecDepth 10000

set_option maxRecDepth 20000 in
set_option maxHeartbeats 16000000 in
theorem condEnd (r : Int) (d : ByteArray) (e : Bool) (n : Int) (F1 T1 : Cn) (qs : List (Int × ByteArray)) (gT1 : GoodC T1 qs) (e2 : Bool) (he2 : e2 = if F1.gfn && emp F1.iD then true else e) (T2 : Cn) (hT2 : T2 = shutT e2 d T1 qs) (g1 p1 q p B c : Nat) (w : World) (C : Blk c w #[.int .i64 r, .string d, .bool e, .int .i64 n]) (H : Held shP w B q T1.pn p qs) (hqc : q ≠ c) :
    Calls Tryz.prog 79 #[.pointer (some ⟨c, 0, none⟩), .agg (cnCells { F1 with pa := some ⟨g1, 0, none⟩, pc := p1 }), .agg (cnCells { T1 with pa := some ⟨q, 0, none⟩, pc := p })] w fun x w' => ∃ g cp, x = .returned (.agg (cnCells { T2 with pa := some ⟨g, 0, none⟩, pc := cp })) ∧ Held shP w' B g T1.pn cp qs ∧ (g = q ∨ w.heap.size ≤ g) ∧ Touch c w w' ∧ Blk c w' #[.int .i64 r, .string d, .bool e2, .int .i64 n] := by
  have hcl := fun wx Rx => iClose gT1 (some ⟨q, 0, none⟩) p wx Rx
  obtain ⟨TC, hTC⟩ : ∃ x, Hid (x = closeC T1 qs) := ⟨_, rfl⟩
  rw [← hTC.out] at hcl
  replace he2 : Hid _ := he2
  replace hT2 : Hid _ := hT2
  obtain ⟨c1, hc1⟩ : ∃ b, Hid (b = emp F1.iD) := ⟨_, rfl⟩
  obtain ⟨c2, hc2⟩ : ∃ b, Hid (b = emp d) := ⟨_, rfl⟩
  have hH0 := H.low'
  have hH1 := H.lt
  have G := Touch.refl c w
  have hC0 := C.lt
  go_enter Tryz.func79, Tryz.ntmps79
  go_upto_region 0 with (fail)
  refine vR ?_
  refine vW (w.alloc (.cells (cnCells { F1 with pa := some ⟨g1, 0, none⟩, pc := p1 }) 46)) (.pointer (some ⟨w.heap.size, 0, none⟩)) ?_
  have qB2 := Blk.new w (cnCells { F1 with pa := some ⟨g1, 0, none⟩, pc := p1 }) 46
  have qg3 := (Since.refl w).alloc (.cells (cnCells { F1 with pa := some ⟨g1, 0, none⟩, pc := p1 }) 46)
  replace C := C.since qg3
  replace H := H.since qg3
  replace G := G.trans (Touch.of_since qg3 c)
  generalize w.alloc (.cells (cnCells { F1 with pa := some ⟨g1, 0, none⟩, pc := p1 }) 46) = qw1 at C H G qB2 qg3 ⊢
  have qB2_l := qB2.lt
  have qg3_s := qg3.size
  refine vW (qw1.alloc (.cells (cnCells { T1 with pa := some ⟨q, 0, none⟩, pc := p }) 46)) (.pointer (some ⟨qw1.heap.size, 0, none⟩)) ?_
  have qB5 := Blk.new qw1 (cnCells { T1 with pa := some ⟨q, 0, none⟩, pc := p }) 46
  have qg6 := (Since.refl qw1).alloc (.cells (cnCells { T1 with pa := some ⟨q, 0, none⟩, pc := p }) 46)
  replace C := C.since qg6
  replace qB2 := qB2.since qg6
  replace H := H.since qg6
  replace G := G.trans (Touch.of_since qg6 c)
  generalize qw1.alloc (.cells (cnCells { T1 with pa := some ⟨q, 0, none⟩, pc := p }) 46) = qw4 at C qB2 H G qB5 qg6 ⊢
  have qB5_l := qB5.lt
  have qg6_s := qg6.size
  refine vW (qw4.alloc (.cells (cnCells cnZero) 46)) (.pointer (some ⟨qw4.heap.size, 0, none⟩)) ?_
  have qB8 := Blk.new qw4 (cnCells cnZero) 46
  have qg9 := (Since.refl qw4).alloc (.cells (cnCells cnZero) 46)
  replace C := C.since qg9
  replace qB2 := qB2.since qg9
  replace qB5 := qB5.since qg9
  replace H := H.since qg9
  replace G := G.trans (Touch.of_since qg9 c)
  generalize qw4.alloc (.cells (cnCells cnZero) 46) = qw7 at C qB2 qB5 H G qB8 qg9 ⊢
  have qB8_l := qB8.lt
  have qg9_s := qg9.size
  refine vE #[.pointer (some ⟨c, 0, none⟩), .agg (cnCells { F1 with pa := some ⟨g1, 0, none⟩, pc := p1 }), .agg (cnCells { T1 with pa := some ⟨q, 0, none⟩, pc := p }), undef, .pointer (some ⟨w.heap.size, 0, none⟩), .pointer (some ⟨qw1.heap.size, 0, none⟩), .pointer (some ⟨qw4.heap.size, 0, none⟩), undef, undef, undef, undef, undef, undef, undef, undef, undef, undef, undef, undef, undef, undef, undef, undef, undef, undef, undef, undef, undef, undef, undef, undef] ?_
  go_upto_region 1 with (fail)
  rcases Bool.eq_false_or_eq_true F1.gfn with hgf | hgf
  all_goals replace hgf : Hid _ := hgf
  case inl =>
    cases c1
    case false =>
      rcases Bool.eq_false_or_eq_true e with hee | hee
      all_goals replace hee : Hid _ := hee
      case inl =>
        cases c2
        case false =>
          have eE : Hid (e2 = true) := (by rw [he2.out, hgf.out, ← hc1.out]; exact hee.out : e2 = true)
          have eT : Hid (T2 = T1) := (by rw [hT2.out, eE.out]; unfold shutT; rw [← hc2.out]; rfl : T2 = T1)
          refine vR ?_
          refine vV (.pointer (some ⟨w.heap.size, 18, none⟩)) ?_
          refine vD (.bool true) ((qB2.cell 18).trans (by show some (.bool F1.gfn : Value) = some (.bool true : Value); rw [hgf.out])) ?_
          refine vV (.bool true) ?_
          refine vV (.pointer (some ⟨w.heap.size, 11, none⟩)) ?_
          refine vV (.pointer (some ⟨w.heap.size, 12, none⟩)) ?_
          refine vD (.string F1.iD) (qB2.cell 12) ?_
          refine vEmp (F1.iD) false (hc1.out.symm) ?_
          refine vV (.bool false) ?_
          refine vE #[.pointer (some ⟨c, 0, none⟩), .agg (cnCells { F1 with pa := some ⟨g1, 0, none⟩, pc := p1 }), .agg (cnCells { T1 with pa := some ⟨q, 0, none⟩, pc := p }), undef, .pointer (some ⟨w.heap.size, 0, none⟩), .pointer (some ⟨qw1.heap.size, 0, none⟩), .pointer (some ⟨qw4.heap.size, 0, none⟩), .pointer (some ⟨w.heap.size, 18, none⟩), .bool true, .bool true, .pointer (some ⟨w.heap.size, 11, none⟩), .pointer (some ⟨w.heap.size, 12, none⟩), .string F1.iD, .bool false, .bool false, undef, undef, undef, undef, undef, undef, undef, undef, undef, undef, undef, undef, undef, undef, undef, undef] ?_
          go_upto_region 3 with (fail)
          refine vR ?_
          refine vV (.pointer (some ⟨c, 0, none⟩)) ?_
          refine vV (.pointer (some ⟨c, 0, none⟩)) ?_
          refine vV (.pointer (some ⟨c, 2, none⟩)) ?_
          refine vD (.bool true) ((C.cell 2).trans (by show some (.bool e : Value) = some (.bool true : Value); rw [hee.out])) ?_
          refine vV (.bool true) ?_
          refine vV (.pointer (some ⟨c, 0, none⟩)) ?_
          refine vV (.pointer (some ⟨c, 0, none⟩)) ?_
          refine vV (.pointer (some ⟨c, 0, none⟩)) ?_
          refine vK (condEmpty r d e n c false hc2.out.symm _ C) ?_
          intro qw10 qg11
          replace C := C.since qg11
          replace qB2 := qB2.since qg11
          replace qB5 := qB5.since qg11
          replace qB8 := qB8.since qg11
          replace H := H.since qg11
          replace G := G.trans (Touch.of_since qg11 c)
          have qg11_s := qg11.size
          refine vV (.bool false) ?_
          refine vE #[.pointer (some ⟨c, 0, none⟩), .agg (cnCells { F1 with pa := some ⟨g1, 0, none⟩, pc := p1 }), .agg (cnCells { T1 with pa := some ⟨q, 0, none⟩, pc := p }), undef, .pointer (some ⟨w.heap.size, 0, none⟩), .pointer (some ⟨qw1.heap.size, 0, none⟩), .pointer (some ⟨qw4.heap.size, 0, none⟩), .pointer (some ⟨w.heap.size, 18, none⟩), .bool true, .bool true, .pointer (some ⟨w.heap.size, 11, none⟩), .pointer (some ⟨w.heap.size, 12, none⟩), .string F1.iD, .bool false, .bool false, undef, undef, undef, .pointer (some ⟨c, 0, none⟩), .pointer (some ⟨c, 0, none⟩), .pointer (some ⟨c, 2, none⟩), .bool true, .bool true, .pointer (some ⟨c, 0, none⟩), .pointer (some ⟨c, 0, none⟩), .pointer (some ⟨c, 0, none⟩), .bool false, .bool false, undef, undef, undef] ?_
          go_upto_region 5 with (fail)
          refine vR ?_
          refine vB cn_big qB5 (cn_size _) ?_
          refine sB (cnCells { T1 with pa := some ⟨q, 0, none⟩, pc := p }) cn_big qB8 (cn_size _) (cn_size _) (cn_one _) ?_
          intro qw12 qt13 qB14
          clear qB8
          replace C := C.touch qt13 (by omega)
          replace qB2 := qB2.touch qt13 (by omega)
          replace qB5 := qB5.touch qt13 (by omega)
          replace H := H.touch qt13 (by omega)
          replace G := touch_any G qt13 (by omega)
          have qt13_s := qt13.size
          refine vE #[.pointer (some ⟨c, 0, none⟩), .agg (cnCells { F1 with pa := some ⟨g1, 0, none⟩, pc := p1 }), .agg (cnCells { T1 with pa := some ⟨q, 0, none⟩, pc := p }), undef, .pointer (some ⟨w.heap.size, 0, none⟩), .pointer (some ⟨qw1.heap.size, 0, none⟩), .pointer (some ⟨qw4.heap.size, 0, none⟩), .pointer (some ⟨w.heap.size, 18, none⟩), .bool true, .bool true, .pointer (some ⟨w.heap.size, 11, none⟩), .pointer (some ⟨w.heap.size, 12, none⟩), .string F1.iD, .bool false, .bool false, undef, undef, undef, .pointer (some ⟨c, 0, none⟩), .pointer (some ⟨c, 0, none⟩), .pointer (some ⟨c, 2, none⟩), .bool true, .bool true, .pointer (some ⟨c, 0, none⟩), .pointer (some ⟨c, 0, none⟩), .pointer (some ⟨c, 0, none⟩), .bool false, .bool false, undef, undef, .agg (cnCells { T1 with pa := some ⟨q, 0, none⟩, pc := p })] ?_
          have hfin : Blk c qw12 #[.int .i64 r, .string d, .bool e2, .int .i64 n] := by rw [eE.out]; rw [hee.out] at C; exact C
          go_wp2_with (fail)
          exact bodyPost_ret (results_cn (t := 6) rfl _ rfl qB14) rfl ⟨_, _, by rw [eT.out], H, Or.inl rfl, G, hfin⟩
        case true =>
          have eE : Hid (e2 = true) := (by rw [he2.out, hgf.out, ← hc1.out]; exact hee.out : e2 = true)
          have eT : Hid (T2 = TC) := (by rw [hT2.out, eE.out]; unfold shutT; rw [← hc2.out]; exact hTC.out.symm : T2 = TC)
          refine vR ?_
          refine vV (.pointer (some ⟨w.heap.size, 18, none⟩)) ?_
          refine vD (.bool true) ((qB2.cell 18).trans (by show some (.bool F1.gfn : Value) = some (.bool true : Value); rw [hgf.out])) ?_
          refine vV (.bool true) ?_
          refine vV (.pointer (some ⟨w.heap.size, 11, none⟩)) ?_
          refine vV (.pointer (some ⟨w.heap.size, 12, none⟩)) ?_
          refine vD (.string F1.iD) (qB2.cell 12) ?_
          refine vEmp (F1.iD) false (hc1.out.symm) ?_
          refine vV (.bool false) ?_
          refine vE #[.pointer (some ⟨c, 0, none⟩), .agg (cnCells { F1 with pa := some ⟨g1, 0, none⟩, pc := p1 }), .agg (cnCells { T1 with pa := some ⟨q, 0, none⟩, pc := p }), undef, .pointer (some ⟨w.heap.size, 0, none⟩), .pointer (some ⟨qw1.heap.size, 0, none⟩), .pointer (some ⟨qw4.heap.size, 0, none⟩), .pointer (some ⟨w.heap.size, 18, none⟩), .bool true, .bool true, .pointer (some ⟨w.heap.size, 11, none⟩), .pointer (some ⟨w.heap.size, 12, none⟩), .string F1.iD, .bool false, .bool false, undef, undef, undef, undef, undef, undef, undef, undef, undef, undef, undef, undef, undef, undef, undef, undef] ?_
          go_upto_region 3 with (fail)
          refine vR ?_
          refine vV (.pointer (some ⟨c, 0, none⟩)) ?_
          refine vV (.pointer (some ⟨c, 0, none⟩)) ?_
          refine vV (.pointer (some ⟨c, 2, none⟩)) ?_
          refine vD (.bool true) ((C.cell 2).trans (by show some (.bool e : Value) = some (.bool true : Value); rw [hee.out])) ?_
          refine vV (.bool true) ?_
          refine vV (.pointer (some ⟨c, 0, none⟩)) ?_
          refine vV (.pointer (some ⟨c, 0, none⟩)) ?_
          refine vV (.pointer (some ⟨c, 0, none⟩)) ?_
          refine vK (condEmpty r d e n c true hc2.out.symm _ C) ?_
          intro qw10 qg11
          replace C := C.since qg11
          replace qB2 := qB2.since qg11
          replace qB5 := qB5.since qg11
          replace qB8 := qB8.since qg11
          replace H := H.since qg11
          replace G := G.trans (Touch.of_since qg11 c)
          have qg11_s := qg11.size
          refine vV (.bool true) ?_
          refine vE #[.pointer (some ⟨c, 0, none⟩), .agg (cnCells { F1 with pa := some ⟨g1, 0, none⟩, pc := p1 }), .agg (cnCells { T1 with pa := some ⟨q, 0, none⟩, pc := p }), undef, .pointer (some ⟨w.heap.size, 0, none⟩), .pointer (some ⟨qw1.heap.size, 0, none⟩), .pointer (some ⟨qw4.heap.size, 0, none⟩), .pointer (some ⟨w.heap.size, 18, none⟩), .bool true, .bool true, .pointer (some ⟨w.heap.size, 11, none⟩), .pointer (some ⟨w.heap.size, 12, none⟩), .string F1.iD, .bool false, .bool false, undef, undef, undef, .pointer (some ⟨c, 0, none⟩), .pointer (some ⟨c, 0, none⟩), .pointer (some ⟨c, 2, none⟩), .bool true, .bool true, .pointer (some ⟨c, 0, none⟩), .pointer (some ⟨c, 0, none⟩), .pointer (some ⟨c, 0, none⟩), .bool true, .bool true, undef, undef, undef] ?_
          go_upto_region 4 with (fail)
          refine vR ?_
          refine vB cn_big qB5 (cn_size _) ?_
          refine vC (hcl _ H.reads) ?_
          rintro _ qw12 ⟨g3, cp3, rfl, H3, qg13⟩
          refine ⟨_, rfl, ?_⟩
          replace C := C.since qg13
          replace qB2 := qB2.since qg13
          replace qB5 := qB5.since qg13
          replace qB8 := qB8.since qg13
          replace H := H.since qg13
          replace G := G.trans (Touch.of_since qg13 c)
          have qg13_s := qg13.size
          have H3_0 := H3.low'
          replace H3 := H3.raise (show B ≤ g3 by omega)
          have H3_1 := H3.lt
          clear H
          refine sB (cnCells { TC with pa := some ⟨g3, 0, none⟩, pc := cp3 }) cn_big qB8 (cn_size _) (cn_size _) (cn_one _) ?_
          intro qw14 qt15 qB16
          clear qB8
          replace C := C.touch qt15 (by omega)
          replace qB2 := qB2.touch qt15 (by omega)
          replace qB5 := qB5.touch qt15 (by omega)
          replace H3 := H3.touch qt15 (by omega)
          replace G := touch_any G qt15 (by omega)
          have qt15_s := qt15.size
          refine vE #[.pointer (some ⟨c, 0, none⟩), .agg (cnCells { F1 with pa := some ⟨g1, 0, none⟩, pc := p1 }), .agg (cnCells { T1 with pa := some ⟨q, 0, none⟩, pc := p }), undef, .pointer (some ⟨w.heap.size, 0, none⟩), .pointer (some ⟨qw1.heap.size, 0, none⟩), .pointer (some ⟨qw4.heap.size, 0, none⟩), .pointer (some ⟨w.heap.size, 18, none⟩), .bool true, .bool true, .pointer (some ⟨w.heap.size, 11, none⟩), .pointer (some ⟨w.heap.size, 12, none⟩), .string F1.iD, .bool false, .bool false, undef, undef, undef, .pointer (some ⟨c, 0, none⟩), .pointer (some ⟨c, 0, none⟩), .pointer (some ⟨c, 2, none⟩), .bool true, .bool true, .pointer (some ⟨c, 0, none⟩), .pointer (some ⟨c, 0, none⟩), .pointer (some ⟨c, 0, none⟩), .bool true, .bool true, .agg (cnCells { T1 with pa := some ⟨q, 0, none⟩, pc := p }), .agg (cnCells { TC with pa := some ⟨g3, 0, none⟩, pc := cp3 }), undef] ?_
          have hfin : Blk c qw14 #[.int .i64 r, .string d, .bool e2, .int .i64 n] := by rw [eE.out]; rw [hee.out] at C; exact C
          go_wp2_with (fail)
          exact bodyPost_ret (results_cn (t := 6) rfl _ rfl qB16) rfl ⟨_, _, by rw [eT.out], H3, Or.inr (by omega), G, hfin⟩
      case inr =>
        have eE : Hid (e2 = false) := (by rw [he2.out, hgf.out, ← hc1.out]; exact hee.out : e2 = false)
        have eT : Hid (T2 = T1) := (by rw [hT2.out, eE.out]; unfold shutT; rfl : T2 = T1)
        refine vR ?_
        refine vV (.pointer (some ⟨w.heap.size, 18, none⟩)) ?_
        refine vD (.bool true) ((qB2.cell 18).trans (by show some (.bool F1.gfn : Value) = some (.bool true : Value); rw [hgf.out])) ?_
        refine vV (.bool true) ?_
        refine vV (.pointer (some ⟨w.heap.size, 11, none⟩)) ?_
        refine vV (.pointer (some ⟨w.heap.size, 12, none⟩)) ?_
        refine vD (.string F1.iD) (qB2.cell 12) ?_
        refine vEmp (F1.iD) false (hc1.out.symm) ?_
        refine vV (.bool false) ?_
        refine vE #[.pointer (some ⟨c, 0, none⟩), .agg (cnCells { F1 with pa := some ⟨g1, 0, none⟩, pc := p1 }), .agg (cnCells { T1 with pa := some ⟨q, 0, none⟩, pc := p }), undef, .pointer (some ⟨w.heap.size, 0, none⟩), .pointer (some ⟨qw1.heap.size, 0, none⟩), .pointer (some ⟨qw4.heap.size, 0, none⟩), .pointer (some ⟨w.heap.size, 18, none⟩), .bool true, .bool true, .pointer (some ⟨w.heap.size, 11, none⟩), .pointer (some ⟨w.heap.size, 12, none⟩), .string F1.iD, .bool false, .bool false, undef, undef, undef, undef, undef, undef, undef, undef, undef, undef, undef, undef, undef, undef, undef, undef] ?_
        go_upto_region 3 with (fail)
        refine vR ?_
        refine vV (.pointer (some ⟨c, 0, none⟩)) ?_
        refine vV (.pointer (some ⟨c, 0, none⟩)) ?_
        refine vV (.pointer (some ⟨c, 2, none⟩)) ?_
        refine vD (.bool false) ((C.cell 2).trans (by show some (.bool e : Value) = some (.bool false : Value); rw [hee.out])) ?_
        refine vV (.bool false) ?_
        refine vS ?_
        refine vS ?_
        refine vS ?_
        refine vS ?_
        refine vV (.bool false) ?_
        refine vE #[.pointer (some ⟨c, 0, none⟩), .agg (cnCells { F1 with pa := some ⟨g1, 0, none⟩, pc := p1 }), .agg (cnCells { T1 with pa := some ⟨q, 0, none⟩, pc := p }), undef, .pointer (some ⟨w.heap.size, 0, none⟩), .pointer (some ⟨qw1.heap.size, 0, none⟩), .pointer (some ⟨qw4.heap.size, 0, none⟩), .pointer (some ⟨w.heap.size, 18, none⟩), .bool true, .bool true, .pointer (some ⟨w.heap.size, 11, none⟩), .pointer (some ⟨w.heap.size, 12, none⟩), .string F1.iD, .bool false, .bool false, undef, undef, undef, .pointer (some ⟨c, 0, none⟩), .pointer (some ⟨c, 0, none⟩), .pointer (some ⟨c, 2, none⟩), .bool false, .bool false, undef, undef, undef, undef, .bool false, undef, undef, undef] ?_
        go_upto_region 5 with (fail)
        refine vR ?_
        refine vB cn_big qB5 (cn_size _) ?_
        refine sB (cnCells { T1 with pa := some ⟨q, 0, none⟩, pc := p }) cn_big qB8 (cn_size _) (cn_size _) (cn_one _) ?_
        intro qw10 qt11 qB12
        clear qB8
        replace C := C.touch qt11 (by omega)
        replace qB2 := qB2.touch qt11 (by omega)
        replace qB5 := qB5.touch qt11 (by omega)
        replace H := H.touch qt11 (by omega)
        replace G := touch_any G qt11 (by omega)
        have qt11_s := qt11.size
        refine vE #[.pointer (some ⟨c, 0, none⟩), .agg (cnCells { F1 with pa := some ⟨g1, 0, none⟩, pc := p1 }), .agg (cnCells { T1 with pa := some ⟨q, 0, none⟩, pc := p }), undef, .pointer (some ⟨w.heap.size, 0, none⟩), .pointer (some ⟨qw1.heap.size, 0, none⟩), .pointer (some ⟨qw4.heap.size, 0, none⟩), .pointer (some ⟨w.heap.size, 18, none⟩), .bool true, .bool true, .pointer (some ⟨w.heap.size, 11, none⟩), .pointer (some ⟨w.heap.size, 12, none⟩), .string F1.iD, .bool false, .bool false, undef, undef, undef, .pointer (some ⟨c, 0, none⟩), .pointer (some ⟨c, 0, none⟩), .pointer (some ⟨c, 2, none⟩), .bool false, .bool false, undef, undef, undef, undef, .bool false, undef, undef, .agg (cnCells { T1 with pa := some ⟨q, 0, none⟩, pc := p })] ?_
        have hfin : Blk c qw10 #[.int .i64 r, .string d, .bool e2, .int .i64 n] := by rw [eE.out]; rw [hee.out] at C; exact C
        go_wp2_with (fail)
        exact bodyPost_ret (results_cn (t := 6) rfl _ rfl qB12) rfl ⟨_, _, by rw [eT.out], H, Or.inl rfl, G, hfin⟩
    case true =>
      cases c2
      case false =>
        have eE : Hid (e2 = true) := (by rw [he2.out, hgf.out, ← hc1.out]; rfl : e2 = true)
        have eT : Hid (T2 = T1) := (by rw [hT2.out, eE.out]; unfold shutT; rw [← hc2.out]; rfl : T2 = T1)
        refine vR ?_
        refine vV (.pointer (some ⟨w.heap.size, 18, none⟩)) ?_
        refine vD (.bool true) ((qB2.cell 18).trans (by show some (.bool F1.gfn : Value) = some (.bool true : Value); rw [hgf.out])) ?_
        refine vV (.bool true) ?_
        refine vV (.pointer (some ⟨w.heap.size, 11, none⟩)) ?_
        refine vV (.pointer (some ⟨w.heap.size, 12, none⟩)) ?_
        refine vD (.string F1.iD) (qB2.cell 12) ?_
        refine vEmp (F1.iD) true (hc1.out.symm) ?_
        refine vV (.bool true) ?_
        refine vE #[.pointer (some ⟨c, 0, none⟩), .agg (cnCells { F1 with pa := some ⟨g1, 0, none⟩, pc := p1 }), .agg (cnCells { T1 with pa := some ⟨q, 0, none⟩, pc := p }), undef, .pointer (some ⟨w.heap.size, 0, none⟩), .pointer (some ⟨qw1.heap.size, 0, none⟩), .pointer (some ⟨qw4.heap.size, 0, none⟩), .pointer (some ⟨w.heap.size, 18, none⟩), .bool true, .bool true, .pointer (some ⟨w.heap.size, 11, none⟩), .pointer (some ⟨w.heap.size, 12, none⟩), .string F1.iD, .bool true, .bool true, undef, undef, undef, undef, undef, undef, undef, undef, undef, undef, undef, undef, undef, undef, undef, undef] ?_
        go_upto_region 2 with (fail)
        refine vR ?_
        refine vV (.pointer (some ⟨c, 0, none⟩)) ?_
        refine vV (.pointer (some ⟨c, 0, none⟩)) ?_
        refine vV (.pointer (some ⟨c, 2, none⟩)) ?_
        refine sC #[.int .i64 r, .string d, .bool true, .int .i64 n] C 2 (.bool true) rfl ?_
        intro qw10 qt11 qB12
        clear C
        replace qB2 := qB2.touch qt11 (by omega)
        replace qB5 := qB5.touch qt11 (by omega)
        replace qB8 := qB8.touch qt11 (by omega)
        replace H := H.touch qt11 (by omega)
        replace G := touch_any G qt11 (by omega)
        have qt11_s := qt11.size
        refine vE #[.pointer (some ⟨c, 0, none⟩), .agg (cnCells { F1 with pa := some ⟨g1, 0, none⟩, pc := p1 }), .agg (cnCells { T1 with pa := some ⟨q, 0, none⟩, pc := p }), undef, .pointer (some ⟨w.heap.size, 0, none⟩), .pointer (some ⟨qw1.heap.size, 0, none⟩), .pointer (some ⟨qw4.heap.size, 0, none⟩), .pointer (some ⟨w.heap.size, 18, none⟩), .bool true, .bool true, .pointer (some ⟨w.heap.size, 11, none⟩), .pointer (some ⟨w.heap.size, 12, none⟩), .string F1.iD, .bool true, .bool true, .pointer (some ⟨c, 0, none⟩), .pointer (some ⟨c, 0, none⟩), .pointer (some ⟨c, 2, none⟩), undef, undef, undef, undef, undef, undef, undef, undef, undef, undef, undef, undef, undef] ?_
        go_upto_region 3 with (fail)
        refine vR ?_
        refine vV (.pointer (some ⟨c, 0, none⟩)) ?_
        refine vV (.pointer (some ⟨c, 0, none⟩)) ?_
        refine vV (.pointer (some ⟨c, 2, none⟩)) ?_
        refine vD (.bool true) (qB12.cell 2) ?_
        refine vV (.bool true) ?_
        refine vV (.pointer (some ⟨c, 0, none⟩)) ?_
        refine vV (.pointer (some ⟨c, 0, none⟩)) ?_
        refine vV (.pointer (some ⟨c, 0, none⟩)) ?_
        refine vK (condEmpty r d true n c false hc2.out.symm _ qB12) ?_
        intro qw13 qg14
        replace qB12 := qB12.since qg14
        replace qB2 := qB2.since qg14
        replace qB5 := qB5.since qg14
        replace qB8 := qB8.since qg14
        replace H := H.since qg14
        replace G := G.trans (Touch.of_since qg14 c)
        have qg14_s := qg14.size
        refine vV (.bool false) ?_
        refine vE #[.pointer (some ⟨c, 0, none⟩), .agg (cnCells { F1 with pa := some ⟨g1, 0, none⟩, pc := p1 }), .agg (cnCells { T1 with pa := some ⟨q, 0, none⟩, pc := p }), undef, .pointer (some ⟨w.heap.size, 0, none⟩), .pointer (some ⟨qw1.heap.size, 0, none⟩), .pointer (some ⟨qw4.heap.size, 0, none⟩), .pointer (some ⟨w.heap.size, 18, none⟩), .bool true, .bool true, .pointer (some ⟨w.heap.size, 11, none⟩), .pointer (some ⟨w.heap.size, 12, none⟩), .string F1.iD, .bool true, .bool true, .pointer (some ⟨c, 0, none⟩), .pointer (some ⟨c, 0, none⟩), .pointer (some ⟨c, 2, none⟩), .pointer (some ⟨c, 0, none⟩), .pointer (some ⟨c, 0, none⟩), .pointer (some ⟨c, 2, none⟩), .bool true, .bool true, .pointer (some ⟨c, 0, none⟩), .pointer (some ⟨c, 0, none⟩), .pointer (some ⟨c, 0, none⟩), .bool false, .bool false, undef, undef, undef] ?_
        go_upto_region 5 with (fail)
        refine vR ?_
        refine vB cn_big qB5 (cn_size _) ?_
        refine sB (cnCells { T1 with pa := some ⟨q, 0, none⟩, pc := p }) cn_big qB8 (cn_size _) (cn_size _) (cn_one _) ?_
        intro qw15 qt16 qB17
        clear qB8
        replace qB12 := qB12.touch qt16 (by omega)
        replace qB2 := qB2.touch qt16 (by omega)
        replace qB5 := qB5.touch qt16 (by omega)
        replace H := H.touch qt16 (by omega)
        replace G := touch_any G qt16 (by omega)
        have qt16_s := qt16.size
        refine vE #[.pointer (some ⟨c, 0, none⟩), .agg (cnCells { F1 with pa := some ⟨g1, 0, none⟩, pc := p1 }), .agg (cnCells { T1 with pa := some ⟨q, 0, none⟩, pc := p }), undef, .pointer (some ⟨w.heap.size, 0, none⟩), .pointer (some ⟨qw1.heap.size, 0, none⟩), .pointer (some ⟨qw4.heap.size, 0, none⟩), .pointer (some ⟨w.heap.size, 18, none⟩), .bool true, .bool true, .pointer (some ⟨w.heap.size, 11, none⟩), .pointer (some ⟨w.heap.size, 12, none⟩), .string F1.iD, .bool true, .bool true, .pointer (some ⟨c, 0, none⟩), .pointer (some ⟨c, 0, none⟩), .pointer (some ⟨c, 2, none⟩), .pointer (some ⟨c, 0, none⟩), .pointer (some ⟨c, 0, none⟩), .pointer (some ⟨c, 2, none⟩), .bool true, .bool true, .pointer (some ⟨c, 0, none⟩), .pointer (some ⟨c, 0, none⟩), .pointer (some ⟨c, 0, none⟩), .bool false, .bool false, undef, undef, .agg (cnCells { T1 with pa := some ⟨q, 0, none⟩, pc := p })] ?_
        have hfin : Blk c qw15 #[.int .i64 r, .string d, .bool e2, .int .i64 n] := by rw [eE.out]; exact qB12
        go_wp2_with (fail)
        exact bodyPost_ret (results_cn (t := 6) rfl _ rfl qB17) rfl ⟨_, _, by rw [eT.out], H, Or.inl rfl, G, hfin⟩
      case true =>
        have eE : Hid (e2 = true) := (by rw [he2.out, hgf.out, ← hc1.out]; rfl : e2 = true)
        have eT : Hid (T2 = TC) := (by rw [hT2.out, eE.out]; unfold shutT; rw [← hc2.out]; exact hTC.out.symm : T2 = TC)
        refine vR ?_
        refine vV (.pointer (some ⟨w.heap.size, 18, none⟩)) ?_
        refine vD (.bool true) ((qB2.cell 18).trans (by show some (.bool F1.gfn : Value) = some (.bool true : Value); rw [hgf.out])) ?_
        refine vV (.bool true) ?_
        refine vV (.pointer (some ⟨w.heap.size, 11, none⟩)) ?_
        refine vV (.pointer (some ⟨w.heap.size, 12, none⟩)) ?_
        refine vD (.string F1.iD) (qB2.cell 12) ?_
        refine vEmp (F1.iD) true (hc1.out.symm) ?_
        refine vV (.bool true) ?_
        refine vE #[.pointer (some ⟨c, 0, none⟩), .agg (cnCells { F1 with pa := some ⟨g1, 0, none⟩, pc := p1 }), .agg (cnCells { T1 with pa := some ⟨q, 0, none⟩, pc := p }), undef, .pointer (some ⟨w.heap.size, 0, none⟩), .pointer (some ⟨qw1.heap.size, 0, none⟩), .pointer (some ⟨qw4.heap.size, 0, none⟩), .pointer (some ⟨w.heap.size, 18, none⟩), .bool true, .bool true, .pointer (some ⟨w.heap.size, 11, none⟩), .pointer (some ⟨w.heap.size, 12, none⟩), .string F1.iD, .bool true, .bool true, undef, undef, undef, undef, undef, undef, undef, undef, undef, undef, undef, undef, undef, undef, undef, undef] ?_
        go_upto_region 2 with (fail)
        refine vR ?_
        refine vV (.pointer (some ⟨c, 0, none⟩)) ?_
        refine vV (.pointer (some ⟨c, 0, none⟩)) ?_
        refine vV (.pointer (some ⟨c, 2, none⟩)) ?_
        refine sC #[.int .i64 r, .string d, .bool true, .int .i64 n] C 2 (.bool true) rfl ?_
        intro qw10 qt11 qB12
        clear C
        replace qB2 := qB2.touch qt11 (by omega)
        replace qB5 := qB5.touch qt11 (by omega)
        replace qB8 := qB8.touch qt11 (by omega)
        replace H := H.touch qt11 (by omega)
        replace G := touch_any G qt11 (by omega)
        have qt11_s := qt11.size
        refine vE #[.pointer (some ⟨c, 0, none⟩), .agg (cnCells { F1 with pa := some ⟨g1, 0, none⟩, pc := p1 }), .agg (cnCells { T1 with pa := some ⟨q, 0, none⟩, pc := p }), undef, .pointer (some ⟨w.heap.size, 0, none⟩), .pointer (some ⟨qw1.heap.size, 0, none⟩), .pointer (some ⟨qw4.heap.size, 0, none⟩), .pointer (some ⟨w.heap.size, 18, none⟩), .bool true, .bool true, .pointer (some ⟨w.heap.size, 11, none⟩), .pointer (some ⟨w.heap.size, 12, none⟩), .string F1.iD, .bool true, .bool true, .pointer (some ⟨c, 0, none⟩), .pointer (some ⟨c, 0, none⟩), .pointer (some ⟨c, 2, none⟩), undef, undef, undef, undef, undef, undef, undef, undef, undef, undef, undef, undef, undef] ?_
        go_upto_region 3 with (fail)
        refine vR ?_
        refine vV (.pointer (some ⟨c, 0, none⟩)) ?_
        refine vV (.pointer (some ⟨c, 0, none⟩)) ?_
        refine vV (.pointer (some ⟨c, 2, none⟩)) ?_
        refine vD (.bool true) (qB12.cell 2) ?_
        refine vV (.bool true) ?_
        refine vV (.pointer (some ⟨c, 0, none⟩)) ?_
        refine vV (.pointer (some ⟨c, 0, none⟩)) ?_
        refine vV (.pointer (some ⟨c, 0, none⟩)) ?_
        refine vK (condEmpty r d true n c true hc2.out.symm _ qB12) ?_
        intro qw13 qg14
        replace qB12 := qB12.since qg14
        replace qB2 := qB2.since qg14
        replace qB5 := qB5.since qg14
        replace qB8 := qB8.since qg14
        replace H := H.since qg14
        replace G := G.trans (Touch.of_since qg14 c)
        have qg14_s := qg14.size
        refine vV (.bool true) ?_
        refine vE #[.pointer (some ⟨c, 0, none⟩), .agg (cnCells { F1 with pa := some ⟨g1, 0, none⟩, pc := p1 }), .agg (cnCells { T1 with pa := some ⟨q, 0, none⟩, pc := p }), undef, .pointer (some ⟨w.heap.size, 0, none⟩), .pointer (some ⟨qw1.heap.size, 0, none⟩), .pointer (some ⟨qw4.heap.size, 0, none⟩), .pointer (some ⟨w.heap.size, 18, none⟩), .bool true, .bool true, .pointer (some ⟨w.heap.size, 11, none⟩), .pointer (some ⟨w.heap.size, 12, none⟩), .string F1.iD, .bool true, .bool true, .pointer (some ⟨c, 0, none⟩), .pointer (some ⟨c, 0, none⟩), .pointer (some ⟨c, 2, none⟩), .pointer (some ⟨c, 0, none⟩), .pointer (some ⟨c, 0, none⟩), .pointer (some ⟨c, 2, none⟩), .bool true, .bool true, .pointer (some ⟨c, 0, none⟩), .pointer (some ⟨c, 0, none⟩), .pointer (some ⟨c, 0, none⟩), .bool true, .bool true, undef, undef, undef] ?_
        go_upto_region 4 with (fail)
        refine vR ?_
        refine vB cn_big qB5 (cn_size _) ?_
        refine vC (hcl _ H.reads) ?_
        rintro _ qw15 ⟨g3, cp3, rfl, H3, qg16⟩
        refine ⟨_, rfl, ?_⟩
        replace qB12 := qB12.since qg16
        replace qB2 := qB2.since qg16
        replace qB5 := qB5.since qg16
        replace qB8 := qB8.since qg16
        replace H := H.since qg16
        replace G := G.trans (Touch.of_since qg16 c)
        have qg16_s := qg16.size
        have H3_0 := H3.low'
        replace H3 := H3.raise (show B ≤ g3 by omega)
        have H3_1 := H3.lt
        clear H
        refine sB (cnCells { TC with pa := some ⟨g3, 0, none⟩, pc := cp3 }) cn_big qB8 (cn_size _) (cn_size _) (cn_one _) ?_
        intro qw17 qt18 qB19
        clear qB8
        replace qB12 := qB12.touch qt18 (by omega)
        replace qB2 := qB2.touch qt18 (by omega)
        replace qB5 := qB5.touch qt18 (by omega)
        replace H3 := H3.touch qt18 (by omega)
        replace G := touch_any G qt18 (by omega)
        have qt18_s := qt18.size
        refine vE #[.pointer (some ⟨c, 0, none⟩), .agg (cnCells { F1 with pa := some ⟨g1, 0, none⟩, pc := p1 }), .agg (cnCells { T1 with pa := some ⟨q, 0, none⟩, pc := p }), undef, .pointer (some ⟨w.heap.size, 0, none⟩), .pointer (some ⟨qw1.heap.size, 0, none⟩), .pointer (some ⟨qw4.heap.size, 0, none⟩), .pointer (some ⟨w.heap.size, 18, none⟩), .bool true, .bool true, .pointer (some ⟨w.heap.size, 11, none⟩), .pointer (some ⟨w.heap.size, 12, none⟩), .string F1.iD, .bool true, .bool true, .pointer (some ⟨c, 0, none⟩), .pointer (some ⟨c, 0, none⟩), .pointer (some ⟨c, 2, none⟩), .pointer (some ⟨c, 0, none⟩), .pointer (some ⟨c, 0, none⟩), .pointer (some ⟨c, 2, none⟩), .bool true, .bool true, .pointer (some ⟨c, 0, none⟩), .pointer (some ⟨c, 0, none⟩), .pointer (some ⟨c, 0, none⟩), .bool true, .bool true, .agg (cnCells { T1 with pa := some ⟨q, 0, none⟩, pc := p }), .agg (cnCells { TC with pa := some ⟨g3, 0, none⟩, pc := cp3 }), undef] ?_
        have hfin : Blk c qw17 #[.int .i64 r, .string d, .bool e2, .int .i64 n] := by rw [eE.out]; exact qB12
        go_wp2_with (fail)
        exact bodyPost_ret (results_cn (t := 6) rfl _ rfl qB19) rfl ⟨_, _, by rw [eT.out], H3, Or.inr (by omega), G, hfin⟩
  case inr =>
    rcases Bool.eq_false_or_eq_true e with hee | hee
    all_goals replace hee : Hid _ := hee
    case inl =>
      cases c2
      case false =>
        have eE : Hid (e2 = true) := (by rw [he2.out, hgf.out]; exact hee.out : e2 = true)
        have eT : Hid (T2 = T1) := (by rw [hT2.out, eE.out]; unfold shutT; rw [← hc2.out]; rfl : T2 = T1)
        refine vR ?_
        refine vV (.pointer (some ⟨w.heap.size, 18, none⟩)) ?_
        refine vD (.bool false) ((qB2.cell 18).trans (by show some (.bool F1.gfn : Value) = some (.bool false : Value); rw [hgf.out])) ?_
        refine vV (.bool false) ?_
        refine vS ?_
        refine vS ?_
        refine vS ?_
        refine vS ?_
        refine vV (.bool false) ?_
        refine vE #[.pointer (some ⟨c, 0, none⟩), .agg (cnCells { F1 with pa := some ⟨g1, 0, none⟩, pc := p1 }), .agg (cnCells { T1 with pa := some ⟨q, 0, none⟩, pc := p }), undef, .pointer (some ⟨w.heap.size, 0, none⟩), .pointer (some ⟨qw1.heap.size, 0, none⟩), .pointer (some ⟨qw4.heap.size, 0, none⟩), .pointer (some ⟨w.heap.size, 18, none⟩), .bool false, .bool false, undef, undef, undef, undef, .bool false, undef, undef, undef, undef, undef, undef, undef, undef, undef, undef, undef, undef, undef, undef, undef, undef] ?_
        go_upto_region 3 with (fail)
        refine vR ?_
        refine vV (.pointer (some ⟨c, 0, none⟩)) ?_
        refine vV (.pointer (some ⟨c, 0, none⟩)) ?_
        refine vV (.pointer (some ⟨c, 2, none⟩)) ?_
        refine vD (.bool true) ((C.cell 2).trans (by show some (.bool e : Value) = some (.bool true : Value); rw [hee.out])) ?_
        refine vV (.bool true) ?_
        refine vV (.pointer (some ⟨c, 0, none⟩)) ?_
        refine vV (.pointer (some ⟨c, 0, none⟩)) ?_
        refine vV (.pointer (some ⟨c, 0, none⟩)) ?_
        refine vK (condEmpty r d e n c false hc2.out.symm _ C) ?_
        intro qw10 qg11
        replace C := C.since qg11
        replace qB2 := qB2.since qg11
        replace qB5 := qB5.since qg11
        replace qB8 := qB8.since qg11
        replace H := H.since qg11
        replace G := G.trans (Touch.of_since qg11 c)
        have qg11_s := qg11.size
        refine vV (.bool false) ?_
        refine vE #[.pointer (some ⟨c, 0, none⟩), .agg (cnCells { F1 with pa := some ⟨g1, 0, none⟩, pc := p1 }), .agg (cnCells { T1 with pa := some ⟨q, 0, none⟩, pc := p }), undef, .pointer (some ⟨w.heap.size, 0, none⟩), .pointer (some ⟨qw1.heap.size, 0, none⟩), .pointer (some ⟨qw4.heap.size, 0, none⟩), .pointer (some ⟨w.heap.size, 18, none⟩), .bool false, .bool false, undef, undef, undef, undef, .bool false, undef, undef, undef, .pointer (some ⟨c, 0, none⟩), .pointer (some ⟨c, 0, none⟩), .pointer (some ⟨c, 2, none⟩), .bool true, .bool true, .pointer (some ⟨c, 0, none⟩), .pointer (some ⟨c, 0, none⟩), .pointer (some ⟨c, 0, none⟩), .bool false, .bool false, undef, undef, undef] ?_
        go_upto_region 5 with (fail)
        refine vR ?_
        refine vB cn_big qB5 (cn_size _) ?_
        refine sB (cnCells { T1 with pa := some ⟨q, 0, none⟩, pc := p }) cn_big qB8 (cn_size _) (cn_size _) (cn_one _) ?_
        intro qw12 qt13 qB14
        clear qB8
        replace C := C.touch qt13 (by omega)
        replace qB2 := qB2.touch qt13 (by omega)
        replace qB5 := qB5.touch qt13 (by omega)
        replace H := H.touch qt13 (by omega)
        replace G := touch_any G qt13 (by omega)
        have qt13_s := qt13.size
        refine vE #[.pointer (some ⟨c, 0, none⟩), .agg (cnCells { F1 with pa := some ⟨g1, 0, none⟩, pc := p1 }), .agg (cnCells { T1 with pa := some ⟨q, 0, none⟩, pc := p }), undef, .pointer (some ⟨w.heap.size, 0, none⟩), .pointer (some ⟨qw1.heap.size, 0, none⟩), .pointer (some ⟨qw4.heap.size, 0, none⟩), .pointer (some ⟨w.heap.size, 18, none⟩), .bool false, .bool false, undef, undef, undef, undef, .bool false, undef, undef, undef, .pointer (some ⟨c, 0, none⟩), .pointer (some ⟨c, 0, none⟩), .pointer (some ⟨c, 2, none⟩), .bool true, .bool true, .pointer (some ⟨c, 0, none⟩), .pointer (some ⟨c, 0, none⟩), .pointer (some ⟨c, 0, none⟩), .bool false, .bool false, undef, undef, .agg (cnCells { T1 with pa := some ⟨q, 0, none⟩, pc := p })] ?_
        have hfin : Blk c qw12 #[.int .i64 r, .string d, .bool e2, .int .i64 n] := by rw [eE.out]; rw [hee.out] at C; exact C
        go_wp2_with (fail)
        exact bodyPost_ret (results_cn (t := 6) rfl _ rfl qB14) rfl ⟨_, _, by rw [eT.out], H, Or.inl rfl, G, hfin⟩
      case true =>
        have eE : Hid (e2 = true) := (by rw [he2.out, hgf.out]; exact hee.out : e2 = true)
        have eT : Hid (T2 = TC) := (by rw [hT2.out, eE.out]; unfold shutT; rw [← hc2.out]; exact hTC.out.symm : T2 = TC)
        refine vR ?_
        refine vV (.pointer (some ⟨w.heap.size, 18, none⟩)) ?_
        refine vD (.bool false) ((qB2.cell 18).trans (by show some (.bool F1.gfn : Value) = some (.bool false : Value); rw [hgf.out])) ?_
        refine vV (.bool false) ?_
        refine vS ?_
        refine vS ?_
        refine vS ?_
        refine vS ?_
        refine vV (.bool false) ?_
        refine vE #[.pointer (some ⟨c, 0, none⟩), .agg (cnCells { F1 with pa := some ⟨g1, 0, none⟩, pc := p1 }), .agg (cnCells { T1 with pa := some ⟨q, 0, none⟩, pc := p }), undef, .pointer (some ⟨w.heap.size, 0, none⟩), .pointer (some ⟨qw1.heap.size, 0, none⟩), .pointer (some ⟨qw4.heap.size, 0, none⟩), .pointer (some ⟨w.heap.size, 18, none⟩), .bool false, .bool false, undef, undef, undef, undef, .bool false, undef, undef, undef, undef, undef, undef, undef, undef, undef, undef, undef, undef, undef, undef, undef, undef] ?_
        go_upto_region 3 with (fail)
        refine vR ?_
        refine vV (.pointer (some ⟨c, 0, none⟩)) ?_
        refine vV (.pointer (some ⟨c, 0, none⟩)) ?_
        refine vV (.pointer (some ⟨c, 2, none⟩)) ?_
        refine vD (.bool true) ((C.cell 2).trans (by show some (.bool e : Value) = some (.bool true : Value); rw [hee.out])) ?_
        refine vV (.bool true) ?_
        refine vV (.pointer (some ⟨c, 0, none⟩)) ?_
        refine vV (.pointer (some ⟨c, 0, none⟩)) ?_
        refine vV (.pointer (some ⟨c, 0, none⟩)) ?_
        refine vK (condEmpty r d e n c true hc2.out.symm _ C) ?_
        intro qw10 qg11
        replace C := C.since qg11
        replace qB2 := qB2.since qg11
        replace qB5 := qB5.since qg11
        replace qB8 := qB8.since qg11
        replace H := H.since qg11
        replace G := G.trans (Touch.of_since qg11 c)
        have qg11_s := qg11.size
        refine vV (.bool true) ?_
        refine vE #[.pointer (some ⟨c, 0, none⟩), .agg (cnCells { F1 with pa := some ⟨g1, 0, none⟩, pc := p1 }), .agg (cnCells { T1 with pa := some ⟨q, 0, none⟩, pc := p }), undef, .pointer (some ⟨w.heap.size, 0, none⟩), .pointer (some ⟨qw1.heap.size, 0, none⟩), .pointer (some ⟨qw4.heap.size, 0, none⟩), .pointer (some ⟨w.heap.size, 18, none⟩), .bool false, .bool false, undef, undef, undef, undef, .bool false, undef, undef, undef, .pointer (some ⟨c, 0, none⟩), .pointer (some ⟨c, 0, none⟩), .pointer (some ⟨c, 2, none⟩), .bool true, .bool true, .pointer (some ⟨c, 0, none⟩), .pointer (some ⟨c, 0, none⟩), .pointer (some ⟨c, 0, none⟩), .bool true, .bool true, undef, undef, undef] ?_
        go_upto_region 4 with (fail)
        refine vR ?_
        refine vB cn_big qB5 (cn_size _) ?_
        refine vC (hcl _ H.reads) ?_
        rintro _ qw12 ⟨g3, cp3, rfl, H3, qg13⟩
        refine ⟨_, rfl, ?_⟩
        replace C := C.since qg13
        replace qB2 := qB2.since qg13
        replace qB5 := qB5.since qg13
        replace qB8 := qB8.since qg13
        replace H := H.since qg13
        replace G := G.trans (Touch.of_since qg13 c)
        have qg13_s := qg13.size
        have H3_0 := H3.low'
        replace H3 := H3.raise (show B ≤ g3 by omega)
        have H3_1 := H3.lt
        clear H
        refine sB (cnCells { TC with pa := some ⟨g3, 0, none⟩, pc := cp3 }) cn_big qB8 (cn_size _) (cn_size _) (cn_one _) ?_
        intro qw14 qt15 qB16
        clear qB8
        replace C := C.touch qt15 (by omega)
        replace qB2 := qB2.touch qt15 (by omega)
        replace qB5 := qB5.touch qt15 (by omega)
        replace H3 := H3.touch qt15 (by omega)
        replace G := touch_any G qt15 (by omega)
        have qt15_s := qt15.size
        refine vE #[.pointer (some ⟨c, 0, none⟩), .agg (cnCells { F1 with pa := some ⟨g1, 0, none⟩, pc := p1 }), .agg (cnCells { T1 with pa := some ⟨q, 0, none⟩, pc := p }), undef, .pointer (some ⟨w.heap.size, 0, none⟩), .pointer (some ⟨qw1.heap.size, 0, none⟩), .pointer (some ⟨qw4.heap.size, 0, none⟩), .pointer (some ⟨w.heap.size, 18, none⟩), .bool false, .bool false, undef, undef, undef, undef, .bool false, undef, undef, undef, .pointer (some ⟨c, 0, none⟩), .pointer (some ⟨c, 0, none⟩), .pointer (some ⟨c, 2, none⟩), .bool true, .bool true, .pointer (some ⟨c, 0, none⟩), .pointer (some ⟨c, 0, none⟩), .pointer (some ⟨c, 0, none⟩), .bool true, .bool true, .agg (cnCells { T1 with pa := some ⟨q, 0, none⟩, pc := p }), .agg (cnCells { TC with pa := some ⟨g3, 0, none⟩, pc := cp3 }), undef] ?_
        have hfin : Blk c qw14 #[.int .i64 r, .string d, .bool e2, .int .i64 n] := by rw [eE.out]; rw [hee.out] at C; exact C
        go_wp2_with (fail)
        exact bodyPost_ret (results_cn (t := 6) rfl _ rfl qB16) rfl ⟨_, _, by rw [eT.out], H3, Or.inr (by omega), G, hfin⟩
    case inr =>
      have eE : Hid (e2 = false) := (by rw [he2.out, hgf.out]; exact hee.out : e2 = false)
      have eT : Hid (T2 = T1) := (by rw [hT2.out, eE.out]; unfold shutT; rfl : T2 = T1)
      refine vR ?_
      refine vV (.pointer (some ⟨w.heap.size, 18, none⟩)) ?_
      refine vD (.bool false) ((qB2.cell 18).trans (by show some (.bool F1.gfn : Value) = some (.bool false : Value); rw [hgf.out])) ?_
      refine vV (.bool false) ?_
      refine vS ?_
      refine vS ?_
      refine vS ?_
      refine vS ?_
      refine vV (.bool false) ?_
      refine vE #[.pointer (some ⟨c, 0, none⟩), .agg (cnCells { F1 with pa := some ⟨g1, 0, none⟩, pc := p1 }), .agg (cnCells { T1 with pa := some ⟨q, 0, none⟩, pc := p }), undef, .pointer (some ⟨w.heap.size, 0, none⟩), .pointer (some ⟨qw1.heap.size, 0, none⟩), .pointer (some ⟨qw4.heap.size, 0, none⟩), .pointer (some ⟨w.heap.size, 18, none⟩), .bool false, .bool false, undef, undef, undef, undef, .bool false, undef, undef, undef, undef, undef, undef, undef, undef, undef, undef, undef, undef, undef, undef, undef, undef] ?_
      go_upto_region 3 with (fail)
      refine vR ?_
      refine vV (.pointer (some ⟨c, 0, none⟩)) ?_
      refine vV (.pointer (some ⟨c, 0, none⟩)) ?_
      refine vV (.pointer (some ⟨c, 2, none⟩)) ?_
      refine vD (.bool false) ((C.cell 2).trans (by show some (.bool e : Value) = some (.bool false : Value); rw [hee.out])) ?_
      refine vV (.bool false) ?_
      refine vS ?_
      refine vS ?_
      refine vS ?_
      refine vS ?_
      refine vV (.bool false) ?_
      refine vE #[.pointer (some ⟨c, 0, none⟩), .agg (cnCells { F1 with pa := some ⟨g1, 0, none⟩, pc := p1 }), .agg (cnCells { T1 with pa := some ⟨q, 0, none⟩, pc := p }), undef, .pointer (some ⟨w.heap.size, 0, none⟩), .pointer (some ⟨qw1.heap.size, 0, none⟩), .pointer (some ⟨qw4.heap.size, 0, none⟩), .pointer (some ⟨w.heap.size, 18, none⟩), .bool false, .bool false, undef, undef, undef, undef, .bool false, undef, undef, undef, .pointer (some ⟨c, 0, none⟩), .pointer (some ⟨c, 0, none⟩), .pointer (some ⟨c, 2, none⟩), .bool false, .bool false, undef, undef, undef, undef, .bool false, undef, undef, undef] ?_
      go_upto_region 5 with (fail)
      refine vR ?_
      refine vB cn_big qB5 (cn_size _) ?_
      refine sB (cnCells { T1 with pa := some ⟨q, 0, none⟩, pc := p }) cn_big qB8 (cn_size _) (cn_size _) (cn_one _) ?_
      intro qw10 qt11 qB12
      clear qB8
      replace C := C.touch qt11 (by omega)
      replace qB2 := qB2.touch qt11 (by omega)
      replace qB5 := qB5.touch qt11 (by omega)
      replace H := H.touch qt11 (by omega)
      replace G := touch_any G qt11 (by omega)
      have qt11_s := qt11.size
      refine vE #[.pointer (some ⟨c, 0, none⟩), .agg (cnCells { F1 with pa := some ⟨g1, 0, none⟩, pc := p1 }), .agg (cnCells { T1 with pa := some ⟨q, 0, none⟩, pc := p }), undef, .pointer (some ⟨w.heap.size, 0, none⟩), .pointer (some ⟨qw1.heap.size, 0, none⟩), .pointer (some ⟨qw4.heap.size, 0, none⟩), .pointer (some ⟨w.heap.size, 18, none⟩), .bool false, .bool false, undef, undef, undef, undef, .bool false, undef, undef, undef, .pointer (some ⟨c, 0, none⟩), .pointer (some ⟨c, 0, none⟩), .pointer (some ⟨c, 2, none⟩), .bool false, .bool false, undef, undef, undef, undef, .bool false, undef, undef, .agg (cnCells { T1 with pa := some ⟨q, 0, none⟩, pc := p })] ?_
      have hfin : Blk c qw10 #[.int .i64 r, .string d, .bool e2, .int .i64 n] := by rw [eE.out]; rw [hee.out] at C; exact C
      go_wp2_with (fail)
      exact bodyPost_ret (results_cn (t := 6) rfl _ rfl qB12) rfl ⟨_, _, by rw [eT.out], H, Or.inl rfl, G, hfin⟩

set_option maxRecDepth 20000 in
set_option maxHeartbeats 16000000 in
theorem condMove (r : Int) (d : ByteArray) (e : Bool) (n : Int) (hd : d.size ≤ 2048) (hr : 0 ≤ r ∧ r ≤ 2048) (hn : 0 ≤ n ∧ n ≤ 1000000000) {F : Cn} {ps : List (Int × ByteArray)} (gF : GoodC F ps) {T : Cn} {qs : List (Int × ByteArray)} (gT : GoodC T qs) (F1 : Cn) (hF1 : F1 = readC F ps (r - d.size)) (S1 : ByteArray) (hS1 : S1 = readS F ps (r - d.size)) (D1 : ByteArray) (hD1 : d ++ S1 = D1) (T1 : Cn) (hT1 : T1 = writeC T qs D1) (M : Nat) (hM : M = writeM T qs D1) (D2 : ByteArray) (hD2 : D2 = D1.extract M D1.size) (e2 : Bool) (he2 : e2 = if F1.gfn && emp F1.iD then true else e) (T2 : Cn) (hT2 : T2 = shutT e2 D2 T1 qs)
    (q p q2 p2 c : Nat) (w : World) (C : Blk c w #[.int .i64 r, .string d, .bool e, .int .i64 n]) (R : Rd shP w (some ⟨q, 0, none⟩) F.pn ps) (R2 : ∀ x, Touch c w x → Rd shP x (some ⟨q2, 0, none⟩) T.pn qs) :
    Calls Tryz.prog 41 #[.pointer (some ⟨c, 0, none⟩), .agg (cnCells { F with pa := some ⟨q, 0, none⟩, pc := p }), .agg (cnCells { T with pa := some ⟨q2, 0, none⟩, pc := p2 })] w fun x w' => ∃ g cp g2 cp2, x = .returned (.tuple #[.agg (cnCells { F1 with pa := some ⟨g, 0, none⟩, pc := cp }), .agg (cnCells { T2 with pa := some ⟨g2, 0, none⟩, pc := cp2 })]) ∧ Held shP w' w.heap.size g F.pn cp ps ∧ Held shP w' w.heap.size g2 T.pn cp2 qs ∧ g ≠ g2 ∧ Touch c w w' ∧ Blk c w' #[.int .i64 r, .string D2, .bool e2, .int .i64 (capP n M)] := by
  have hz1 : D1.size ≤ 1048576 := by
    have := readS_size F ps (r - d.size)
    rw [← hD1, hS1]
    simp
    omega
  have gT1 : GoodC T1 qs := by rw [hT1]; exact good_write gT _
  have pT1 : T1.pn = T.pn := by rw [hT1]; exact write_pn _ _ _
  have hf := fun wx Cx Rx => condFill r d e n hd hr gF F1 hF1 S1 hS1 D1 hD1 q p c wx Cx Rx
  have hp := fun wx Cx Rx => condPour r D1 e n hz1 hn gT T1 hT1 M hM D2 hD2 q2 p2 c wx Cx Rx
  have he := fun g1 p1 g4 p4 B wx Cx Hx hx => condEnd r D2 e (capP n M) F1 T1 qs gT1 e2 he2 T2 hT2 g1 p1 g4 p4 B c wx Cx Hx hx
  replace hF1 : Hid _ := hF1
  replace hS1 : Hid _ := hS1
  replace hD1 : Hid _ := hD1
  replace hT1 : Hid _ := hT1
  replace hM : Hid _ := hM
  replace hD2 : Hid _ := hD2
  replace he2 : Hid _ := he2
  replace hT2 : Hid _ := hT2
  have G := Touch.refl c w
  have hC0 := C.lt
  go_enter Tryz.func41, Tryz.ntmps41
  go_upto_region 0 with (fail)
  refine vR ?_
  refine vW (w.alloc (.cells (cnCells { F with pa := some ⟨q, 0, none⟩, pc := p }) 46)) (.pointer (some ⟨w.heap.size, 0, none⟩)) ?_
  have qB2 := Blk.new w (cnCells { F with pa := some ⟨q, 0, none⟩, pc := p }) 46
  have qg3 := (Since.refl w).alloc (.cells (cnCells { F with pa := some ⟨q, 0, none⟩, pc := p }) 46)
  replace C := C.since qg3
  replace R := R.since qg3
  replace G := G.trans (Touch.of_since qg3 c)
  generalize w.alloc (.cells (cnCells { F with pa := some ⟨q, 0, none⟩, pc := p }) 46) = qw1 at C R G qB2 qg3 ⊢
  have qB2_l := qB2.lt
  have qg3_s := qg3.size
  refine vW (qw1.alloc (.cells (cnCells { T with pa := some ⟨q2, 0, none⟩, pc := p2 }) 46)) (.pointer (some ⟨qw1.heap.size, 0, none⟩)) ?_
  have qB5 := Blk.new qw1 (cnCells { T with pa := some ⟨q2, 0, none⟩, pc := p2 }) 46
  have qg6 := (Since.refl qw1).alloc (.cells (cnCells { T with pa := some ⟨q2, 0, none⟩, pc := p2 }) 46)
  replace C := C.since qg6
  replace qB2 := qB2.since qg6
  replace R := R.since qg6
  replace G := G.trans (Touch.of_since qg6 c)
  generalize qw1.alloc (.cells (cnCells { T with pa := some ⟨q2, 0, none⟩, pc := p2 }) 46) = qw4 at C qB2 R G qB5 qg6 ⊢
  have qB5_l := qB5.lt
  have qg6_s := qg6.size
  refine vW (qw4.alloc (.cells (cnCells cnZero) 46)) (.pointer (some ⟨qw4.heap.size, 0, none⟩)) ?_
  have qB8 := Blk.new qw4 (cnCells cnZero) 46
  have qg9 := (Since.refl qw4).alloc (.cells (cnCells cnZero) 46)
  replace C := C.since qg9
  replace qB2 := qB2.since qg9
  replace qB5 := qB5.since qg9
  replace R := R.since qg9
  replace G := G.trans (Touch.of_since qg9 c)
  generalize qw4.alloc (.cells (cnCells cnZero) 46) = qw7 at C qB2 qB5 R G qB8 qg9 ⊢
  have qB8_l := qB8.lt
  have qg9_s := qg9.size
  refine vW (qw7.alloc (.cells (cnCells cnZero) 46)) (.pointer (some ⟨qw7.heap.size, 0, none⟩)) ?_
  have qB11 := Blk.new qw7 (cnCells cnZero) 46
  have qg12 := (Since.refl qw7).alloc (.cells (cnCells cnZero) 46)
  replace C := C.since qg12
  replace qB2 := qB2.since qg12
  replace qB5 := qB5.since qg12
  replace qB8 := qB8.since qg12
  replace R := R.since qg12
  replace G := G.trans (Touch.of_since qg12 c)
  generalize qw7.alloc (.cells (cnCells cnZero) 46) = qw10 at C qB2 qB5 qB8 R G qB11 qg12 ⊢
  have qB11_l := qB11.lt
  have qg12_s := qg12.size
  refine vE #[.pointer (some ⟨c, 0, none⟩), .agg (cnCells { F with pa := some ⟨q, 0, none⟩, pc := p }), .agg (cnCells { T with pa := some ⟨q2, 0, none⟩, pc := p2 }), undef, .pointer (some ⟨w.heap.size, 0, none⟩), .pointer (some ⟨qw1.heap.size, 0, none⟩), .pointer (some ⟨qw4.heap.size, 0, none⟩), .pointer (some ⟨qw7.heap.size, 0, none⟩), undef, undef, undef, undef, undef, undef, undef, undef, undef, undef, undef] ?_
  go_upto_region 1 with (fail)
  refine vR ?_
  refine vV (.pointer (some ⟨c, 0, none⟩)) ?_
  refine vB cn_big qB2 (cn_size _) ?_
  refine vC (hf _ C R) ?_
  rintro _ qw13 ⟨g3, cp3, rfl, H3, qt14, qB15⟩
  refine ⟨_, rfl, ?_⟩
  clear C
  replace qB2 := qB2.touch qt14 (by omega)
  replace qB5 := qB5.touch qt14 (by omega)
  replace qB8 := qB8.touch qt14 (by omega)
  replace qB11 := qB11.touch qt14 (by omega)
  replace G := touch_any G qt14 (by omega)
  have qt14_s := qt14.size
  clear R
  have H3_0 := H3.low'
  replace H3 := H3.raise (show w.heap.size ≤ g3 by omega)
  have H3_1 := H3.lt
  refine sB (cnCells { F1 with pa := some ⟨g3, 0, none⟩, pc := cp3 }) cn_big qB2 (cn_size _) (cn_size _) (cn_one _) ?_
  intro qw16 qt17 qB18
  clear qB2
  replace qB15 := qB15.touch qt17 (by omega)
  replace qB5 := qB5.touch qt17 (by omega)
  replace qB8 := qB8.touch qt17 (by omega)
  replace qB11 := qB11.touch qt17 (by omega)
  replace H3 := H3.touch qt17 (by omega)
  replace G := touch_any G qt17 (by omega)
  have qt17_s := qt17.size
  refine vE #[.pointer (some ⟨c, 0, none⟩), .agg (cnCells { F with pa := some ⟨q, 0, none⟩, pc := p }), .agg (cnCells { T with pa := some ⟨q2, 0, none⟩, pc := p2 }), undef, .pointer (some ⟨w.heap.size, 0, none⟩), .pointer (some ⟨qw1.heap.size, 0, none⟩), .pointer (some ⟨qw4.heap.size, 0, none⟩), .pointer (some ⟨qw7.heap.size, 0, none⟩), .pointer (some ⟨c, 0, none⟩), .agg (cnCells { F with pa := some ⟨q, 0, none⟩, pc := p }), .agg (cnCells { F1 with pa := some ⟨g3, 0, none⟩, pc := cp3 }), undef, undef, undef, undef, undef, undef, undef, undef] ?_
  go_upto_region 2 with (fail)
  refine vR ?_
  refine vV (.pointer (some ⟨c, 0, none⟩)) ?_
  refine vB cn_big qB5 (cn_size _) ?_
  refine vC (hp _ qB15 (R2 _ G)) ?_
  rintro _ qw19 ⟨g4, cp4, rfl, H4, qt20, qB21⟩
  refine ⟨_, rfl, ?_⟩
  clear qB15
  replace qB18 := qB18.touch qt20 (by omega)
  replace qB5 := qB5.touch qt20 (by omega)
  replace qB8 := qB8.touch qt20 (by omega)
  replace qB11 := qB11.touch qt20 (by omega)
  replace H3 := H3.touch qt20 (by omega)
  replace G := touch_any G qt20 (by omega)
  have qt20_s := qt20.size
  have H4_0 := H4.low'
  replace H4 := H4.raise (show w.heap.size ≤ g4 by omega)
  have H4_1 := H4.lt
  refine sB (cnCells { T1 with pa := some ⟨g4, 0, none⟩, pc := cp4 }) cn_big qB5 (cn_size _) (cn_size _) (cn_one _) ?_
  intro qw22 qt23 qB24
  clear qB5
  replace qB21 := qB21.touch qt23 (by omega)
  replace qB18 := qB18.touch qt23 (by omega)
  replace qB8 := qB8.touch qt23 (by omega)
  replace qB11 := qB11.touch qt23 (by omega)
  replace H3 := H3.touch qt23 (by omega)
  replace H4 := H4.touch qt23 (by omega)
  replace G := touch_any G qt23 (by omega)
  have qt23_s := qt23.size
  refine vE #[.pointer (some ⟨c, 0, none⟩), .agg (cnCells { F with pa := some ⟨q, 0, none⟩, pc := p }), .agg (cnCells { T with pa := some ⟨q2, 0, none⟩, pc := p2 }), undef, .pointer (some ⟨w.heap.size, 0, none⟩), .pointer (some ⟨qw1.heap.size, 0, none⟩), .pointer (some ⟨qw4.heap.size, 0, none⟩), .pointer (some ⟨qw7.heap.size, 0, none⟩), .pointer (some ⟨c, 0, none⟩), .agg (cnCells { F with pa := some ⟨q, 0, none⟩, pc := p }), .agg (cnCells { F1 with pa := some ⟨g3, 0, none⟩, pc := cp3 }), .pointer (some ⟨c, 0, none⟩), .agg (cnCells { T with pa := some ⟨q2, 0, none⟩, pc := p2 }), .agg (cnCells { T1 with pa := some ⟨g4, 0, none⟩, pc := cp4 }), undef, undef, undef, undef, undef] ?_
  go_upto_region 3 with (fail)
  refine wp_region_low (Low (fun b => b = c ∨ b = qw4.heap.size ∨ b = qw7.heap.size)) (fun i x v => match i with
      | 0 => v = .agg (cnCells { F1 with pa := some ⟨g3, 0, none⟩, pc := cp3 })
      | 1 => v = .pointer (some ⟨c, 0, none⟩)
      | 2 => v = .agg (cnCells { F1 with pa := some ⟨g3, 0, none⟩, pc := cp3 })
      | 3 => v = .agg (cnCells { T1 with pa := some ⟨g4, 0, none⟩, pc := cp4 })
      | 4 => ∃ g cp, v = .agg (cnCells { T2 with pa := some ⟨g, 0, none⟩, pc := cp }) ∧ Held shP x w.heap.size g T1.pn cp qs ∧ g ≠ c ∧ g ≠ qw4.heap.size ∧ g ≠ qw7.heap.size ∧ g ≠ g3
      | 5 => True
      | 6 => True
      | _ => True) (fun f vals x => Blk c x (if f 4 then #[.int .i64 r, .string D2, .bool e2, .int .i64 (capP n M)] else #[.int .i64 r, .string D2, .bool e, .int .i64 (capP n M)]) ∧ Blk w.heap.size x (cnCells { F1 with pa := some ⟨g3, 0, none⟩, pc := cp3 }) ∧ Blk qw1.heap.size x (cnCells { T1 with pa := some ⟨g4, 0, none⟩, pc := cp4 }) ∧ Blk qw4.heap.size x (if f 5 then (cnCells { F1 with pa := some ⟨g3, 0, none⟩, pc := cp3 }) else (cnCells cnZero)) ∧ ((f 6 = false → Blk qw7.heap.size x (cnCells cnZero)) ∧ (f 6 = true → f 4 = true ∧ ∃ cs, vals 4 = .agg cs ∧ Blk qw7.heap.size x cs)) ∧ Held shP x w.heap.size g3 F.pn cp3 ps ∧ Held shP x w.heap.size g4 T.pn cp4 qs ∧ qw22.heap.size ≤ x.heap.size ∧ Touch c w x) (fun v => { tmps := #[.pointer (some ⟨c, 0, none⟩), .agg (cnCells { F with pa := some ⟨q, 0, none⟩, pc := p }), .agg (cnCells { T with pa := some ⟨q2, 0, none⟩, pc := p2 }), undef, .pointer (some ⟨w.heap.size, 0, none⟩), .pointer (some ⟨qw1.heap.size, 0, none⟩), .pointer (some ⟨qw4.heap.size, 0, none⟩), .pointer (some ⟨qw7.heap.size, 0, none⟩), .pointer (some ⟨c, 0, none⟩), .agg (cnCells { F with pa := some ⟨q, 0, none⟩, pc := p }), .agg (cnCells { F1 with pa := some ⟨g3, 0, none⟩, pc := cp3 }), .pointer (some ⟨c, 0, none⟩), .agg (cnCells { T with pa := some ⟨q2, 0, none⟩, pc := p2 }), .agg (cnCells { T1 with pa := some ⟨g4, 0, none⟩, pc := cp4 }), v 0, v 1, v 2, v 3, v 4], defers := [] }) (by kernel_rfl) (by kernel_rfl) ?_ ?_ (fun vals => by kernel_rfl) ?_ ?_
  case refine_1 =>
    intro j x y v hl hv
    match j, hv with
    | 0, hv | 1, hv | 2, hv | 3, hv => exact hv
    | 5, hv | 6, hv => trivial
    | 4, ⟨g, cp, e, H, n1, n2, n3, n4⟩ =>
      obtain ⟨b, hb, t⟩ := hl
      replace hb : b = c ∨ b = qw4.heap.size ∨ b = qw7.heap.size := hb
      exact ⟨g, cp, e, H.touch t (by omega), n1, n2, n3, n4⟩
    | n + 7, _ => trivial
  case refine_2 =>
    intro f vals hf
    refine ⟨(by rw [hf 4]; exact qB21.since ((Since.refl _).drew)), qB18.since ((Since.refl _).drew), qB24.since ((Since.refl _).drew), (by rw [hf 5]; exact qB8.since ((Since.refl _).drew)), ⟨fun _ => qB11.since ((Since.refl _).drew), fun h => by rw [hf 6] at h; cases h⟩, H3.since ((Since.refl _).drew), H4.since ((Since.refl _).drew), ((Since.refl _).drew).size, G.trans (Touch.of_since ((Since.refl _).drew) c)⟩
  case refine_3 =>
    repeat (first | exact eachLow_nil | refine eachLow_cons ?_ ?_)
    all_goals intro f vals x hf hr hK
    all_goals obtain ⟨k0, k1, k2, k3, k4, k5, k6, k7, k8⟩ := hK
    · obtain ⟨fj, g, cp, ev, H, n1, n2, n3, n4⟩ := hr ⟨4, .data⟩ (by simp) rfl
      have kz := k4.1 hf
      refine does_store cn_big (cn_size _) (Raw.of kz (cn_size _)) (cn_one _) _ _ rfl rfl ev ?_
      intro z t B
      exact ⟨Low.touch t (show qw7.heap.size = c ∨ qw7.heap.size = qw4.heap.size ∨ qw7.heap.size = qw7.heap.size by omega), ⟨k0.touch t (by omega), k1.touch t (by omega), k2.touch t (by omega), k3.touch t (by omega), ⟨fun h => absurd h (by simp [andDone]), fun _ => ⟨fj, _, ev, B⟩⟩, k5.touch t (by omega), k6.touch t (by omega), Nat.le_trans k7 t.size, touch_any k8 t (by omega)⟩, trivial⟩
    · have ev : vals 0 = .agg (cnCells { F1 with pa := some ⟨g3, 0, none⟩, pc := cp3 }) := (hr ⟨0, .data⟩ (by simp) rfl).2
      have kz : Blk qw4.heap.size x (cnCells cnZero) := by have := k3; rw [hf] at this; exact this
      refine does_store cn_big (cn_size _) (Raw.of kz (cn_size _)) (cn_one _) _ _ rfl rfl ev ?_
      intro z t B
      exact ⟨Low.touch t (show qw4.heap.size = c ∨ qw4.heap.size = qw4.heap.size ∨ qw4.heap.size = qw7.heap.size by omega), ⟨k0.touch t (by omega), k1.touch t (by omega), k2.touch t (by omega), B, ⟨fun h => (k4.1 h).touch t (by omega), fun h => ⟨(k4.2 h).1, by obtain ⟨cs, e, B⟩ := (k4.2 h).2; exact ⟨cs, e, B.touch t (by omega)⟩⟩⟩, k5.touch t (by omega), k6.touch t (by omega), Nat.le_trans k7 t.size, touch_any k8 t (by omega)⟩, trivial⟩
    · skip
      have e1 : vals 1 = .pointer (some ⟨c, 0, none⟩) := (hr ⟨1, .data⟩ (by simp) rfl).2
      have e2 : vals 2 = .agg (cnCells { F1 with pa := some ⟨g3, 0, none⟩, pc := cp3 }) := (hr ⟨2, .data⟩ (by simp) rfl).2
      have e3 : vals 3 = .agg (cnCells { T1 with pa := some ⟨g4, 0, none⟩, pc := cp4 }) := (hr ⟨3, .data⟩ (by simp) rfl).2
      simp [does, doesUpon, go_sem, e1, e2, e3]
      have kc : Blk c x #[.int .i64 r, .string D2, .bool e, .int .i64 (capP n M)] := by have := k0; rw [hf] at this; exact this
      refine (he g3 cp3 g4 cp4 w.heap.size _ kc (by rw [pT1]; exact k6) (by omega)).mono ?_
      rintro _ x' ⟨g, cp, rfl, H, hg, t, B⟩
      have xs := t.size
      exact ⟨_, rfl, Low.touch t (show c = c ∨ c = qw4.heap.size ∨ c = qw7.heap.size by omega), ⟨B, k1.touch t (by omega), k2.touch t (by omega), k3.touch t (by omega), ⟨fun h => (k4.1 h).touch t (by omega), fun h => absurd (k4.2 h).1 (by rw [hf]; decide)⟩, k5.touch t (by omega), k6.touch t (by omega), Nat.le_trans k7 t.size, touch_any k8 t (by omega)⟩, g, cp, rfl, H, by omega, by omega, by omega, by omega⟩
    · exact does_load cn_big (cn_size _) k2 _ rfl rfl ⟨Low.since (b := c) (Since.refl _) (Or.inl rfl), ⟨k0, k1, k2, k3, ⟨fun h => (k4.1 h), fun h => ⟨(k4.2 h).1, by obtain ⟨cs, e, B⟩ := (k4.2 h).2; exact ⟨cs, e, B⟩⟩⟩, k5, k6, k7, k8⟩, rfl⟩
    · exact does_load cn_big (cn_size _) k1 _ rfl rfl ⟨Low.since (b := c) (Since.refl _) (Or.inl rfl), ⟨k0, k1, k2, k3, ⟨fun h => (k4.1 h), fun h => ⟨(k4.2 h).1, by obtain ⟨cs, e, B⟩ := (k4.2 h).2; exact ⟨cs, e, B⟩⟩⟩, k5, k6, k7, k8⟩, rfl⟩
    · skip
      simp [does, doesUpon, go_sem]
      exact ⟨Low.since (b := c) (Since.refl _) (Or.inl rfl), ⟨k0, k1, k2, k3, ⟨fun h => (k4.1 h), fun h => ⟨(k4.2 h).1, by obtain ⟨cs, e, B⟩ := (k4.2 h).2; exact ⟨cs, e, B⟩⟩⟩, k5, k6, k7, k8⟩⟩
    · exact does_load cn_big (cn_size _) k1 _ rfl rfl ⟨Low.since (b := c) (Since.refl _) (Or.inl rfl), ⟨k0, k1, k2, k3, ⟨fun h => (k4.1 h), fun h => ⟨(k4.2 h).1, by obtain ⟨cs, e, B⟩ := (k4.2 h).2; exact ⟨cs, e, B⟩⟩⟩, k5, k6, k7, k8⟩, rfl⟩
  case refine_4 =>
    intro f qv26 qw25 hK hf hv
    obtain ⟨k0, k1, k2, k3, k4, k5, k6, k7, k8⟩ := hK
    clear qB21 qB18 qB24 qB8 qB11 H3 H4 G
    have hv0 : qv26 0 = _ := hv 0 (by decide)
    have hv1 : qv26 1 = _ := hv 1 (by decide)
    have hv2 : qv26 2 = _ := hv 2 (by decide)
    have hv3 : qv26 3 = _ := hv 3 (by decide)
    obtain ⟨g, cp, hv4, H, n1, n2, n3, n4⟩ := hv 4 (by decide)
    clear hv
    obtain ⟨-, cs, ec, qB11⟩ := k4.2 (hf 6 (by decide))
    rw [hv4] at ec
    obtain rfl := Value.agg.inj ec
    clear ec k4
    simp only [hv0, hv1, hv2, hv3, hv4]
    clear hv0 hv1 hv2 hv3 hv4
    have qB21 : Blk c qw25 #[.int .i64 r, .string D2, .bool e2, .int .i64 (capP n M)] := by have := k0; rw [hf 4 (by decide)] at this; exact this
    clear k0
    have qB18 := k1
    clear k1
    have qB24 := k2
    clear k2
    have qB8 : Blk qw4.heap.size qw25 (cnCells { F1 with pa := some ⟨g3, 0, none⟩, pc := cp3 }) := by have := k3; rw [hf 5 (by decide)] at this; exact this
    clear k3
    have H3 := k5
    clear k5
    have H4 := k6
    clear k6
    have G := k8
    clear k8
    have qw25_l := qB11.lt
    have qw25_n := k7
    clear k7
    go_wp2_with (fail)
    exact bodyPost_ret (results_22 (u := 6) (v := 7) rfl _ rfl rfl qB8 qB11) rfl ⟨_, _, _, _, rfl, H3, by rw [← pT1]; exact H, by omega, G, qB21⟩

set_option maxRecDepth 20000 in
set_option maxHeartbeats 16000000 in
theorem implMove (r : Int) (d : ByteArray) (e : Bool) (n : Int) (F : Cn) (ps : List (Int × ByteArray)) (T : Cn) (qs : List (Int × ByteArray)) (gF : GoodC F ps) (gT : GoodC T qs) (hd : d.size ≤ 1048576) (q p q2 p2 : Nat) (w : World) (R : Rd shP w (some ⟨q, 0, none⟩) F.pn ps) (R2 : Rd shP w (some ⟨q2, 0, none⟩) T.pn qs) :
    Calls Tryz.prog 10 #[.agg #[.int .i64 r, .string d, .bool e, .int .i64 n], .agg (cnCells { F with pa := some ⟨q, 0, none⟩, pc := p }), .agg (cnCells { T with pa := some ⟨q2, 0, none⟩, pc := p2 })] w fun x w' => ∃ g cp g2 cp2, x = .returned (.tuple #[.agg #[.int .i64 r, .string (mvD r d n F ps T qs), .bool (mvE r d e n F ps T qs), .int .i64 (mvN r d n F ps T qs)], .agg (cnCells { mvF r d n F ps T qs with pa := some ⟨g, 0, none⟩, pc := cp }), .agg (cnCells { mvT r d e n F ps T qs with pa := some ⟨g2, 0, none⟩, pc := cp2 })]) ∧ Held shP w' w.heap.size g F.pn cp ps ∧ Held shP w' w.heap.size g2 T.pn cp2 qs ∧ g ≠ g2 ∧ Since w w' := by
  obtain ⟨xD, hxD⟩ : ∃ x, Hid (x = mvD r d n F ps T qs) := ⟨_, rfl⟩
  obtain ⟨xE, hxE⟩ : ∃ x, Hid (x = mvE r d e n F ps T qs) := ⟨_, rfl⟩
  obtain ⟨xN, hxN⟩ : ∃ x, Hid (x = mvN r d n F ps T qs) := ⟨_, rfl⟩
  obtain ⟨xF, hxF⟩ : ∃ x, Hid (x = mvF r d n F ps T qs) := ⟨_, rfl⟩
  obtain ⟨xT, hxT⟩ : ∃ x, Hid (x = mvT r d e n F ps T qs) := ⟨_, rfl⟩
  rw [← hxD.out, ← hxE.out, ← hxN.out, ← hxF.out, ← hxT.out]
  obtain ⟨b1, hb1⟩ : ∃ b, Hid (b = pipeOk r d n) := ⟨_, rfl⟩
  obtain ⟨b2, hb2⟩ : ∃ b, Hid (b = connOk F ps) := ⟨_, rfl⟩
  obtain ⟨b3, hb3⟩ : ∃ b, Hid (b = connOk T qs) := ⟨_, rfl⟩
  have hk1 := fun wx => implPipeOk r d e n wx
  unfold ppVal at hk1
  rw [← hb1.out] at hk1
  have hk2 := fun wx Rx => iOk gF q p wx Rx
  rw [← hb2.out] at hk2
  have hk3 := fun wx Rx => iOk gT q2 p2 wx Rx
  rw [← hb3.out] at hk3
  have hcF := fun wx Rx => iFresh gF q p wx Rx
  have hcT := fun wx Rx => iFresh gT q2 p2 wx Rx
  have hco := fun wx => condOf r d e n hd wx
  have G := Since.refl w
  go_enter Tryz.func10, Tryz.ntmps10
  go_upto_region 0 with (fail)
  refine vR ?_
  refine vW (w.alloc (.cells #[.int .i64 r, .string d, .bool e, .int .i64 n] 38)) (.pointer (some ⟨w.heap.size, 0, none⟩)) ?_
  have qB2 := Blk.new w #[.int .i64 r, .string d, .bool e, .int .i64 n] 38
  have qg3 := (Since.refl w).alloc (.cells #[.int .i64 r, .string d, .bool e, .int .i64 n] 38)
  replace G := G.trans qg3
  generalize w.alloc (.cells #[.int .i64 r, .string d, .bool e, .int .i64 n] 38) = qw1 at  G qB2 qg3 ⊢
  have qB2_l := qB2.lt
  have qg3_s := qg3.size
  refine vW (qw1.alloc (.cells (cnCells { F with pa := some ⟨q, 0, none⟩, pc := p }) 46)) (.pointer (some ⟨qw1.heap.size, 0, none⟩)) ?_
  have qB5 := Blk.new qw1 (cnCells { F with pa := some ⟨q, 0, none⟩, pc := p }) 46
  have qg6 := (Since.refl qw1).alloc (.cells (cnCells { F with pa := some ⟨q, 0, none⟩, pc := p }) 46)
  replace qB2 := qB2.since qg6
  replace G := G.trans qg6
  generalize qw1.alloc (.cells (cnCells { F with pa := some ⟨q, 0, none⟩, pc := p }) 46) = qw4 at qB2 G qB5 qg6 ⊢
  have qB5_l := qB5.lt
  have qg6_s := qg6.size
  refine vW (qw4.alloc (.cells (cnCells { T with pa := some ⟨q2, 0, none⟩, pc := p2 }) 46)) (.pointer (some ⟨qw4.heap.size, 0, none⟩)) ?_
  have qB8 := Blk.new qw4 (cnCells { T with pa := some ⟨q2, 0, none⟩, pc := p2 }) 46
  have qg9 := (Since.refl qw4).alloc (.cells (cnCells { T with pa := some ⟨q2, 0, none⟩, pc := p2 }) 46)
  replace qB2 := qB2.since qg9
  replace qB5 := qB5.since qg9
  replace G := G.trans qg9
  generalize qw4.alloc (.cells (cnCells { T with pa := some ⟨q2, 0, none⟩, pc := p2 }) 46) = qw7 at qB2 qB5 G qB8 qg9 ⊢
  have qB8_l := qB8.lt
  have qg9_s := qg9.size
  refine vW (qw7.alloc (.cells #[.int .i64 0, .string ByteArray.empty, .bool false, .int .i64 0] 38)) (.pointer (some ⟨qw7.heap.size, 0, none⟩)) ?_
  have qB11 := Blk.new qw7 #[.int .i64 0, .string ByteArray.empty, .bool false, .int .i64 0] 38
  have qg12 := (Since.refl qw7).alloc (.cells #[.int .i64 0, .string ByteArray.empty, .bool false, .int .i64 0] 38)
  replace qB2 := qB2.since qg12
  replace qB5 := qB5.since qg12
  replace qB8 := qB8.since qg12
  replace G := G.trans qg12
  generalize qw7.alloc (.cells #[.int .i64 0, .string ByteArray.empty, .bool false, .int .i64 0] 38) = qw10 at qB2 qB5 qB8 G qB11 qg12 ⊢
  have qB11_l := qB11.lt
  have qg12_s := qg12.size
  refine vW (qw10.alloc (.cells (cnCells cnZero) 46)) (.pointer (some ⟨qw10.heap.size, 0, none⟩)) ?_
  have qB14 := Blk.new qw10 (cnCells cnZero) 46
  have qg15 := (Since.refl qw10).alloc (.cells (cnCells cnZero) 46)
  replace qB2 := qB2.since qg15
  replace qB5 := qB5.since qg15
  replace qB8 := qB8.since qg15
  replace qB11 := qB11.since qg15
  replace G := G.trans qg15
  generalize qw10.alloc (.cells (cnCells cnZero) 46) = qw13 at qB2 qB5 qB8 qB11 G qB14 qg15 ⊢
  have qB14_l := qB14.lt
  have qg15_s := qg15.size
  refine vW (qw13.alloc (.cells (cnCells cnZero) 46)) (.pointer (some ⟨qw13.heap.size, 0, none⟩)) ?_
  have qB17 := Blk.new qw13 (cnCells cnZero) 46
  have qg18 := (Since.refl qw13).alloc (.cells (cnCells cnZero) 46)
  replace qB2 := qB2.since qg18
  replace qB5 := qB5.since qg18
  replace qB8 := qB8.since qg18
  replace qB11 := qB11.since qg18
  replace qB14 := qB14.since qg18
  replace G := G.trans qg18
  generalize qw13.alloc (.cells (cnCells cnZero) 46) = qw16 at qB2 qB5 qB8 qB11 qB14 G qB17 qg18 ⊢
  have qB17_l := qB17.lt
  have qg18_s := qg18.size
  refine vE #[.agg #[.int .i64 r, .string d, .bool e, .int .i64 n], .agg (cnCells { F with pa := some ⟨q, 0, none⟩, pc := p }), .agg (cnCells { T with pa := some ⟨q2, 0, none⟩, pc := p2 }), .pointer (some ⟨w.heap.size, 0, none⟩), .pointer (some ⟨qw1.heap.size, 0, none⟩), .pointer (some ⟨qw4.heap.size, 0, none⟩), .pointer (some ⟨qw7.heap.size, 0, none⟩), .pointer (some ⟨qw10.heap.size, 0, none⟩), .pointer (some ⟨qw13.heap.size, 0, none⟩), undef, undef, undef, undef, undef, undef, undef, undef, undef, undef, undef, undef, undef, undef, undef, undef, undef, undef, undef, undef, undef, undef, undef, undef, undef, undef, undef, undef, undef, undef] ?_
  go_upto_region 1 with (fail)
  refine vR ?_
  refine vB pp_big qB2 rfl ?_
  refine vK (hco _) ?_
  intro qw19 qg20
  replace qB2 := qB2.since qg20
  replace qB5 := qB5.since qg20
  replace qB8 := qB8.since qg20
  replace qB11 := qB11.since qg20
  replace qB14 := qB14.since qg20
  replace qB17 := qB17.since qg20
  replace G := G.trans qg20
  have qg20_s := qg20.size
  refine vW (qw19.alloc (.cells #[.int .i64 0, .string ByteArray.empty, .bool false, .int .i64 0] 85)) (.pointer (some ⟨qw19.heap.size, 0, none⟩)) ?_
  have qB22 := Blk.new qw19 #[.int .i64 0, .string ByteArray.empty, .bool false, .int .i64 0] 85
  have qg23 := (Since.refl qw19).alloc (.cells #[.int .i64 0, .string ByteArray.empty, .bool false, .int .i64 0] 85)
  replace qB2 := qB2.since qg23
  replace qB5 := qB5.since qg23
  replace qB8 := qB8.since qg23
  replace qB11 := qB11.since qg23
  replace qB14 := qB14.since qg23
  replace qB17 := qB17.since qg23
  replace G := G.trans qg23
  generalize qw19.alloc (.cells #[.int .i64 0, .string ByteArray.empty, .bool false, .int .i64 0] 85) = qw21 at qB2 qB5 qB8 qB11 qB14 qB17 G qB22 qg23 ⊢
  have qB22_l := qB22.lt
  have qg23_s := qg23.size
  refine sB #[.int .i64 r, .string d, .bool e, .int .i64 n] cd_big qB22 rfl rfl (by simp [Value.oneCell']) ?_
  intro qw24 qt25 qB26
  clear qB22
  replace qB2 := qB2.touch qt25 (by omega)
  replace qB5 := qB5.touch qt25 (by omega)
  replace qB8 := qB8.touch qt25 (by omega)
  replace qB11 := qB11.touch qt25 (by omega)
  replace qB14 := qB14.touch qt25 (by omega)
  replace qB17 := qB17.touch qt25 (by omega)
  replace G := since_touch G qt25 (by omega)
  have qt25_s := qt25.size
  refine vE #[.agg #[.int .i64 r, .string d, .bool e, .int .i64 n], .agg (cnCells { F with pa := some ⟨q, 0, none⟩, pc := p }), .agg (cnCells { T with pa := some ⟨q2, 0, none⟩, pc := p2 }), .pointer (some ⟨w.heap.size, 0, none⟩), .pointer (some ⟨qw1.heap.size, 0, none⟩), .pointer (some ⟨qw4.heap.size, 0, none⟩), .pointer (some ⟨qw7.heap.size, 0, none⟩), .pointer (some ⟨qw10.heap.size, 0, none⟩), .pointer (some ⟨qw13.heap.size, 0, none⟩), .pointer (some ⟨qw19.heap.size, 0, none⟩), .agg #[.int .i64 r, .string d, .bool e, .int .i64 n], .agg #[.int .i64 r, .string d, .bool e, .int .i64 n], undef, undef, undef, undef, undef, undef, undef, undef, undef, undef, undef, undef, undef, undef, undef, undef, undef, undef, undef, undef, undef, undef, undef, undef, undef, undef, undef] ?_
  go_upto_region 2 with (fail)
  cases b1
  case false =>
    have hmk : mvOk r d n F ps T qs = false := by unfold mvOk; rw [← hb1.out]; rfl
    have eX : Hid (xD = d) := (by rw [hxD.out]; unfold mvD; rw [hmk]; rfl : xD = d)
    have eE : Hid (xE = e) := (by rw [hxE.out]; unfold mvE; rw [hmk]; rfl : xE = e)
    have eC : Hid (xN = n) := (by rw [hxN.out]; unfold mvN; rw [hmk]; rfl : xN = n)
    have eF : Hid (xF = F) := (by rw [hxF.out]; unfold mvF; rw [hmk]; rfl : xF = F)
    have eT : Hid (xT = T) := (by rw [hxT.out]; unfold mvT; rw [hmk]; rfl : xT = T)
    clear hmk
    refine vR ?_
    refine vB pp_big qB2 rfl ?_
    refine vK (hk1 _) ?_
    intro qw27 qg28
    replace qB2 := qB2.since qg28
    replace qB5 := qB5.since qg28
    replace qB8 := qB8.since qg28
    replace qB11 := qB11.since qg28
    replace qB14 := qB14.since qg28
    replace qB17 := qB17.since qg28
    replace qB26 := qB26.since qg28
    replace G := G.trans qg28
    have qg28_s := qg28.size
    refine vV (.bool true) ?_
    refine vV (.bool true) ?_
    refine vS ?_
    refine vS ?_
    refine vS ?_
    refine vV (.bool true) ?_
    refine vV (.bool true) ?_
    refine vS ?_
    refine vS ?_
    refine vS ?_
    refine vV (.bool true) ?_
    refine vE #[.agg #[.int .i64 r, .string d, .bool e, .int .i64 n], .agg (cnCells { F with pa := some ⟨q, 0, none⟩, pc := p }), .agg (cnCells { T with pa := some ⟨q2, 0, none⟩, pc := p2 }), .pointer (some ⟨w.heap.size, 0, none⟩), .pointer (some ⟨qw1.heap.size, 0, none⟩), .pointer (some ⟨qw4.heap.size, 0, none⟩), .pointer (some ⟨qw7.heap.size, 0, none⟩), .pointer (some ⟨qw10.heap.size, 0, none⟩), .pointer (some ⟨qw13.heap.size, 0, none⟩), .pointer (some ⟨qw19.heap.size, 0, none⟩), .agg #[.int .i64 r, .string d, .bool e, .int .i64 n], .agg #[.int .i64 r, .string d, .bool e, .int .i64 n], .agg #[.int .i64 r, .string d, .bool e, .int .i64 n], .bool false, .bool true, .bool true, undef, undef, undef, .bool true, .bool true, undef, undef, undef, .bool true, undef, undef, undef, undef, undef, undef, undef, undef, undef, undef, undef, undef, undef, undef] ?_
    go_upto_region 3 with (fail)
    have hN0 : 0 < qw27.heap.size := by have := qB2.lt; omega
    refine wp_region_low (Low (fun b => b < qw27.heap.size)) (fun i x v => match i with
        | 0 => v = .agg #[.int .i64 r, .string d, .bool e, .int .i64 n]
        | 1 => v = .agg (cnCells { F with pa := some ⟨q, 0, none⟩, pc := p })
        | 2 => ∃ g cp, v = .agg (cnCells { F with pa := some ⟨g, 0, none⟩, pc := cp }) ∧ Held shP x qw27.heap.size g F.pn cp ps
        | 3 => v = .agg (cnCells { T with pa := some ⟨q2, 0, none⟩, pc := p2 })
        | 4 => ∃ g2 cp2, v = .agg (cnCells { T with pa := some ⟨g2, 0, none⟩, pc := cp2 }) ∧ Held shP x qw27.heap.size g2 T.pn cp2 qs
        | 5 => True
        | 6 => True
        | 7 => True
        | _ => True) (fun f vals x => Blk w.heap.size x #[.int .i64 r, .string d, .bool e, .int .i64 n] ∧ Blk qw1.heap.size x (cnCells { F with pa := some ⟨q, 0, none⟩, pc := p }) ∧ Blk qw4.heap.size x (cnCells { T with pa := some ⟨q2, 0, none⟩, pc := p2 }) ∧ Blk qw7.heap.size x (if f 5 then #[.int .i64 r, .string d, .bool e, .int .i64 n] else #[.int .i64 0, .string ByteArray.empty, .bool false, .int .i64 0]) ∧ ((f 6 = false → Blk qw10.heap.size x (cnCells cnZero)) ∧ (f 6 = true → f 2 = true ∧ ∃ cs, vals 2 = .agg cs ∧ Blk qw10.heap.size x cs)) ∧ ((f 7 = false → Blk qw13.heap.size x (cnCells cnZero)) ∧ (f 7 = true → f 4 = true ∧ ∃ cs, vals 4 = .agg cs ∧ Blk qw13.heap.size x cs)) ∧ Blk qw19.heap.size x #[.int .i64 r, .string d, .bool e, .int .i64 n] ∧ (f 4 = true → f 2 = true ∧ ∀ g cp g2 cp2, vals 2 = .agg (cnCells { F with pa := some ⟨g, 0, none⟩, pc := cp }) → vals 4 = .agg (cnCells { T with pa := some ⟨g2, 0, none⟩, pc := cp2 }) → g ≠ g2) ∧ qw27.heap.size ≤ x.heap.size ∧ Since w x) (fun v => { tmps := #[.agg #[.int .i64 r, .string d, .bool e, .int .i64 n], .agg (cnCells { F with pa := some ⟨q, 0, none⟩, pc := p }), .agg (cnCells { T with pa := some ⟨q2, 0, none⟩, pc := p2 }), .pointer (some ⟨w.heap.size, 0, none⟩), .pointer (some ⟨qw1.heap.size, 0, none⟩), .pointer (some ⟨qw4.heap.size, 0, none⟩), .pointer (some ⟨qw7.heap.size, 0, none⟩), .pointer (some ⟨qw10.heap.size, 0, none⟩), .pointer (some ⟨qw13.heap.size, 0, none⟩), .pointer (some ⟨qw19.heap.size, 0, none⟩), .agg #[.int .i64 r, .string d, .bool e, .int .i64 n], .agg #[.int .i64 r, .string d, .bool e, .int .i64 n], .agg #[.int .i64 r, .string d, .bool e, .int .i64 n], .bool false, .bool true, .bool true, undef, undef, undef, .bool true, .bool true, undef, undef, undef, .bool true, v 0, v 1, v 2, v 3, v 4, undef, undef, undef, undef, undef, undef, undef, undef, undef], defers := [] }) (by kernel_rfl) (by kernel_rfl) ?_ ?_ (fun vals => by kernel_rfl) ?_ ?_
    case refine_1 =>
      intro j x y v hl hv
      match j, hv with
      | 0, hv | 1, hv | 3, hv => exact hv
      | 5, hv | 6, hv | 7, hv => trivial
      | 2, ⟨g, cp, e, H⟩ =>
        obtain ⟨b, hb, t⟩ := hl
        replace hb : b < qw27.heap.size := hb
        exact ⟨g, cp, e, H.touch t (by have := H.low'; omega)⟩
      | 4, ⟨g2, cp2, e, H2⟩ =>
        obtain ⟨b, hb, t⟩ := hl
        replace hb : b < qw27.heap.size := hb
        exact ⟨g2, cp2, e, H2.touch t (by have := H2.low'; omega)⟩
      | n + 8, _ => trivial
    case refine_2 =>
      intro f vals hf
      refine ⟨qB2.since ((Since.refl _).drew), qB5.since ((Since.refl _).drew), qB8.since ((Since.refl _).drew), (by rw [hf 5]; exact qB11.since ((Since.refl _).drew)), ⟨fun _ => qB14.since ((Since.refl _).drew), fun h => by rw [hf 6] at h; cases h⟩, ⟨fun _ => qB17.since ((Since.refl _).drew), fun h => by rw [hf 7] at h; cases h⟩, qB26.since ((Since.refl _).drew), (fun h => by rw [hf 4] at h; cases h), ((Since.refl _).drew).size, G.trans ((Since.refl _).drew)⟩
    case refine_3 =>
      repeat (first | exact eachLow_nil | refine eachLow_cons ?_ ?_)
      all_goals intro f vals x hf hr hK
      all_goals obtain ⟨k0, k1, k2, k3, k4, k5, k6, k7, k8, k9⟩ := hK
      · obtain ⟨fj, g2, cp2, ev, H2⟩ := hr ⟨4, .data⟩ (by simp) rfl
        have kz := k5.1 hf
        refine does_store cn_big (cn_size _) (Raw.of kz (cn_size _)) (cn_one _) _ _ rfl rfl ev ?_
        intro z t B
        exact ⟨Low.touch t (show qw13.heap.size < qw27.heap.size by omega), ⟨k0.touch t (by omega), k1.touch t (by omega), k2.touch t (by omega), k3.touch t (by omega), ⟨fun h => (k4.1 h).touch t (by omega), fun h => ⟨(k4.2 h).1, by obtain ⟨cs, e, B⟩ := (k4.2 h).2; exact ⟨cs, e, B.touch t (by omega)⟩⟩⟩, ⟨fun h => absurd h (by simp [andDone]), fun _ => ⟨fj, _, ev, B⟩⟩, k6.touch t (by omega), k7, Nat.le_trans k8 t.size, since_touch k9 t (by omega)⟩, trivial⟩
      · obtain ⟨fj, g, cp, ev, H⟩ := hr ⟨2, .data⟩ (by simp) rfl
        have kz := k4.1 hf
        refine does_store cn_big (cn_size _) (Raw.of kz (cn_size _)) (cn_one _) _ _ rfl rfl ev ?_
        intro z t B
        exact ⟨Low.touch t (show qw10.heap.size < qw27.heap.size by omega), ⟨k0.touch t (by omega), k1.touch t (by omega), k2.touch t (by omega), k3.touch t (by omega), ⟨fun h => absurd h (by simp [andDone]), fun _ => ⟨fj, _, ev, B⟩⟩, ⟨fun h => (k5.1 h).touch t (by omega), fun h => ⟨(k5.2 h).1, by obtain ⟨cs, e, B⟩ := (k5.2 h).2; exact ⟨cs, e, B.touch t (by omega)⟩⟩⟩, k6.touch t (by omega), k7, Nat.le_trans k8 t.size, since_touch k9 t (by omega)⟩, trivial⟩
      · have ev : vals 0 = .agg #[.int .i64 r, .string d, .bool e, .int .i64 n] := (hr ⟨0, .data⟩ (by simp) rfl).2
        have kz : Blk qw7.heap.size x #[.int .i64 0, .string ByteArray.empty, .bool false, .int .i64 0] := by have := k3; rw [hf] at this; exact this
        refine does_store pp_big rfl (Raw.of kz rfl) (by simp [Value.oneCell']) _ _ rfl rfl ev ?_
        intro z t B
        exact ⟨Low.touch t (show qw7.heap.size < qw27.heap.size by omega), ⟨k0.touch t (by omega), k1.touch t (by omega), k2.touch t (by omega), B, ⟨fun h => (k4.1 h).touch t (by omega), fun h => ⟨(k4.2 h).1, by obtain ⟨cs, e, B⟩ := (k4.2 h).2; exact ⟨cs, e, B.touch t (by omega)⟩⟩⟩, ⟨fun h => (k5.1 h).touch t (by omega), fun h => ⟨(k5.2 h).1, by obtain ⟨cs, e, B⟩ := (k5.2 h).2; exact ⟨cs, e, B.touch t (by omega)⟩⟩⟩, k6.touch t (by omega), k7, Nat.le_trans k8 t.size, since_touch k9 t (by omega)⟩, trivial⟩
      · skip
        have e3 : vals 3 = .agg (cnCells { T with pa := some ⟨q2, 0, none⟩, pc := p2 }) := (hr ⟨3, .data⟩ (by simp) rfl).2
        simp [does, doesUpon, go_sem, e3]
        refine (hcT _ (R2.since k9)).mono ?_
        rintro _ x' ⟨g2, cp2, rfl, H2, h1⟩
        have xs := h1.size
        exact ⟨_, rfl, Low.since (b := 0) h1 (hN0), ⟨k0.since h1, k1.since h1, k2.since h1, k3.since h1, ⟨fun h => (k4.1 h).since h1, fun h => ⟨(k4.2 h).1, by obtain ⟨cs, e, B⟩ := (k4.2 h).2; exact ⟨cs, e, B.since h1⟩⟩⟩, ⟨fun h => (k5.1 h).since h1, fun h => absurd (k5.2 h).1 (by rw [hf]; decide)⟩, k6.since h1, (fun _ => ⟨(hr ⟨2, .chain⟩ (by simp) rfl).1, fun g0 cp0 g20 cp20 h20 h40 => by obtain ⟨-, g1, cp1, e1, H1⟩ := hr ⟨2, .chain⟩ (by simp) rfl; have i1 := end_inj (e1.symm.trans h20); have i2 := end_inj h40; have := H1.lt; have := H2.low'; omega⟩), Nat.le_trans k8 h1.size, k9.trans h1⟩, g2, cp2, rfl, H2.raise (by have := H2.low'; omega)⟩
      · exact does_load cn_big (cn_size _) k2 _ rfl rfl ⟨Low.since (b := 0) (Since.refl _) (hN0), ⟨k0, k1, k2, k3, ⟨fun h => (k4.1 h), fun h => ⟨(k4.2 h).1, by obtain ⟨cs, e, B⟩ := (k4.2 h).2; exact ⟨cs, e, B⟩⟩⟩, ⟨fun h => (k5.1 h), fun h => ⟨(k5.2 h).1, by obtain ⟨cs, e, B⟩ := (k5.2 h).2; exact ⟨cs, e, B⟩⟩⟩, k6, k7, k8, k9⟩, rfl⟩
      · skip
        have e1 : vals 1 = .agg (cnCells { F with pa := some ⟨q, 0, none⟩, pc := p }) := (hr ⟨1, .data⟩ (by simp) rfl).2
        simp [does, doesUpon, go_sem, e1]
        refine (hcF _ (R.since k9)).mono ?_
        rintro _ x' ⟨g, cp, rfl, H, h1⟩
        have xs := h1.size
        exact ⟨_, rfl, Low.since (b := 0) h1 (hN0), ⟨k0.since h1, k1.since h1, k2.since h1, k3.since h1, ⟨fun h => (k4.1 h).since h1, fun h => absurd (k4.2 h).1 (by rw [hf]; decide)⟩, ⟨fun h => (k5.1 h).since h1, fun h => ⟨(k5.2 h).1, by obtain ⟨cs, e, B⟩ := (k5.2 h).2; exact ⟨cs, e, B.since h1⟩⟩⟩, k6.since h1, (fun h => absurd (k7 h).1 (by rw [hf]; decide)), Nat.le_trans k8 h1.size, k9.trans h1⟩, g, cp, rfl, H.raise (by have := H.low'; omega)⟩
      · exact does_load cn_big (cn_size _) k1 _ rfl rfl ⟨Low.since (b := 0) (Since.refl _) (hN0), ⟨k0, k1, k2, k3, ⟨fun h => (k4.1 h), fun h => ⟨(k4.2 h).1, by obtain ⟨cs, e, B⟩ := (k4.2 h).2; exact ⟨cs, e, B⟩⟩⟩, ⟨fun h => (k5.1 h), fun h => ⟨(k5.2 h).1, by obtain ⟨cs, e, B⟩ := (k5.2 h).2; exact ⟨cs, e, B⟩⟩⟩, k6, k7, k8, k9⟩, rfl⟩
      · skip
        simp [does, doesUpon, go_sem]
        refine (condPipe r d e n qw19.heap.size _ k6).mono ?_
        rintro _ x' ⟨rfl, h1⟩
        exact ⟨_, rfl, Low.since (b := 0) h1 (hN0), ⟨k0.since h1, k1.since h1, k2.since h1, k3.since h1, ⟨fun h => (k4.1 h).since h1, fun h => ⟨(k4.2 h).1, by obtain ⟨cs, e, B⟩ := (k4.2 h).2; exact ⟨cs, e, B.since h1⟩⟩⟩, ⟨fun h => (k5.1 h).since h1, fun h => ⟨(k5.2 h).1, by obtain ⟨cs, e, B⟩ := (k5.2 h).2; exact ⟨cs, e, B.since h1⟩⟩⟩, k6.since h1, k7, Nat.le_trans k8 h1.size, k9.trans h1⟩, rfl⟩
    case refine_4 =>
      intro f qv30 qw29 hK hf hv
      obtain ⟨k0, k1, k2, k3, k4, k5, k6, k7, k8, k9⟩ := hK
      clear qB2 qB5 qB8 qB11 qB14 qB17 qB26 G
      have hv0 : qv30 0 = _ := hv 0 (by decide)
      have hv1 : qv30 1 = _ := hv 1 (by decide)
      obtain ⟨g, cp, hv2, H⟩ := hv 2 (by decide)
      have hv3 : qv30 3 = _ := hv 3 (by decide)
      obtain ⟨g2, cp2, hv4, H2⟩ := hv 4 (by decide)
      clear hv
      have hne := (k7 (hf 4 (by decide))).2 _ _ _ _ hv2 hv4
      clear k7
      obtain ⟨-, cs, ec, qB14⟩ := k4.2 (hf 6 (by decide))
      rw [hv2] at ec
      obtain rfl := Value.agg.inj ec
      clear ec k4
      obtain ⟨-, cs, ec, qB17⟩ := k5.2 (hf 7 (by decide))
      rw [hv4] at ec
      obtain rfl := Value.agg.inj ec
      clear ec k5
      simp only [hv0, hv1, hv2, hv3, hv4]
      clear hv0 hv1 hv2 hv3 hv4
      have qB2 := k0
      clear k0
      have qB5 := k1
      clear k1
      have qB8 := k2
      clear k2
      have qB11 : Blk qw7.heap.size qw29 #[.int .i64 r, .string d, .bool e, .int .i64 n] := by have := k3; rw [hf 5 (by decide)] at this; exact this
      clear k3
      have qB26 := k6
      clear k6
      have G := k9
      clear k9
      have qw29_l := qB26.lt
      have qw29_n := k8
      clear k8
      go_wp2_with (fail)
      exact bodyPost_ret (results_3 (hs := rfl) (t := 6) (u := 7) (v := 8) rfl _ rfl rfl rfl qB11 qB14 qB17) rfl ⟨_, _, _, _, by rw [eX.out, eE.out, eC.out, eF.out, eT.out], H.raise (by have := H.low'; omega), H2.raise (by have := H2.low'; omega), by omega, G⟩
  case true =>
  cases b2
  case false =>
    have hmk : mvOk r d n F ps T qs = false := by unfold mvOk; rw [← hb1.out, ← hb2.out]; rfl
    have eX : Hid (xD = d) := (by rw [hxD.out]; unfold mvD; rw [hmk]; rfl : xD = d)
    have eE : Hid (xE = e) := (by rw [hxE.out]; unfold mvE; rw [hmk]; rfl : xE = e)
    have eC : Hid (xN = n) := (by rw [hxN.out]; unfold mvN; rw [hmk]; rfl : xN = n)
    have eF : Hid (xF = F) := (by rw [hxF.out]; unfold mvF; rw [hmk]; rfl : xF = F)
    have eT : Hid (xT = T) := (by rw [hxT.out]; unfold mvT; rw [hmk]; rfl : xT = T)
    clear hmk
    refine vR ?_
    refine vB pp_big qB2 rfl ?_
    refine vK (hk1 _) ?_
    intro qw27 qg28
    replace qB2 := qB2.since qg28
    replace qB5 := qB5.since qg28
    replace qB8 := qB8.since qg28
    replace qB11 := qB11.since qg28
    replace qB14 := qB14.since qg28
    replace qB17 := qB17.since qg28
    replace qB26 := qB26.since qg28
    replace G := G.trans qg28
    have qg28_s := qg28.size
    refine vV (.bool false) ?_
    refine vV (.bool false) ?_
    refine vB cn_big qB5 (cn_size _) ?_
    refine vK (hk2 _ (R.since G)) ?_
    intro qw29 qg30
    replace qB2 := qB2.since qg30
    replace qB5 := qB5.since qg30
    replace qB8 := qB8.since qg30
    replace qB11 := qB11.since qg30
    replace qB14 := qB14.since qg30
    replace qB17 := qB17.since qg30
    replace qB26 := qB26.since qg30
    replace G := G.trans qg30
    have qg30_s := qg30.size
    refine vV (.bool true) ?_
    refine vV (.bool true) ?_
    refine vV (.bool true) ?_
    refine vS ?_
    refine vS ?_
    refine vS ?_
    refine vV (.bool true) ?_
    refine vE #[.agg #[.int .i64 r, .string d, .bool e, .int .i64 n], .agg (cnCells { F with pa := some ⟨q, 0, none⟩, pc := p }), .agg (cnCells { T with pa := some ⟨q2, 0, none⟩, pc := p2 }), .pointer (some ⟨w.heap.size, 0, none⟩), .pointer (some ⟨qw1.heap.size, 0, none⟩), .pointer (some ⟨qw4.heap.size, 0, none⟩), .pointer (some ⟨qw7.heap.size, 0, none⟩), .pointer (some ⟨qw10.heap.size, 0, none⟩), .pointer (some ⟨qw13.heap.size, 0, none⟩), .pointer (some ⟨qw19.heap.size, 0, none⟩), .agg #[.int .i64 r, .string d, .bool e, .int .i64 n], .agg #[.int .i64 r, .string d, .bool e, .int .i64 n], .agg #[.int .i64 r, .string d, .bool e, .int .i64 n], .bool true, .bool false, .bool false, .agg (cnCells { F with pa := some ⟨q, 0, none⟩, pc := p }), .bool false, .bool true, .bool true, .bool true, undef, undef, undef, .bool true, undef, undef, undef, undef, undef, undef, undef, undef, undef, undef, undef, undef, undef, undef] ?_
    go_upto_region 3 with (fail)
    have hN0 : 0 < qw29.heap.size := by have := qB2.lt; omega
    refine wp_region_low (Low (fun b => b < qw29.heap.size)) (fun i x v => match i with
        | 0 => v = .agg #[.int .i64 r, .string d, .bool e, .int .i64 n]
        | 1 => v = .agg (cnCells { F with pa := some ⟨q, 0, none⟩, pc := p })
        | 2 => ∃ g cp, v = .agg (cnCells { F with pa := some ⟨g, 0, none⟩, pc := cp }) ∧ Held shP x qw29.heap.size g F.pn cp ps
        | 3 => v = .agg (cnCells { T with pa := some ⟨q2, 0, none⟩, pc := p2 })
        | 4 => ∃ g2 cp2, v = .agg (cnCells { T with pa := some ⟨g2, 0, none⟩, pc := cp2 }) ∧ Held shP x qw29.heap.size g2 T.pn cp2 qs
        | 5 => True
        | 6 => True
        | 7 => True
        | _ => True) (fun f vals x => Blk w.heap.size x #[.int .i64 r, .string d, .bool e, .int .i64 n] ∧ Blk qw1.heap.size x (cnCells { F with pa := some ⟨q, 0, none⟩, pc := p }) ∧ Blk qw4.heap.size x (cnCells { T with pa := some ⟨q2, 0, none⟩, pc := p2 }) ∧ Blk qw7.heap.size x (if f 5 then #[.int .i64 r, .string d, .bool e, .int .i64 n] else #[.int .i64 0, .string ByteArray.empty, .bool false, .int .i64 0]) ∧ ((f 6 = false → Blk qw10.heap.size x (cnCells cnZero)) ∧ (f 6 = true → f 2 = true ∧ ∃ cs, vals 2 = .agg cs ∧ Blk qw10.heap.size x cs)) ∧ ((f 7 = false → Blk qw13.heap.size x (cnCells cnZero)) ∧ (f 7 = true → f 4 = true ∧ ∃ cs, vals 4 = .agg cs ∧ Blk qw13.heap.size x cs)) ∧ Blk qw19.heap.size x #[.int .i64 r, .string d, .bool e, .int .i64 n] ∧ (f 4 = true → f 2 = true ∧ ∀ g cp g2 cp2, vals 2 = .agg (cnCells { F with pa := some ⟨g, 0, none⟩, pc := cp }) → vals 4 = .agg (cnCells { T with pa := some ⟨g2, 0, none⟩, pc := cp2 }) → g ≠ g2) ∧ qw29.heap.size ≤ x.heap.size ∧ Since w x) (fun v => { tmps := #[.agg #[.int .i64 r, .string d, .bool e, .int .i64 n], .agg (cnCells { F with pa := some ⟨q, 0, none⟩, pc := p }), .agg (cnCells { T with pa := some ⟨q2, 0, none⟩, pc := p2 }), .pointer (some ⟨w.heap.size, 0, none⟩), .pointer (some ⟨qw1.heap.size, 0, none⟩), .pointer (some ⟨qw4.heap.size, 0, none⟩), .pointer (some ⟨qw7.heap.size, 0, none⟩), .pointer (some ⟨qw10.heap.size, 0, none⟩), .pointer (some ⟨qw13.heap.size, 0, none⟩), .pointer (some ⟨qw19.heap.size, 0, none⟩), .agg #[.int .i64 r, .string d, .bool e, .int .i64 n], .agg #[.int .i64 r, .string d, .bool e, .int .i64 n], .agg #[.int .i64 r, .string d, .bool e, .int .i64 n], .bool true, .bool false, .bool false, .agg (cnCells { F with pa := some ⟨q, 0, none⟩, pc := p }), .bool false, .bool true, .bool true, .bool true, undef, undef, undef, .bool true, v 0, v 1, v 2, v 3, v 4, undef, undef, undef, undef, undef, undef, undef, undef, undef], defers := [] }) (by kernel_rfl) (by kernel_rfl) ?_ ?_ (fun vals => by kernel_rfl) ?_ ?_
    case refine_1 =>
      intro j x y v hl hv
      match j, hv with
      | 0, hv | 1, hv | 3, hv => exact hv
      | 5, hv | 6, hv | 7, hv => trivial
      | 2, ⟨g, cp, e, H⟩ =>
        obtain ⟨b, hb, t⟩ := hl
        replace hb : b < qw29.heap.size := hb
        exact ⟨g, cp, e, H.touch t (by have := H.low'; omega)⟩
      | 4, ⟨g2, cp2, e, H2⟩ =>
        obtain ⟨b, hb, t⟩ := hl
        replace hb : b < qw29.heap.size := hb
        exact ⟨g2, cp2, e, H2.touch t (by have := H2.low'; omega)⟩
      | n + 8, _ => trivial
    case refine_2 =>
      intro f vals hf
      refine ⟨qB2.since ((Since.refl _).drew), qB5.since ((Since.refl _).drew), qB8.since ((Since.refl _).drew), (by rw [hf 5]; exact qB11.since ((Since.refl _).drew)), ⟨fun _ => qB14.since ((Since.refl _).drew), fun h => by rw [hf 6] at h; cases h⟩, ⟨fun _ => qB17.since ((Since.refl _).drew), fun h => by rw [hf 7] at h; cases h⟩, qB26.since ((Since.refl _).drew), (fun h => by rw [hf 4] at h; cases h), ((Since.refl _).drew).size, G.trans ((Since.refl _).drew)⟩
    case refine_3 =>
      repeat (first | exact eachLow_nil | refine eachLow_cons ?_ ?_)
      all_goals intro f vals x hf hr hK
      all_goals obtain ⟨k0, k1, k2, k3, k4, k5, k6, k7, k8, k9⟩ := hK
      · obtain ⟨fj, g2, cp2, ev, H2⟩ := hr ⟨4, .data⟩ (by simp) rfl
        have kz := k5.1 hf
        refine does_store cn_big (cn_size _) (Raw.of kz (cn_size _)) (cn_one _) _ _ rfl rfl ev ?_
        intro z t B
        exact ⟨Low.touch t (show qw13.heap.size < qw29.heap.size by omega), ⟨k0.touch t (by omega), k1.touch t (by omega), k2.touch t (by omega), k3.touch t (by omega), ⟨fun h => (k4.1 h).touch t (by omega), fun h => ⟨(k4.2 h).1, by obtain ⟨cs, e, B⟩ := (k4.2 h).2; exact ⟨cs, e, B.touch t (by omega)⟩⟩⟩, ⟨fun h => absurd h (by simp [andDone]), fun _ => ⟨fj, _, ev, B⟩⟩, k6.touch t (by omega), k7, Nat.le_trans k8 t.size, since_touch k9 t (by omega)⟩, trivial⟩
      · obtain ⟨fj, g, cp, ev, H⟩ := hr ⟨2, .data⟩ (by simp) rfl
        have kz := k4.1 hf
        refine does_store cn_big (cn_size _) (Raw.of kz (cn_size _)) (cn_one _) _ _ rfl rfl ev ?_
        intro z t B
        exact ⟨Low.touch t (show qw10.heap.size < qw29.heap.size by omega), ⟨k0.touch t (by omega), k1.touch t (by omega), k2.touch t (by omega), k3.touch t (by omega), ⟨fun h => absurd h (by simp [andDone]), fun _ => ⟨fj, _, ev, B⟩⟩, ⟨fun h => (k5.1 h).touch t (by omega), fun h => ⟨(k5.2 h).1, by obtain ⟨cs, e, B⟩ := (k5.2 h).2; exact ⟨cs, e, B.touch t (by omega)⟩⟩⟩, k6.touch t (by omega), k7, Nat.le_trans k8 t.size, since_touch k9 t (by omega)⟩, trivial⟩
      · have ev : vals 0 = .agg #[.int .i64 r, .string d, .bool e, .int .i64 n] := (hr ⟨0, .data⟩ (by simp) rfl).2
        have kz : Blk qw7.heap.size x #[.int .i64 0, .string ByteArray.empty, .bool false, .int .i64 0] := by have := k3; rw [hf] at this; exact this
        refine does_store pp_big rfl (Raw.of kz rfl) (by simp [Value.oneCell']) _ _ rfl rfl ev ?_
        intro z t B
        exact ⟨Low.touch t (show qw7.heap.size < qw29.heap.size by omega), ⟨k0.touch t (by omega), k1.touch t (by omega), k2.touch t (by omega), B, ⟨fun h => (k4.1 h).touch t (by omega), fun h => ⟨(k4.2 h).1, by obtain ⟨cs, e, B⟩ := (k4.2 h).2; exact ⟨cs, e, B.touch t (by omega)⟩⟩⟩, ⟨fun h => (k5.1 h).touch t (by omega), fun h => ⟨(k5.2 h).1, by obtain ⟨cs, e, B⟩ := (k5.2 h).2; exact ⟨cs, e, B.touch t (by omega)⟩⟩⟩, k6.touch t (by omega), k7, Nat.le_trans k8 t.size, since_touch k9 t (by omega)⟩, trivial⟩
      · skip
        have e3 : vals 3 = .agg (cnCells { T with pa := some ⟨q2, 0, none⟩, pc := p2 }) := (hr ⟨3, .data⟩ (by simp) rfl).2
        simp [does, doesUpon, go_sem, e3]
        refine (hcT _ (R2.since k9)).mono ?_
        rintro _ x' ⟨g2, cp2, rfl, H2, h1⟩
        have xs := h1.size
        exact ⟨_, rfl, Low.since (b := 0) h1 (hN0), ⟨k0.since h1, k1.since h1, k2.since h1, k3.since h1, ⟨fun h => (k4.1 h).since h1, fun h => ⟨(k4.2 h).1, by obtain ⟨cs, e, B⟩ := (k4.2 h).2; exact ⟨cs, e, B.since h1⟩⟩⟩, ⟨fun h => (k5.1 h).since h1, fun h => absurd (k5.2 h).1 (by rw [hf]; decide)⟩, k6.since h1, (fun _ => ⟨(hr ⟨2, .chain⟩ (by simp) rfl).1, fun g0 cp0 g20 cp20 h20 h40 => by obtain ⟨-, g1, cp1, e1, H1⟩ := hr ⟨2, .chain⟩ (by simp) rfl; have i1 := end_inj (e1.symm.trans h20); have i2 := end_inj h40; have := H1.lt; have := H2.low'; omega⟩), Nat.le_trans k8 h1.size, k9.trans h1⟩, g2, cp2, rfl, H2.raise (by have := H2.low'; omega)⟩
      · exact does_load cn_big (cn_size _) k2 _ rfl rfl ⟨Low.since (b := 0) (Since.refl _) (hN0), ⟨k0, k1, k2, k3, ⟨fun h => (k4.1 h), fun h => ⟨(k4.2 h).1, by obtain ⟨cs, e, B⟩ := (k4.2 h).2; exact ⟨cs, e, B⟩⟩⟩, ⟨fun h => (k5.1 h), fun h => ⟨(k5.2 h).1, by obtain ⟨cs, e, B⟩ := (k5.2 h).2; exact ⟨cs, e, B⟩⟩⟩, k6, k7, k8, k9⟩, rfl⟩
      · skip
        have e1 : vals 1 = .agg (cnCells { F with pa := some ⟨q, 0, none⟩, pc := p }) := (hr ⟨1, .data⟩ (by simp) rfl).2
        simp [does, doesUpon, go_sem, e1]
        refine (hcF _ (R.since k9)).mono ?_
        rintro _ x' ⟨g, cp, rfl, H, h1⟩
        have xs := h1.size
        exact ⟨_, rfl, Low.since (b := 0) h1 (hN0), ⟨k0.since h1, k1.since h1, k2.since h1, k3.since h1, ⟨fun h => (k4.1 h).since h1, fun h => absurd (k4.2 h).1 (by rw [hf]; decide)⟩, ⟨fun h => (k5.1 h).since h1, fun h => ⟨(k5.2 h).1, by obtain ⟨cs, e, B⟩ := (k5.2 h).2; exact ⟨cs, e, B.since h1⟩⟩⟩, k6.since h1, (fun h => absurd (k7 h).1 (by rw [hf]; decide)), Nat.le_trans k8 h1.size, k9.trans h1⟩, g, cp, rfl, H.raise (by have := H.low'; omega)⟩
      · exact does_load cn_big (cn_size _) k1 _ rfl rfl ⟨Low.since (b := 0) (Since.refl _) (hN0), ⟨k0, k1, k2, k3, ⟨fun h => (k4.1 h), fun h => ⟨(k4.2 h).1, by obtain ⟨cs, e, B⟩ := (k4.2 h).2; exact ⟨cs, e, B⟩⟩⟩, ⟨fun h => (k5.1 h), fun h => ⟨(k5.2 h).1, by obtain ⟨cs, e, B⟩ := (k5.2 h).2; exact ⟨cs, e, B⟩⟩⟩, k6, k7, k8, k9⟩, rfl⟩
      · skip
        simp [does, doesUpon, go_sem]
        refine (condPipe r d e n qw19.heap.size _ k6).mono ?_
        rintro _ x' ⟨rfl, h1⟩
        exact ⟨_, rfl, Low.since (b := 0) h1 (hN0), ⟨k0.since h1, k1.since h1, k2.since h1, k3.since h1, ⟨fun h => (k4.1 h).since h1, fun h => ⟨(k4.2 h).1, by obtain ⟨cs, e, B⟩ := (k4.2 h).2; exact ⟨cs, e, B.since h1⟩⟩⟩, ⟨fun h => (k5.1 h).since h1, fun h => ⟨(k5.2 h).1, by obtain ⟨cs, e, B⟩ := (k5.2 h).2; exact ⟨cs, e, B.since h1⟩⟩⟩, k6.since h1, k7, Nat.le_trans k8 h1.size, k9.trans h1⟩, rfl⟩
    case refine_4 =>
      intro f qv32 qw31 hK hf hv
      obtain ⟨k0, k1, k2, k3, k4, k5, k6, k7, k8, k9⟩ := hK
      clear qB2 qB5 qB8 qB11 qB14 qB17 qB26 G
      have hv0 : qv32 0 = _ := hv 0 (by decide)
      have hv1 : qv32 1 = _ := hv 1 (by decide)
      obtain ⟨g, cp, hv2, H⟩ := hv 2 (by decide)
      have hv3 : qv32 3 = _ := hv 3 (by decide)
      obtain ⟨g2, cp2, hv4, H2⟩ := hv 4 (by decide)
      clear hv
      have hne := (k7 (hf 4 (by decide))).2 _ _ _ _ hv2 hv4
      clear k7
      obtain ⟨-, cs, ec, qB14⟩ := k4.2 (hf 6 (by decide))
      rw [hv2] at ec
      obtain rfl := Value.agg.inj ec
      clear ec k4
      obtain ⟨-, cs, ec, qB17⟩ := k5.2 (hf 7 (by decide))
      rw [hv4] at ec
      obtain rfl := Value.agg.inj ec
      clear ec k5
      simp only [hv0, hv1, hv2, hv3, hv4]
      clear hv0 hv1 hv2 hv3 hv4
      have qB2 := k0
      clear k0
      have qB5 := k1
      clear k1
      have qB8 := k2
      clear k2
      have qB11 : Blk qw7.heap.size qw31 #[.int .i64 r, .string d, .bool e, .int .i64 n] := by have := k3; rw [hf 5 (by decide)] at this; exact this
      clear k3
      have qB26 := k6
      clear k6
      have G := k9
      clear k9
      have qw31_l := qB26.lt
      have qw31_n := k8
      clear k8
      go_wp2_with (fail)
      exact bodyPost_ret (results_3 (hs := rfl) (t := 6) (u := 7) (v := 8) rfl _ rfl rfl rfl qB11 qB14 qB17) rfl ⟨_, _, _, _, by rw [eX.out, eE.out, eC.out, eF.out, eT.out], H.raise (by have := H.low'; omega), H2.raise (by have := H2.low'; omega), by omega, G⟩
  case true =>
  cases b3
  case false =>
    have hmk : mvOk r d n F ps T qs = false := by unfold mvOk; rw [← hb1.out, ← hb2.out, ← hb3.out]; rfl
    have eX : Hid (xD = d) := (by rw [hxD.out]; unfold mvD; rw [hmk]; rfl : xD = d)
    have eE : Hid (xE = e) := (by rw [hxE.out]; unfold mvE; rw [hmk]; rfl : xE = e)
    have eC : Hid (xN = n) := (by rw [hxN.out]; unfold mvN; rw [hmk]; rfl : xN = n)
    have eF : Hid (xF = F) := (by rw [hxF.out]; unfold mvF; rw [hmk]; rfl : xF = F)
    have eT : Hid (xT = T) := (by rw [hxT.out]; unfold mvT; rw [hmk]; rfl : xT = T)
    clear hmk
    refine vR ?_
    refine vB pp_big qB2 rfl ?_
    refine vK (hk1 _) ?_
    intro qw27 qg28
    replace qB2 := qB2.since qg28
    replace qB5 := qB5.since qg28
    replace qB8 := qB8.since qg28
    replace qB11 := qB11.since qg28
    replace qB14 := qB14.since qg28
    replace qB17 := qB17.since qg28
    replace qB26 := qB26.since qg28
    replace G := G.trans qg28
    have qg28_s := qg28.size
    refine vV (.bool false) ?_
    refine vV (.bool false) ?_
    refine vB cn_big qB5 (cn_size _) ?_
    refine vK (hk2 _ (R.since G)) ?_
    intro qw29 qg30
    replace qB2 := qB2.since qg30
    replace qB5 := qB5.since qg30
    replace qB8 := qB8.since qg30
    replace qB11 := qB11.since qg30
    replace qB14 := qB14.since qg30
    replace qB17 := qB17.since qg30
    replace qB26 := qB26.since qg30
    replace G := G.trans qg30
    have qg30_s := qg30.size
    refine vV (.bool false) ?_
    refine vV (.bool false) ?_
    refine vV (.bool false) ?_
    refine vB cn_big qB8 (cn_size _) ?_
    refine vK (hk3 _ (R2.since G)) ?_
    intro qw31 qg32
    replace qB2 := qB2.since qg32
    replace qB5 := qB5.since qg32
    replace qB8 := qB8.since qg32
    replace qB11 := qB11.since qg32
    replace qB14 := qB14.since qg32
    replace qB17 := qB17.since qg32
    replace qB26 := qB26.since qg32
    replace G := G.trans qg32
    have qg32_s := qg32.size
    refine vV (.bool true) ?_
    refine vV (.bool true) ?_
    refine vE #[.agg #[.int .i64 r, .string d, .bool e, .int .i64 n], .agg (cnCells { F with pa := some ⟨q, 0, none⟩, pc := p }), .agg (cnCells { T with pa := some ⟨q2, 0, none⟩, pc := p2 }), .pointer (some ⟨w.heap.size, 0, none⟩), .pointer (some ⟨qw1.heap.size, 0, none⟩), .pointer (some ⟨qw4.heap.size, 0, none⟩), .pointer (some ⟨qw7.heap.size, 0, none⟩), .pointer (some ⟨qw10.heap.size, 0, none⟩), .pointer (some ⟨qw13.heap.size, 0, none⟩), .pointer (some ⟨qw19.heap.size, 0, none⟩), .agg #[.int .i64 r, .string d, .bool e, .int .i64 n], .agg #[.int .i64 r, .string d, .bool e, .int .i64 n], .agg #[.int .i64 r, .string d, .bool e, .int .i64 n], .bool true, .bool false, .bool false, .agg (cnCells { F with pa := some ⟨q, 0, none⟩, pc := p }), .bool true, .bool false, .bool false, .bool false, .agg (cnCells { T with pa := some ⟨q2, 0, none⟩, pc := p2 }), .bool false, .bool true, .bool true, undef, undef, undef, undef, undef, undef, undef, undef, undef, undef, undef, undef, undef, undef] ?_
    go_upto_region 3 with (fail)
    have hN0 : 0 < qw31.heap.size := by have := qB2.lt; omega
    refine wp_region_low (Low (fun b => b < qw31.heap.size)) (fun i x v => match i with
        | 0 => v = .agg #[.int .i64 r, .string d, .bool e, .int .i64 n]
        | 1 => v = .agg (cnCells { F with pa := some ⟨q, 0, none⟩, pc := p })
        | 2 => ∃ g cp, v = .agg (cnCells { F with pa := some ⟨g, 0, none⟩, pc := cp }) ∧ Held shP x qw31.heap.size g F.pn cp ps
        | 3 => v = .agg (cnCells { T with pa := some ⟨q2, 0, none⟩, pc := p2 })
        | 4 => ∃ g2 cp2, v = .agg (cnCells { T with pa := some ⟨g2, 0, none⟩, pc := cp2 }) ∧ Held shP x qw31.heap.size g2 T.pn cp2 qs
        | 5 => True
        | 6 => True
        | 7 => True
        | _ => True) (fun f vals x => Blk w.heap.size x #[.int .i64 r, .string d, .bool e, .int .i64 n] ∧ Blk qw1.heap.size x (cnCells { F with pa := some ⟨q, 0, none⟩, pc := p }) ∧ Blk qw4.heap.size x (cnCells { T with pa := some ⟨q2, 0, none⟩, pc := p2 }) ∧ Blk qw7.heap.size x (if f 5 then #[.int .i64 r, .string d, .bool e, .int .i64 n] else #[.int .i64 0, .string ByteArray.empty, .bool false, .int .i64 0]) ∧ ((f 6 = false → Blk qw10.heap.size x (cnCells cnZero)) ∧ (f 6 = true → f 2 = true ∧ ∃ cs, vals 2 = .agg cs ∧ Blk qw10.heap.size x cs)) ∧ ((f 7 = false → Blk qw13.heap.size x (cnCells cnZero)) ∧ (f 7 = true → f 4 = true ∧ ∃ cs, vals 4 = .agg cs ∧ Blk qw13.heap.size x cs)) ∧ Blk qw19.heap.size x #[.int .i64 r, .string d, .bool e, .int .i64 n] ∧ (f 4 = true → f 2 = true ∧ ∀ g cp g2 cp2, vals 2 = .agg (cnCells { F with pa := some ⟨g, 0, none⟩, pc := cp }) → vals 4 = .agg (cnCells { T with pa := some ⟨g2, 0, none⟩, pc := cp2 }) → g ≠ g2) ∧ qw31.heap.size ≤ x.heap.size ∧ Since w x) (fun v => { tmps := #[.agg #[.int .i64 r, .string d, .bool e, .int .i64 n], .agg (cnCells { F with pa := some ⟨q, 0, none⟩, pc := p }), .agg (cnCells { T with pa := some ⟨q2, 0, none⟩, pc := p2 }), .pointer (some ⟨w.heap.size, 0, none⟩), .pointer (some ⟨qw1.heap.size, 0, none⟩), .pointer (some ⟨qw4.heap.size, 0, none⟩), .pointer (some ⟨qw7.heap.size, 0, none⟩), .pointer (some ⟨qw10.heap.size, 0, none⟩), .pointer (some ⟨qw13.heap.size, 0, none⟩), .pointer (some ⟨qw19.heap.size, 0, none⟩), .agg #[.int .i64 r, .string d, .bool e, .int .i64 n], .agg #[.int .i64 r, .string d, .bool e, .int .i64 n], .agg #[.int .i64 r, .string d, .bool e, .int .i64 n], .bool true, .bool false, .bool false, .agg (cnCells { F with pa := some ⟨q, 0, none⟩, pc := p }), .bool true, .bool false, .bool false, .bool false, .agg (cnCells { T with pa := some ⟨q2, 0, none⟩, pc := p2 }), .bool false, .bool true, .bool true, v 0, v 1, v 2, v 3, v 4, undef, undef, undef, undef, undef, undef, undef, undef, undef], defers := [] }) (by kernel_rfl) (by kernel_rfl) ?_ ?_ (fun vals => by kernel_rfl) ?_ ?_
    case refine_1 =>
      intro j x y v hl hv
      match j, hv with
      | 0, hv | 1, hv | 3, hv => exact hv
      | 5, hv | 6, hv | 7, hv => trivial
      | 2, ⟨g, cp, e, H⟩ =>
        obtain ⟨b, hb, t⟩ := hl
        replace hb : b < qw31.heap.size := hb
        exact ⟨g, cp, e, H.touch t (by have := H.low'; omega)⟩
      | 4, ⟨g2, cp2, e, H2⟩ =>
        obtain ⟨b, hb, t⟩ := hl
        replace hb : b < qw31.heap.size := hb
        exact ⟨g2, cp2, e, H2.touch t (by have := H2.low'; omega)⟩
      | n + 8, _ => trivial
    case refine_2 =>
      intro f vals hf
      refine ⟨qB2.since ((Since.refl _).drew), qB5.since ((Since.refl _).drew), qB8.since ((Since.refl _).drew), (by rw [hf 5]; exact qB11.since ((Since.refl _).drew)), ⟨fun _ => qB14.since ((Since.refl _).drew), fun h => by rw [hf 6] at h; cases h⟩, ⟨fun _ => qB17.since ((Since.refl _).drew), fun h => by rw [hf 7] at h; cases h⟩, qB26.since ((Since.refl _).drew), (fun h => by rw [hf 4] at h; cases h), ((Since.refl _).drew).size, G.trans ((Since.refl _).drew)⟩
    case refine_3 =>
      repeat (first | exact eachLow_nil | refine eachLow_cons ?_ ?_)
      all_goals intro f vals x hf hr hK
      all_goals obtain ⟨k0, k1, k2, k3, k4, k5, k6, k7, k8, k9⟩ := hK
      · obtain ⟨fj, g2, cp2, ev, H2⟩ := hr ⟨4, .data⟩ (by simp) rfl
        have kz := k5.1 hf
        refine does_store cn_big (cn_size _) (Raw.of kz (cn_size _)) (cn_one _) _ _ rfl rfl ev ?_
        intro z t B
        exact ⟨Low.touch t (show qw13.heap.size < qw31.heap.size by omega), ⟨k0.touch t (by omega), k1.touch t (by omega), k2.touch t (by omega), k3.touch t (by omega), ⟨fun h => (k4.1 h).touch t (by omega), fun h => ⟨(k4.2 h).1, by obtain ⟨cs, e, B⟩ := (k4.2 h).2; exact ⟨cs, e, B.touch t (by omega)⟩⟩⟩, ⟨fun h => absurd h (by simp [andDone]), fun _ => ⟨fj, _, ev, B⟩⟩, k6.touch t (by omega), k7, Nat.le_trans k8 t.size, since_touch k9 t (by omega)⟩, trivial⟩
      · obtain ⟨fj, g, cp, ev, H⟩ := hr ⟨2, .data⟩ (by simp) rfl
        have kz := k4.1 hf
        refine does_store cn_big (cn_size _) (Raw.of kz (cn_size _)) (cn_one _) _ _ rfl rfl ev ?_
        intro z t B
        exact ⟨Low.touch t (show qw10.heap.size < qw31.heap.size by omega), ⟨k0.touch t (by omega), k1.touch t (by omega), k2.touch t (by omega), k3.touch t (by omega), ⟨fun h => absurd h (by simp [andDone]), fun _ => ⟨fj, _, ev, B⟩⟩, ⟨fun h => (k5.1 h).touch t (by omega), fun h => ⟨(k5.2 h).1, by obtain ⟨cs, e, B⟩ := (k5.2 h).2; exact ⟨cs, e, B.touch t (by omega)⟩⟩⟩, k6.touch t (by omega), k7, Nat.le_trans k8 t.size, since_touch k9 t (by omega)⟩, trivial⟩
      · have ev : vals 0 = .agg #[.int .i64 r, .string d, .bool e, .int .i64 n] := (hr ⟨0, .data⟩ (by simp) rfl).2
        have kz : Blk qw7.heap.size x #[.int .i64 0, .string ByteArray.empty, .bool false, .int .i64 0] := by have := k3; rw [hf] at this; exact this
        refine does_store pp_big rfl (Raw.of kz rfl) (by simp [Value.oneCell']) _ _ rfl rfl ev ?_
        intro z t B
        exact ⟨Low.touch t (show qw7.heap.size < qw31.heap.size by omega), ⟨k0.touch t (by omega), k1.touch t (by omega), k2.touch t (by omega), B, ⟨fun h => (k4.1 h).touch t (by omega), fun h => ⟨(k4.2 h).1, by obtain ⟨cs, e, B⟩ := (k4.2 h).2; exact ⟨cs, e, B.touch t (by omega)⟩⟩⟩, ⟨fun h => (k5.1 h).touch t (by omega), fun h => ⟨(k5.2 h).1, by obtain ⟨cs, e, B⟩ := (k5.2 h).2; exact ⟨cs, e, B.touch t (by omega)⟩⟩⟩, k6.touch t (by omega), k7, Nat.le_trans k8 t.size, since_touch k9 t (by omega)⟩, trivial⟩
      · skip
        have e3 : vals 3 = .agg (cnCells { T with pa := some ⟨q2, 0, none⟩, pc := p2 }) := (hr ⟨3, .data⟩ (by simp) rfl).2
        simp [does, doesUpon, go_sem, e3]
        refine (hcT _ (R2.since k9)).mono ?_
        rintro _ x' ⟨g2, cp2, rfl, H2, h1⟩
        have xs := h1.size
        exact ⟨_, rfl, Low.since (b := 0) h1 (hN0), ⟨k0.since h1, k1.since h1, k2.since h1, k3.since h1, ⟨fun h => (k4.1 h).since h1, fun h => ⟨(k4.2 h).1, by obtain ⟨cs, e, B⟩ := (k4.2 h).2; exact ⟨cs, e, B.since h1⟩⟩⟩, ⟨fun h => (k5.1 h).since h1, fun h => absurd (k5.2 h).1 (by rw [hf]; decide)⟩, k6.since h1, (fun _ => ⟨(hr ⟨2, .chain⟩ (by simp) rfl).1, fun g0 cp0 g20 cp20 h20 h40 => by obtain ⟨-, g1, cp1, e1, H1⟩ := hr ⟨2, .chain⟩ (by simp) rfl; have i1 := end_inj (e1.symm.trans h20); have i2 := end_inj h40; have := H1.lt; have := H2.low'; omega⟩), Nat.le_trans k8 h1.size, k9.trans h1⟩, g2, cp2, rfl, H2.raise (by have := H2.low'; omega)⟩
      · exact does_load cn_big (cn_size _) k2 _ rfl rfl ⟨Low.since (b := 0) (Since.refl _) (hN0), ⟨k0, k1, k2, k3, ⟨fun h => (k4.1 h), fun h => ⟨(k4.2 h).1, by obtain ⟨cs, e, B⟩ := (k4.2 h).2; exact ⟨cs, e, B⟩⟩⟩, ⟨fun h => (k5.1 h), fun h => ⟨(k5.2 h).1, by obtain ⟨cs, e, B⟩ := (k5.2 h).2; exact ⟨cs, e, B⟩⟩⟩, k6, k7, k8, k9⟩, rfl⟩
      · skip
        have e1 : vals 1 = .agg (cnCells { F with pa := some ⟨q, 0, none⟩, pc := p }) := (hr ⟨1, .data⟩ (by simp) rfl).2
        simp [does, doesUpon, go_sem, e1]
        refine (hcF _ (R.since k9)).mono ?_
        rintro _ x' ⟨g, cp, rfl, H, h1⟩
        have xs := h1.size
        exact ⟨_, rfl, Low.since (b := 0) h1 (hN0), ⟨k0.since h1, k1.since h1, k2.since h1, k3.since h1, ⟨fun h => (k4.1 h).since h1, fun h => absurd (k4.2 h).1 (by rw [hf]; decide)⟩, ⟨fun h => (k5.1 h).since h1, fun h => ⟨(k5.2 h).1, by obtain ⟨cs, e, B⟩ := (k5.2 h).2; exact ⟨cs, e, B.since h1⟩⟩⟩, k6.since h1, (fun h => absurd (k7 h).1 (by rw [hf]; decide)), Nat.le_trans k8 h1.size, k9.trans h1⟩, g, cp, rfl, H.raise (by have := H.low'; omega)⟩
      · exact does_load cn_big (cn_size _) k1 _ rfl rfl ⟨Low.since (b := 0) (Since.refl _) (hN0), ⟨k0, k1, k2, k3, ⟨fun h => (k4.1 h), fun h => ⟨(k4.2 h).1, by obtain ⟨cs, e, B⟩ := (k4.2 h).2; exact ⟨cs, e, B⟩⟩⟩, ⟨fun h => (k5.1 h), fun h => ⟨(k5.2 h).1, by obtain ⟨cs, e, B⟩ := (k5.2 h).2; exact ⟨cs, e, B⟩⟩⟩, k6, k7, k8, k9⟩, rfl⟩
      · skip
        simp [does, doesUpon, go_sem]
        refine (condPipe r d e n qw19.heap.size _ k6).mono ?_
        rintro _ x' ⟨rfl, h1⟩
        exact ⟨_, rfl, Low.since (b := 0) h1 (hN0), ⟨k0.since h1, k1.since h1, k2.since h1, k3.since h1, ⟨fun h => (k4.1 h).since h1, fun h => ⟨(k4.2 h).1, by obtain ⟨cs, e, B⟩ := (k4.2 h).2; exact ⟨cs, e, B.since h1⟩⟩⟩, ⟨fun h => (k5.1 h).since h1, fun h => ⟨(k5.2 h).1, by obtain ⟨cs, e, B⟩ := (k5.2 h).2; exact ⟨cs, e, B.since h1⟩⟩⟩, k6.since h1, k7, Nat.le_trans k8 h1.size, k9.trans h1⟩, rfl⟩
    case refine_4 =>
      intro f qv34 qw33 hK hf hv
      obtain ⟨k0, k1, k2, k3, k4, k5, k6, k7, k8, k9⟩ := hK
      clear qB2 qB5 qB8 qB11 qB14 qB17 qB26 G
      have hv0 : qv34 0 = _ := hv 0 (by decide)
      have hv1 : qv34 1 = _ := hv 1 (by decide)
      obtain ⟨g, cp, hv2, H⟩ := hv 2 (by decide)
      have hv3 : qv34 3 = _ := hv 3 (by decide)
      obtain ⟨g2, cp2, hv4, H2⟩ := hv 4 (by decide)
      clear hv
      have hne := (k7 (hf 4 (by decide))).2 _ _ _ _ hv2 hv4
      clear k7
      obtain ⟨-, cs, ec, qB14⟩ := k4.2 (hf 6 (by decide))
      rw [hv2] at ec
      obtain rfl := Value.agg.inj ec
      clear ec k4
      obtain ⟨-, cs, ec, qB17⟩ := k5.2 (hf 7 (by decide))
      rw [hv4] at ec
      obtain rfl := Value.agg.inj ec
      clear ec k5
      simp only [hv0, hv1, hv2, hv3, hv4]
      clear hv0 hv1 hv2 hv3 hv4
      have qB2 := k0
      clear k0
      have qB5 := k1
      clear k1
      have qB8 := k2
      clear k2
      have qB11 : Blk qw7.heap.size qw33 #[.int .i64 r, .string d, .bool e, .int .i64 n] := by have := k3; rw [hf 5 (by decide)] at this; exact this
      clear k3
      have qB26 := k6
      clear k6
      have G := k9
      clear k9
      have qw33_l := qB26.lt
      have qw33_n := k8
      clear k8
      go_wp2_with (fail)
      exact bodyPost_ret (results_3 (hs := rfl) (t := 6) (u := 7) (v := 8) rfl _ rfl rfl rfl qB11 qB14 qB17) rfl ⟨_, _, _, _, by rw [eX.out, eE.out, eC.out, eF.out, eT.out], H.raise (by have := H.low'; omega), H2.raise (by have := H2.low'; omega), by omega, G⟩
  case true =>
    have hmk : Hid (mvOk r d n F ps T qs = true) := (by unfold mvOk; rw [← hb1.out, ← hb2.out, ← hb3.out]; rfl : mvOk r d n F ps T qs = true)
    have hpk := (pipeOk_iff r d n).1 hb1.out.symm
    have hrd : IsInt (r - d.size) := by unfold IsInt; omega
    have ewr : IntKind.i64.wrap (r - (d.size : Int)) = r - (d.size : Int) := by rw [IntWalk.i64_left]; exact IntWalk.wrap64_in _ ⟨by omega, by omega⟩
    have hSz := readS_size F ps (r - d.size)
    have hD1 : (gotD r d F ps).size ≤ 1048576 := gotD_size F ps (by omega)
    have hM := writeM_le T qs (gotD r d F ps)
    obtain ⟨F1, hF1⟩ : ∃ x, Hid (x = readC F ps (r - d.size)) := ⟨_, rfl⟩
    obtain ⟨S1, hS1⟩ : ∃ x, Hid (x = readS F ps (r - d.size)) := ⟨_, rfl⟩
    obtain ⟨D1, hD1e⟩ : ∃ x, Hid (x = gotD r d F ps) := ⟨_, rfl⟩
    rw [← hD1e.out] at hD1 hM
    obtain ⟨T1, hT1⟩ : ∃ x, Hid (x = writeC T qs D1) := ⟨_, rfl⟩
    obtain ⟨M, hMe⟩ : ∃ x, Hid (x = writeM T qs D1) := ⟨_, rfl⟩
    rw [← hMe.out] at hM
    have eD : Hid (d ++ S1 = D1) := (by rw [hD1e.out, hS1.out]; rfl : d ++ S1 = D1)
    rw [← hS1.out] at hSz
    have ewn : IntKind.i64.wrap (n + (M : Int)) = n + (M : Int) := by rw [IntWalk.i64_left]; exact IntWalk.wrap64_in _ ⟨by omega, by omega⟩
    have gT1 : GoodC T1 qs := by rw [hT1.out]; exact good_write gT _
    have pT1 : T1.pn = T.pn := by rw [hT1.out]; exact write_pn _ _ _
    have pF1 : F1.pn = F.pn := by rw [hF1.out]; exact read_pn _ _ _
    replace pF1 : Hid _ := pF1
    obtain ⟨c1, hc1⟩ : ∃ b, Hid (b = emp F1.iD) := ⟨_, rfl⟩
    obtain ⟨D2, hD2⟩ : ∃ x, Hid (x = D1.extract M D1.size) := ⟨_, rfl⟩
    obtain ⟨c2, hc2⟩ : ∃ b, Hid (b = emp D2) := ⟨_, rfl⟩
    have eL : Hid (leftD r d F ps T qs = D2) := (by unfold leftD; rw [← hD1e.out, ← hMe.out, hD2.out] : leftD r d F ps T qs = D2)
    have eC : Hid (capP n M = xN) := (by rw [hxN.out]; unfold mvN; rw [hmk.out, hMe.out, hD1e.out]; rfl : capP n M = xN)
    have eF : Hid (xF = F1) := (by rw [hxF.out, hF1.out]; unfold mvF; rw [hmk.out]; rfl : xF = F1)
    have eX : Hid (xD = D2) := (by rw [hxD.out]; unfold mvD; rw [hmk.out, ← eL.out]; rfl : xD = D2)
    obtain ⟨T2, hT2⟩ : ∃ x, Hid (x = shutT xE D2 T1 qs) := ⟨_, rfl⟩
    have eE : Hid (xE = if F1.gfn && emp F1.iD then true else e) := (by rw [hxE.out]; unfold mvE; rw [hmk.out]; show endE r d e F ps = _; unfold endE; rw [← hF1.out] : xE = if F1.gfn && emp F1.iD then true else e)
    have eT : Hid (xT = T2) := (by rw [hxT.out]; unfold mvT; rw [hmk.out]; show shutT (endE r d e F ps) (leftD r d F ps T qs) (writeC T qs (gotD r d F ps)) qs = _; have e1 : endE r d e F ps = xE := (by rw [hxE.out]; unfold mvE; rw [hmk.out]; rfl); rw [e1, eL.out, ← hD1e.out, ← hT1.out]; exact hT2.out.symm : xT = T2)
    have hmv := fun c wx Cx Rx Ry => condMove r d e n (by omega) (by omega) (by omega) gF gT F1 hF1.out S1 hS1.out D1 eD.out T1 hT1.out M hMe.out D2 hD2.out xE eE.out T2 hT2.out q p q2 p2 c wx Cx Rx Ry
    rw [eC.out] at hmv
    refine vR ?_
    refine vB pp_big qB2 rfl ?_
    refine vK (hk1 _) ?_
    intro qw27 qg28
    replace qB2 := qB2.since qg28
    replace qB5 := qB5.since qg28
    replace qB8 := qB8.since qg28
    replace qB11 := qB11.since qg28
    replace qB14 := qB14.since qg28
    replace qB17 := qB17.since qg28
    replace qB26 := qB26.since qg28
    replace G := G.trans qg28
    have qg28_s := qg28.size
    refine vV (.bool false) ?_
    refine vV (.bool false) ?_
    refine vB cn_big qB5 (cn_size _) ?_
    refine vK (hk2 _ (R.since G)) ?_
    intro qw29 qg30
    replace qB2 := qB2.since qg30
    replace qB5 := qB5.since qg30
    replace qB8 := qB8.since qg30
    replace qB11 := qB11.since qg30
    replace qB14 := qB14.since qg30
    replace qB17 := qB17.since qg30
    replace qB26 := qB26.since qg30
    replace G := G.trans qg30
    have qg30_s := qg30.size
    refine vV (.bool false) ?_
    refine vV (.bool false) ?_
    refine vV (.bool false) ?_
    refine vB cn_big qB8 (cn_size _) ?_
    refine vK (hk3 _ (R2.since G)) ?_
    intro qw31 qg32
    replace qB2 := qB2.since qg32
    replace qB5 := qB5.since qg32
    replace qB8 := qB8.since qg32
    replace qB11 := qB11.since qg32
    replace qB14 := qB14.since qg32
    replace qB17 := qB17.since qg32
    replace qB26 := qB26.since qg32
    replace G := G.trans qg32
    have qg32_s := qg32.size
    refine vV (.bool false) ?_
    refine vV (.bool false) ?_
    refine vE #[.agg #[.int .i64 r, .string d, .bool e, .int .i64 n], .agg (cnCells { F with pa := some ⟨q, 0, none⟩, pc := p }), .agg (cnCells { T with pa := some ⟨q2, 0, none⟩, pc := p2 }), .pointer (some ⟨w.heap.size, 0, none⟩), .pointer (some ⟨qw1.heap.size, 0, none⟩), .pointer (some ⟨qw4.heap.size, 0, none⟩), .pointer (some ⟨qw7.heap.size, 0, none⟩), .pointer (some ⟨qw10.heap.size, 0, none⟩), .pointer (some ⟨qw13.heap.size, 0, none⟩), .pointer (some ⟨qw19.heap.size, 0, none⟩), .agg #[.int .i64 r, .string d, .bool e, .int .i64 n], .agg #[.int .i64 r, .string d, .bool e, .int .i64 n], .agg #[.int .i64 r, .string d, .bool e, .int .i64 n], .bool true, .bool false, .bool false, .agg (cnCells { F with pa := some ⟨q, 0, none⟩, pc := p }), .bool true, .bool false, .bool false, .bool false, .agg (cnCells { T with pa := some ⟨q2, 0, none⟩, pc := p2 }), .bool true, .bool false, .bool false, undef, undef, undef, undef, undef, undef, undef, undef, undef, undef, undef, undef, undef, undef] ?_
    go_upto_region 4 with (fail)
    refine vR ?_
    refine vB cn_big qB5 (cn_size _) ?_
    refine vB cn_big qB8 (cn_size _) ?_
    refine vC (hmv qw19.heap.size _ qB26 (R.since G) (fun x t => R2.since (since_touch G t (by omega)))) ?_
    rintro _ qw33 ⟨g3, cp3, g4, cp4, rfl, H3, H4, hne, qt34, qB35⟩
    refine ⟨_, rfl, ?_⟩
    clear qB26
    replace qB2 := qB2.touch qt34 (by omega)
    replace qB5 := qB5.touch qt34 (by omega)
    replace qB8 := qB8.touch qt34 (by omega)
    replace qB11 := qB11.touch qt34 (by omega)
    replace qB14 := qB14.touch qt34 (by omega)
    replace qB17 := qB17.touch qt34 (by omega)
    replace G := since_touch G qt34 (by omega)
    have qt34_s := qt34.size
    have H3_0 := H3.low'
    replace H3 := H3.raise (show w.heap.size ≤ g3 by omega)
    have H3_1 := H3.lt
    have H4_0 := H4.low'
    replace H4 := H4.raise (show w.heap.size ≤ g4 by omega)
    have H4_1 := H4.lt
    refine vV (.tuple #[.agg (cnCells { F1 with pa := some ⟨g3, 0, none⟩, pc := cp3 }), .agg (cnCells { T2 with pa := some ⟨g4, 0, none⟩, pc := cp4 })]) ?_
    refine vV (.agg (cnCells { F1 with pa := some ⟨g3, 0, none⟩, pc := cp3 })) ?_
    refine vV (.agg (cnCells { T2 with pa := some ⟨g4, 0, none⟩, pc := cp4 })) ?_
    refine sB (cnCells { F1 with pa := some ⟨g3, 0, none⟩, pc := cp3 }) cn_big qB5 (cn_size _) (cn_size _) (cn_one _) ?_
    intro qw36 qt37 qB38
    clear qB5
    replace qB2 := qB2.touch qt37 (by omega)
    replace qB8 := qB8.touch qt37 (by omega)
    replace qB11 := qB11.touch qt37 (by omega)
    replace qB14 := qB14.touch qt37 (by omega)
    replace qB17 := qB17.touch qt37 (by omega)
    replace qB35 := qB35.touch qt37 (by omega)
    replace H3 := H3.touch qt37 (by omega)
    replace H4 := H4.touch qt37 (by omega)
    replace G := since_touch G qt37 (by omega)
    have qt37_s := qt37.size
    refine sB (cnCells { T2 with pa := some ⟨g4, 0, none⟩, pc := cp4 }) cn_big qB8 (cn_size _) (cn_size _) (cn_one _) ?_
    intro qw39 qt40 qB41
    clear qB8
    replace qB2 := qB2.touch qt40 (by omega)
    replace qB38 := qB38.touch qt40 (by omega)
    replace qB11 := qB11.touch qt40 (by omega)
    replace qB14 := qB14.touch qt40 (by omega)
    replace qB17 := qB17.touch qt40 (by omega)
    replace qB35 := qB35.touch qt40 (by omega)
    replace H3 := H3.touch qt40 (by omega)
    replace H4 := H4.touch qt40 (by omega)
    replace G := since_touch G qt40 (by omega)
    have qt40_s := qt40.size
    refine vE #[.agg #[.int .i64 r, .string d, .bool e, .int .i64 n], .agg (cnCells { F with pa := some ⟨q, 0, none⟩, pc := p }), .agg (cnCells { T with pa := some ⟨q2, 0, none⟩, pc := p2 }), .pointer (some ⟨w.heap.size, 0, none⟩), .pointer (some ⟨qw1.heap.size, 0, none⟩), .pointer (some ⟨qw4.heap.size, 0, none⟩), .pointer (some ⟨qw7.heap.size, 0, none⟩), .pointer (some ⟨qw10.heap.size, 0, none⟩), .pointer (some ⟨qw13.heap.size, 0, none⟩), .pointer (some ⟨qw19.heap.size, 0, none⟩), .agg #[.int .i64 r, .string d, .bool e, .int .i64 n], .agg #[.int .i64 r, .string d, .bool e, .int .i64 n], .agg #[.int .i64 r, .string d, .bool e, .int .i64 n], .bool true, .bool false, .bool false, .agg (cnCells { F with pa := some ⟨q, 0, none⟩, pc := p }), .bool true, .bool false, .bool false, .bool false, .agg (cnCells { T with pa := some ⟨q2, 0, none⟩, pc := p2 }), .bool true, .bool false, .bool false, undef, undef, undef, undef, undef, .tuple #[.agg (cnCells { F1 with pa := some ⟨g3, 0, none⟩, pc := cp3 }), .agg (cnCells { T2 with pa := some ⟨g4, 0, none⟩, pc := cp4 })], .agg (cnCells { F with pa := some ⟨q, 0, none⟩, pc := p }), .agg (cnCells { T with pa := some ⟨q2, 0, none⟩, pc := p2 }), .tuple #[.agg (cnCells { F1 with pa := some ⟨g3, 0, none⟩, pc := cp3 }), .agg (cnCells { T2 with pa := some ⟨g4, 0, none⟩, pc := cp4 })], .agg (cnCells { F1 with pa := some ⟨g3, 0, none⟩, pc := cp3 }), .agg (cnCells { T2 with pa := some ⟨g4, 0, none⟩, pc := cp4 }), undef, undef, undef] ?_
    go_upto_region 5 with (fail)
    have hN0 : 0 < qw39.heap.size := by have := qB2.lt; omega
    refine wp_region_low (Low (fun b => b < qw39.heap.size)) (fun i x v => match i with
        | 0 => v = .agg #[.int .i64 r, .string D2, .bool xE, .int .i64 xN]
        | 1 => v = .agg (cnCells { F1 with pa := some ⟨g3, 0, none⟩, pc := cp3 })
        | 2 => v = .agg (cnCells { T2 with pa := some ⟨g4, 0, none⟩, pc := cp4 })
        | 3 => True
        | 4 => True
        | 5 => True
        | _ => True) (fun f vals x => Blk w.heap.size x #[.int .i64 r, .string d, .bool e, .int .i64 n] ∧ Blk qw1.heap.size x (cnCells { F1 with pa := some ⟨g3, 0, none⟩, pc := cp3 }) ∧ Blk qw4.heap.size x (cnCells { T2 with pa := some ⟨g4, 0, none⟩, pc := cp4 }) ∧ Blk qw7.heap.size x (if f 3 then #[.int .i64 r, .string D2, .bool xE, .int .i64 xN] else #[.int .i64 0, .string ByteArray.empty, .bool false, .int .i64 0]) ∧ Blk qw10.heap.size x (if f 4 then (cnCells { F1 with pa := some ⟨g3, 0, none⟩, pc := cp3 }) else (cnCells cnZero)) ∧ Blk qw13.heap.size x (if f 5 then (cnCells { T2 with pa := some ⟨g4, 0, none⟩, pc := cp4 }) else (cnCells cnZero)) ∧ Blk qw19.heap.size x #[.int .i64 r, .string D2, .bool xE, .int .i64 xN] ∧ Held shP x w.heap.size g3 F.pn cp3 ps ∧ Held shP x w.heap.size g4 T.pn cp4 qs ∧ qw39.heap.size ≤ x.heap.size ∧ Since w x) (fun v => { tmps := #[.agg #[.int .i64 r, .string d, .bool e, .int .i64 n], .agg (cnCells { F with pa := some ⟨q, 0, none⟩, pc := p }), .agg (cnCells { T with pa := some ⟨q2, 0, none⟩, pc := p2 }), .pointer (some ⟨w.heap.size, 0, none⟩), .pointer (some ⟨qw1.heap.size, 0, none⟩), .pointer (some ⟨qw4.heap.size, 0, none⟩), .pointer (some ⟨qw7.heap.size, 0, none⟩), .pointer (some ⟨qw10.heap.size, 0, none⟩), .pointer (some ⟨qw13.heap.size, 0, none⟩), .pointer (some ⟨qw19.heap.size, 0, none⟩), .agg #[.int .i64 r, .string d, .bool e, .int .i64 n], .agg #[.int .i64 r, .string d, .bool e, .int .i64 n], .agg #[.int .i64 r, .string d, .bool e, .int .i64 n], .bool true, .bool false, .bool false, .agg (cnCells { F with pa := some ⟨q, 0, none⟩, pc := p }), .bool true, .bool false, .bool false, .bool false, .agg (cnCells { T with pa := some ⟨q2, 0, none⟩, pc := p2 }), .bool true, .bool false, .bool false, undef, undef, undef, undef, undef, .tuple #[.agg (cnCells { F1 with pa := some ⟨g3, 0, none⟩, pc := cp3 }), .agg (cnCells { T2 with pa := some ⟨g4, 0, none⟩, pc := cp4 })], .agg (cnCells { F with pa := some ⟨q, 0, none⟩, pc := p }), .agg (cnCells { T with pa := some ⟨q2, 0, none⟩, pc := p2 }), .tuple #[.agg (cnCells { F1 with pa := some ⟨g3, 0, none⟩, pc := cp3 }), .agg (cnCells { T2 with pa := some ⟨g4, 0, none⟩, pc := cp4 })], .agg (cnCells { F1 with pa := some ⟨g3, 0, none⟩, pc := cp3 }), .agg (cnCells { T2 with pa := some ⟨g4, 0, none⟩, pc := cp4 }), v 0, v 1, v 2], defers := [] }) (by kernel_rfl) (by kernel_rfl) ?_ ?_ (fun vals => by kernel_rfl) ?_ ?_
    case refine_1 =>
      intro j x y v hl hv
      match j, hv with
      | 0, hv | 1, hv | 2, hv => exact hv
      | 3, hv | 4, hv | 5, hv => trivial
      | n + 6, _ => trivial
    case refine_2 =>
      intro f vals hf
      refine ⟨qB2.since ((Since.refl _).drew), qB38.since ((Since.refl _).drew), qB41.since ((Since.refl _).drew), (by rw [hf 3]; exact qB11.since ((Since.refl _).drew)), (by rw [hf 4]; exact qB14.since ((Since.refl _).drew)), (by rw [hf 5]; exact qB17.since ((Since.refl _).drew)), qB35.since ((Since.refl _).drew), H3.since ((Since.refl _).drew), H4.since ((Since.refl _).drew), ((Since.refl _).drew).size, G.trans ((Since.refl _).drew)⟩
    case refine_3 =>
      repeat (first | exact eachLow_nil | refine eachLow_cons ?_ ?_)
      all_goals intro f vals x hf hr hK
      all_goals obtain ⟨k0, k1, k2, k3, k4, k5, k6, k7, k8, k9, k10⟩ := hK
      · have ev : vals 2 = .agg (cnCells { T2 with pa := some ⟨g4, 0, none⟩, pc := cp4 }) := (hr ⟨2, .data⟩ (by simp) rfl).2
        have kz : Blk qw13.heap.size x (cnCells cnZero) := by have := k5; rw [hf] at this; exact this
        refine does_store cn_big (cn_size _) (Raw.of kz (cn_size _)) (cn_one _) _ _ rfl rfl ev ?_
        intro z t B
        exact ⟨Low.touch t (show qw13.heap.size < qw39.heap.size by omega), ⟨k0.touch t (by omega), k1.touch t (by omega), k2.touch t (by omega), k3.touch t (by omega), k4.touch t (by omega), B, k6.touch t (by omega), k7.touch t (by omega), k8.touch t (by omega), Nat.le_trans k9 t.size, since_touch k10 t (by omega)⟩, trivial⟩
      · have ev : vals 1 = .agg (cnCells { F1 with pa := some ⟨g3, 0, none⟩, pc := cp3 }) := (hr ⟨1, .data⟩ (by simp) rfl).2
        have kz : Blk qw10.heap.size x (cnCells cnZero) := by have := k4; rw [hf] at this; exact this
        refine does_store cn_big (cn_size _) (Raw.of kz (cn_size _)) (cn_one _) _ _ rfl rfl ev ?_
        intro z t B
        exact ⟨Low.touch t (show qw10.heap.size < qw39.heap.size by omega), ⟨k0.touch t (by omega), k1.touch t (by omega), k2.touch t (by omega), k3.touch t (by omega), B, k5.touch t (by omega), k6.touch t (by omega), k7.touch t (by omega), k8.touch t (by omega), Nat.le_trans k9 t.size, since_touch k10 t (by omega)⟩, trivial⟩
      · have ev : vals 0 = .agg #[.int .i64 r, .string D2, .bool xE, .int .i64 xN] := (hr ⟨0, .data⟩ (by simp) rfl).2
        have kz : Blk qw7.heap.size x #[.int .i64 0, .string ByteArray.empty, .bool false, .int .i64 0] := by have := k3; rw [hf] at this; exact this
        refine does_store pp_big rfl (Raw.of kz rfl) (by simp [Value.oneCell']) _ _ rfl rfl ev ?_
        intro z t B
        exact ⟨Low.touch t (show qw7.heap.size < qw39.heap.size by omega), ⟨k0.touch t (by omega), k1.touch t (by omega), k2.touch t (by omega), B, k4.touch t (by omega), k5.touch t (by omega), k6.touch t (by omega), k7.touch t (by omega), k8.touch t (by omega), Nat.le_trans k9 t.size, since_touch k10 t (by omega)⟩, trivial⟩
      · exact does_load cn_big (cn_size _) k2 _ rfl rfl ⟨Low.since (b := 0) (Since.refl _) (hN0), ⟨k0, k1, k2, k3, k4, k5, k6, k7, k8, k9, k10⟩, rfl⟩
      · exact does_load cn_big (cn_size _) k1 _ rfl rfl ⟨Low.since (b := 0) (Since.refl _) (hN0), ⟨k0, k1, k2, k3, k4, k5, k6, k7, k8, k9, k10⟩, rfl⟩
      · skip
        simp [does, doesUpon, go_sem]
        refine (condPipe r D2 xE xN qw19.heap.size _ k6).mono ?_
        rintro _ x' ⟨rfl, h1⟩
        exact ⟨_, rfl, Low.since (b := 0) h1 (hN0), ⟨k0.since h1, k1.since h1, k2.since h1, k3.since h1, k4.since h1, k5.since h1, k6.since h1, k7.since h1, k8.since h1, Nat.le_trans k9 h1.size, k10.trans h1⟩, rfl⟩
    case refine_4 =>
      intro f qv43 qw42 hK hf hv
      obtain ⟨k0, k1, k2, k3, k4, k5, k6, k7, k8, k9, k10⟩ := hK
      clear qB2 qB38 qB41 qB11 qB14 qB17 qB35 H3 H4 G
      have hv0 : qv43 0 = _ := hv 0 (by decide)
      have hv1 : qv43 1 = _ := hv 1 (by decide)
      have hv2 : qv43 2 = _ := hv 2 (by decide)
      clear hv
      simp only [hv0, hv1, hv2]
      clear hv0 hv1 hv2
      have qB2 := k0
      clear k0
      have qB38 := k1
      clear k1
      have qB41 := k2
      clear k2
      have qB11 : Blk qw7.heap.size qw42 #[.int .i64 r, .string D2, .bool xE, .int .i64 xN] := by have := k3; rw [hf 3 (by decide)] at this; exact this
      clear k3
      have qB14 : Blk qw10.heap.size qw42 (cnCells { F1 with pa := some ⟨g3, 0, none⟩, pc := cp3 }) := by have := k4; rw [hf 4 (by decide)] at this; exact this
      clear k4
      have qB17 : Blk qw13.heap.size qw42 (cnCells { T2 with pa := some ⟨g4, 0, none⟩, pc := cp4 }) := by have := k5; rw [hf 5 (by decide)] at this; exact this
      clear k5
      have qB35 := k6
      clear k6
      have H3 := k7
      clear k7
      have H4 := k8
      clear k8
      have G := k10
      clear k10
      have qw42_l := qB35.lt
      have qw42_n := k9
      clear k9
      go_wp2_with (fail)
      exact bodyPost_ret (results_3 (hs := rfl) (t := 6) (u := 7) (v := 8) rfl _ rfl rfl rfl qB11 qB14 qB17) rfl ⟨_, _, _, _, by rw [eX.out, eF.out, eT.out], H3, H4, by omega, G⟩
end Go.Proofs.YtipaaddjpmlajaaGreat
