/-
  The cells of an end within a greater struct that came in, opened.
-/
import Derived.Test.YtpkenhcglnognaaOpenConn
import Derived.Deep.DeepCutAuto
namespace Go.Proofs.Ytpkenhcglnognaa
open Go.ChangeShapes Go.WideShapes Go.ChangeAt Go.RowKit
set_option linter.unusedVariables false
set_option maxRecDepth 10000
open Go.Deep
set_option linter.unusedSimpArgs false

set_option maxRecDepth 20000 in
set_option maxHeartbeats 8000000 in
theorem open_connL {H : Type} {enc : TypeId × Value → H} {W : World} {fuel : Nat} {l : List Value} {x : DataW H × List MemPlace} (hsz : l.length = 37) (hf : DataW.trod enc Try.prog W 0 (fun _ => true) true fuel 79 l = some x) :
    ∃ (c : Cn) (ps : List (Int × ByteArray)), l = (cnCells c).toList ∧ Rd shP W c.pa c.pn ps ∧ WfC c ps := by
  obtain ⟨ys, n, _, hx, _, hlen, hg⟩ := DataW.trod_struct Try.underlying79 hf
  clear hx hf
  have z1 : Try.prog.cellsOf 3 = 1 := by kernel_rfl
  have z2 : Try.prog.cellsOf 22 = 1 := by kernel_rfl
  have z3 : Try.prog.cellsOf 9 = 1 := by kernel_rfl
  have z4 : Try.prog.cellsOf 4 = 1 := by kernel_rfl
  have z5 : Try.prog.cellsOf 73 = 1 := by kernel_rfl
  have z6 : Try.prog.cellsOf 72 = 3 := by kernel_rfl
  have z7 : Try.prog.cellsOf 75 = 4 := by kernel_rfl
  have z8 : Try.prog.cellsOf 76 = 4 := by kernel_rfl
  have z9 : Try.prog.cellsOf 77 = 5 := by kernel_rfl
  match l, hsz with
  | u0 :: u1 :: u2 :: u3 :: u4 :: u5 :: u6 :: u7 :: u8 :: u9 :: u10 :: u11 :: u12 :: u13 :: u14 :: u15 :: u16 :: u17 :: u18 :: u19 :: u20 :: u21 :: u22 :: u23 :: u24 :: u25 :: u26 :: u27 :: u28 :: u29 :: u30 :: u31 :: u32 :: u33 :: u34 :: u35 :: u36 :: [], _ =>
    match ys, hlen with
    | y0 :: y1 :: y2 :: y3 :: y4 :: y5 :: y6 :: y7 :: y8 :: y9 :: y10 :: y11 :: y12 :: y13 :: y14 :: y15 :: y16 :: y17 :: y18 :: y19 :: y20 :: y21 :: y22 :: y23 :: y24 :: [], _ =>
      have g0 := hg 0 _ rfl
      simp [z1, z2, z3, z4, z5, z6, z7, z8, z9, Value.cells] at g0
      obtain ⟨x_st, e_st, _, w_st⟩ := DataW.trod_int Try.underlying3 g0
      simp only [List.cons.injEq, and_true] at e_st
      subst e_st
      have g1 := hg 1 _ rfl
      simp [z1, z2, z3, z4, z5, z6, z7, z8, z9, Value.cells] at g1
      obtain ⟨x_iss, e_iss, _, w_iss⟩ := DataW.trod_int Try.underlying22 g1
      simp only [List.cons.injEq, and_true] at e_iss
      subst e_iss
      have g2 := hg 2 _ rfl
      simp [z1, z2, z3, z4, z5, z6, z7, z8, z9, Value.cells] at g2
      obtain ⟨x_una, e_una, _, w_una⟩ := DataW.trod_int Try.underlying22 g2
      simp only [List.cons.injEq, and_true] at e_una
      subst e_una
      have g3 := hg 3 _ rfl
      simp [z1, z2, z3, z4, z5, z6, z7, z8, z9, Value.cells] at g3
      obtain ⟨x_nxt, e_nxt, _, w_nxt⟩ := DataW.trod_int Try.underlying22 g3
      simp only [List.cons.injEq, and_true] at e_nxt
      subst e_nxt
      have g4 := hg 4 _ rfl
      simp [z1, z2, z3, z4, z5, z6, z7, z8, z9, Value.cells] at g4
      obtain ⟨x_mx, e_mx, _, w_mx⟩ := DataW.trod_int Try.underlying22 g4
      simp only [List.cons.injEq, and_true] at e_mx
      subst e_mx
      have g5 := hg 5 _ rfl
      simp [z1, z2, z3, z4, z5, z6, z7, z8, z9, Value.cells] at g5
      obtain ⟨x_wnd, e_wnd, _, w_wnd⟩ := DataW.trod_int Try.underlying3 g5
      simp only [List.cons.injEq, and_true] at e_wnd
      subst e_wnd
      have g6 := hg 6 _ rfl
      simp [z1, z2, z3, z4, z5, z6, z7, z8, z9, Value.cells] at g6
      obtain ⟨x_wsq, e_wsq, _, w_wsq⟩ := DataW.trod_int Try.underlying22 g6
      simp only [List.cons.injEq, and_true] at e_wsq
      subst e_wsq
      have g7 := hg 7 _ rfl
      simp [z1, z2, z3, z4, z5, z6, z7, z8, z9, Value.cells] at g7
      obtain ⟨x_wak, e_wak, _, w_wak⟩ := DataW.trod_int Try.underlying22 g7
      simp only [List.cons.injEq, and_true] at e_wak
      subst e_wak
      have g8 := hg 8 _ rfl
      simp [z1, z2, z3, z4, z5, z6, z7, z8, z9, Value.cells] at g8
      obtain ⟨ys8, n8, _, _, _, hl8, hg8⟩ := DataW.trod_struct Try.underlying72 g8
      have k8_0 := hg8 0 _ rfl
      simp [z1, z2, z3, z4, z5] at k8_0
      obtain ⟨q8_0, hq8_0⟩ : ∃ q, ys8[0]? = some q := ⟨_, List.getElem?_eq_getElem (by rw [hl8]; decide)⟩
      rw [hq8_0] at k8_0
      obtain ⟨x_oF, e_oF, _, w_oF⟩ := DataW.trod_int Try.underlying22 k8_0
      simp only [List.cons.injEq, and_true] at e_oF
      subst e_oF
      have k8_1 := hg8 1 _ rfl
      simp [z1, z2, z3, z4, z5] at k8_1
      obtain ⟨q8_1, hq8_1⟩ : ∃ q, ys8[1]? = some q := ⟨_, List.getElem?_eq_getElem (by rw [hl8]; decide)⟩
      rw [hq8_1] at k8_1
      obtain ⟨x_oD, e_oD, _, w_oD⟩ := DataW.trod_string Try.underlying9 k8_1
      simp only [List.cons.injEq, and_true] at e_oD
      subst e_oD
      have k8_2 := hg8 2 _ rfl
      simp [z1, z2, z3, z4, z5] at k8_2
      obtain ⟨q8_2, hq8_2⟩ : ∃ q, ys8[2]? = some q := ⟨_, List.getElem?_eq_getElem (by rw [hl8]; decide)⟩
      rw [hq8_2] at k8_2
      obtain ⟨x_oR, e_oR, _, w_oR⟩ := DataW.trod_int Try.underlying3 k8_2
      simp only [List.cons.injEq, and_true] at e_oR
      subst e_oR
      have g9 := hg 9 _ rfl
      simp [z1, z2, z3, z4, z5, z6, z7, z8, z9, Value.cells] at g9
      obtain ⟨ys9, n9, _, _, _, hl9, hg9⟩ := DataW.trod_struct Try.underlying75 g9
      have k9_0 := hg9 0 _ rfl
      simp [z1, z2, z3, z4, z5] at k9_0
      obtain ⟨q9_0, hq9_0⟩ : ∃ q, ys9[0]? = some q := ⟨_, List.getElem?_eq_getElem (by rw [hl9]; decide)⟩
      rw [hq9_0] at k9_0
      obtain ⟨x_iN, e_iN, _, w_iN⟩ := DataW.trod_int Try.underlying22 k9_0
      simp only [List.cons.injEq, and_true] at e_iN
      subst e_iN
      have k9_1 := hg9 1 _ rfl
      simp [z1, z2, z3, z4, z5] at k9_1
      obtain ⟨q9_1, hq9_1⟩ : ∃ q, ys9[1]? = some q := ⟨_, List.getElem?_eq_getElem (by rw [hl9]; decide)⟩
      rw [hq9_1] at k9_1
      obtain ⟨x_iD, e_iD, _, w_iD⟩ := DataW.trod_string Try.underlying9 k9_1
      simp only [List.cons.injEq, and_true] at e_iD
      subst e_iD
      have k9_2 := hg9 2 _ rfl
      simp [z1, z2, z3, z4, z5] at k9_2
      obtain ⟨q9_2, hq9_2⟩ : ∃ q, ys9[2]? = some q := ⟨_, List.getElem?_eq_getElem (by rw [hl9]; decide)⟩
      rw [hq9_2] at k9_2
      obtain ⟨x_pa, x_pn, x_pc, ps, rfl, R, w_ps⟩ := open_parts k9_2
      have k9_3 := hg9 3 _ rfl
      simp [z1, z2, z3, z4, z5] at k9_3
      obtain ⟨q9_3, hq9_3⟩ : ∃ q, ys9[3]? = some q := ⟨_, List.getElem?_eq_getElem (by rw [hl9]; decide)⟩
      rw [hq9_3] at k9_3
      obtain ⟨x_iR, e_iR, _, w_iR⟩ := DataW.trod_int Try.underlying3 k9_3
      simp only [List.cons.injEq, and_true] at e_iR
      subst e_iR
      have g10 := hg 10 _ rfl
      simp [z1, z2, z3, z4, z5, z6, z7, z8, z9, Value.cells] at g10
      obtain ⟨x_fin, e_fin, _⟩ := DataW.trod_bool Try.underlying4 g10
      simp only [List.cons.injEq, and_true] at e_fin
      subst e_fin
      have g11 := hg 11 _ rfl
      simp [z1, z2, z3, z4, z5, z6, z7, z8, z9, Value.cells] at g11
      obtain ⟨x_fsn, e_fsn, _⟩ := DataW.trod_bool Try.underlying4 g11
      simp only [List.cons.injEq, and_true] at e_fsn
      subst e_fsn
      have g12 := hg 12 _ rfl
      simp [z1, z2, z3, z4, z5, z6, z7, z8, z9, Value.cells] at g12
      obtain ⟨x_fsq, e_fsq, _, w_fsq⟩ := DataW.trod_int Try.underlying22 g12
      simp only [List.cons.injEq, and_true] at e_fsq
      subst e_fsq
      have g13 := hg 13 _ rfl
      simp [z1, z2, z3, z4, z5, z6, z7, z8, z9, Value.cells] at g13
      obtain ⟨x_gfn, e_gfn, _⟩ := DataW.trod_bool Try.underlying4 g13
      simp only [List.cons.injEq, and_true] at e_gfn
      subst e_gfn
      have g14 := hg 14 _ rfl
      simp [z1, z2, z3, z4, z5, z6, z7, z8, z9, Value.cells] at g14
      obtain ⟨ys14, n14, _, _, _, hl14, hg14⟩ := DataW.trod_struct Try.underlying76 g14
      have k14_0 := hg14 0 _ rfl
      simp [z1, z2, z3, z4, z5] at k14_0
      obtain ⟨q14_0, hq14_0⟩ : ∃ q, ys14[0]? = some q := ⟨_, List.getElem?_eq_getElem (by rw [hl14]; decide)⟩
      rw [hq14_0] at k14_0
      obtain ⟨x_rA, e_rA, _⟩ := DataW.trod_bool Try.underlying4 k14_0
      simp only [List.cons.injEq, and_true] at e_rA
      subst e_rA
      have k14_1 := hg14 1 _ rfl
      simp [z1, z2, z3, z4, z5] at k14_1
      obtain ⟨q14_1, hq14_1⟩ : ∃ q, ys14[1]? = some q := ⟨_, List.getElem?_eq_getElem (by rw [hl14]; decide)⟩
      rw [hq14_1] at k14_1
      obtain ⟨x_rS, e_rS, _, w_rS⟩ := DataW.trod_int Try.underlying3 k14_1
      simp only [List.cons.injEq, and_true] at e_rS
      subst e_rS
      have k14_2 := hg14 2 _ rfl
      simp [z1, z2, z3, z4, z5] at k14_2
      obtain ⟨q14_2, hq14_2⟩ : ∃ q, ys14[2]? = some q := ⟨_, List.getElem?_eq_getElem (by rw [hl14]; decide)⟩
      rw [hq14_2] at k14_2
      obtain ⟨x_rV, e_rV, _, w_rV⟩ := DataW.trod_int Try.underlying3 k14_2
      simp only [List.cons.injEq, and_true] at e_rV
      subst e_rV
      have k14_3 := hg14 3 _ rfl
      simp [z1, z2, z3, z4, z5] at k14_3
      obtain ⟨q14_3, hq14_3⟩ : ∃ q, ys14[3]? = some q := ⟨_, List.getElem?_eq_getElem (by rw [hl14]; decide)⟩
      rw [hq14_3] at k14_3
      obtain ⟨x_rD, e_rD, _, w_rD⟩ := DataW.trod_int Try.underlying3 k14_3
      simp only [List.cons.injEq, and_true] at e_rD
      subst e_rD
      have g15 := hg 15 _ rfl
      simp [z1, z2, z3, z4, z5, z6, z7, z8, z9, Value.cells] at g15
      obtain ⟨ys15, n15, _, _, _, hl15, hg15⟩ := DataW.trod_struct Try.underlying77 g15
      have k15_0 := hg15 0 _ rfl
      simp [z1, z2, z3, z4, z5] at k15_0
      obtain ⟨q15_0, hq15_0⟩ : ∃ q, ys15[0]? = some q := ⟨_, List.getElem?_eq_getElem (by rw [hl15]; decide)⟩
      rw [hq15_0] at k15_0
      obtain ⟨x_cX, e_cX, _, w_cX⟩ := DataW.trod_int Try.underlying3 k15_0
      simp only [List.cons.injEq, and_true] at e_cX
      subst e_cX
      have k15_1 := hg15 1 _ rfl
      simp [z1, z2, z3, z4, z5] at k15_1
      obtain ⟨q15_1, hq15_1⟩ : ∃ q, ys15[1]? = some q := ⟨_, List.getElem?_eq_getElem (by rw [hl15]; decide)⟩
      rw [hq15_1] at k15_1
      obtain ⟨x_cT, e_cT, _, w_cT⟩ := DataW.trod_int Try.underlying3 k15_1
      simp only [List.cons.injEq, and_true] at e_cT
      subst e_cT
      have k15_2 := hg15 2 _ rfl
      simp [z1, z2, z3, z4, z5] at k15_2
      obtain ⟨q15_2, hq15_2⟩ : ∃ q, ys15[2]? = some q := ⟨_, List.getElem?_eq_getElem (by rw [hl15]; decide)⟩
      rw [hq15_2] at k15_2
      obtain ⟨x_cD, e_cD, _, w_cD⟩ := DataW.trod_int Try.underlying3 k15_2
      simp only [List.cons.injEq, and_true] at e_cD
      subst e_cD
      have k15_3 := hg15 3 _ rfl
      simp [z1, z2, z3, z4, z5] at k15_3
      obtain ⟨q15_3, hq15_3⟩ : ∃ q, ys15[3]? = some q := ⟨_, List.getElem?_eq_getElem (by rw [hl15]; decide)⟩
      rw [hq15_3] at k15_3
      obtain ⟨x_cF, e_cF, _⟩ := DataW.trod_bool Try.underlying4 k15_3
      simp only [List.cons.injEq, and_true] at e_cF
      subst e_cF
      have k15_4 := hg15 4 _ rfl
      simp [z1, z2, z3, z4, z5] at k15_4
      obtain ⟨q15_4, hq15_4⟩ : ∃ q, ys15[4]? = some q := ⟨_, List.getElem?_eq_getElem (by rw [hl15]; decide)⟩
      rw [hq15_4] at k15_4
      obtain ⟨x_cR, e_cR, _, w_cR⟩ := DataW.trod_int Try.underlying22 k15_4
      simp only [List.cons.injEq, and_true] at e_cR
      subst e_cR
      have g16 := hg 16 _ rfl
      simp [z1, z2, z3, z4, z5, z6, z7, z8, z9, Value.cells] at g16
      obtain ⟨x_tmg, e_tmg, _⟩ := DataW.trod_bool Try.underlying4 g16
      simp only [List.cons.injEq, and_true] at e_tmg
      subst e_tmg
      have g17 := hg 17 _ rfl
      simp [z1, z2, z3, z4, z5, z6, z7, z8, z9, Value.cells] at g17
      obtain ⟨x_tsq, e_tsq, _, w_tsq⟩ := DataW.trod_int Try.underlying22 g17
      simp only [List.cons.injEq, and_true] at e_tsq
      subst e_tsq
      have g18 := hg 18 _ rfl
      simp [z1, z2, z3, z4, z5, z6, z7, z8, z9, Value.cells] at g18
      obtain ⟨x_tat, e_tat, _, w_tat⟩ := DataW.trod_int Try.underlying3 g18
      simp only [List.cons.injEq, and_true] at e_tat
      subst e_tat
      have g19 := hg 19 _ rfl
      simp [z1, z2, z3, z4, z5, z6, z7, z8, z9, Value.cells] at g19
      obtain ⟨x_agn, e_agn, _, w_agn⟩ := DataW.trod_int Try.underlying3 g19
      simp only [List.cons.injEq, and_true] at e_agn
      subst e_agn
      have g20 := hg 20 _ rfl
      simp [z1, z2, z3, z4, z5, z6, z7, z8, z9, Value.cells] at g20
      obtain ⟨x_prb, e_prb, _, w_prb⟩ := DataW.trod_int Try.underlying3 g20
      simp only [List.cons.injEq, and_true] at e_prb
      subst e_prb
      have g21 := hg 21 _ rfl
      simp [z1, z2, z3, z4, z5, z6, z7, z8, z9, Value.cells] at g21
      obtain ⟨x_rst, e_rst, _, w_rst⟩ := DataW.trod_int Try.underlying3 g21
      simp only [List.cons.injEq, and_true] at e_rst
      subst e_rst
      have g22 := hg 22 _ rfl
      simp [z1, z2, z3, z4, z5, z6, z7, z8, z9, Value.cells] at g22
      obtain ⟨x_trs, e_trs, _, w_trs⟩ := DataW.trod_int Try.underlying3 g22
      simp only [List.cons.injEq, and_true] at e_trs
      subst e_trs
      have g23 := hg 23 _ rfl
      simp [z1, z2, z3, z4, z5, z6, z7, z8, z9, Value.cells] at g23
      obtain ⟨x_why, e_why, _, w_why⟩ := DataW.trod_int Try.underlying3 g23
      simp only [List.cons.injEq, and_true] at e_why
      subst e_why
      have g24 := hg 24 _ rfl
      simp [z1, z2, z3, z4, z5, z6, z7, z8, z9, Value.cells] at g24
      obtain ⟨x_owe, e_owe, _⟩ := DataW.trod_bool Try.underlying4 g24
      simp only [List.cons.injEq, and_true] at e_owe
      subst e_owe
      exact ⟨⟨x_st, x_iss, x_una, x_nxt, x_mx, x_wnd, x_wsq, x_wak, x_oF, x_oD, x_oR, x_iN, x_iD, x_pa, x_pn, x_pc, x_iR, x_fin, x_fsn, x_fsq, x_gfn, x_rA, x_rS, x_rV, x_rD, x_cX, x_cT, x_cD, x_cF, x_cR, x_tmg, x_tsq, x_tat, x_agn, x_prb, x_rst, x_trs, x_why, x_owe⟩, ps, rfl, R, ⟨w_st, w_iss, w_una, w_nxt, w_mx, w_wnd, w_wsq, w_wak, w_oF, w_oD, w_oR, w_iN, w_iD, w_iR, w_fsq, w_rS, w_rV, w_rD, w_cX, w_cT, w_cD, w_cR, w_tsq, w_tat, w_agn, w_prb, w_rst, w_trs, w_why, w_ps⟩⟩

end Go.Proofs.Ytpkenhcglnognaa
