/-
  Proved: at every end and every tick impl.ConnTick answers as spec.ConnTick, writes into no argument, and its answer owns its memory (the law FnExactConnTick returns true, and its arguments read as before); no condition (of an end of more than 1048576 bytes the law asks nothing).
-/
import Derived.Test.YtfenlfijfjcdbaaGreatRows
import Derived.Test.YtfenlfijfjcdbaaGreatLaw11
import Derived.Test.YtfenlfijfjcdbaaGreatM7
import Derived.Test.YtfenlfijfjcdbaaGreatTick11I
import Derived.Test.YtfenlfijfjcdbaaGreatTick11
import Derived.Test.YtfenlfijfjcdbaaGreatSegLaws
import Derived.WalkKit
import Derived.ProofKit
import Derived.OpenShut
import Derived.ShutString
import Derived.ChangeOld
import Derived.Below
import Derived.Carry
namespace Go.Proofs.YtfenlfijfjcdbaaGreat.fnExactConnTick
open Go.ChangeShapes Go.WideShapes Go.ChangeAt Go.RowKit
open Go.ChangeMaps (open_string shut_string)
set_option linter.unusedVariables false

theorem own : ownKnob Tryz.prog.godebug = none := by kernel_rfl
theorem laidOut : laidOutB Tryz.prog = true := by kernel_rfl

theorem conntick_pn (c : Cn) (ps : List (Int × ByteArray)) (now : Int) : (tickC c ps now).pn = c.pn := by
  unfold tickC
  split
  · exact tick_pn ps now c
  · rfl

theorem conntick_len (c : Cn) (ps : List (Int × ByteArray)) (now : Int) (gc : GoodC c ps) : (tickS c ps now).length ≤ 1048576 := by
  unfold tickS
  split
  · rename_i h
    unfold sendOk at h
    simp only [Bool.and_eq_true] at h
    have ok := tickOk_of gc h.1 c.pa c.pc
    have okF : TickOk (firstX ps now c).1 ps := TickOk.first ok now
    have h1 := first_len ps now c
    unfold tickX
    split
    · simp
    · split
      · simp
      · split
        · unfold againX
          split
          · show (firstX ps now c).2.length ≤ 1048576
            omega
          · split
            · show ((firstX ps now c).2 ++ [_]).length ≤ 1048576
              rw [List.length_append]
              simp
              omega
            · unfold backX
              split
              · show (firstX ps now c).2.length ≤ 1048576
                omega
              · have ms := mayS_tried okF now
                have hl := ms.left
                have p1 := pieces_len (ps := ps) (now := now) (leftC (backD (triedC (firstX ps now c).1 now))).toNat (backD (triedC (firstX ps now c).1 now)) (firstX ps now c).2
                have h2 : ∀ p : Cn × List Sg, (fin2 ps now p).2.length ≤ p.2.length + 1 := by
                  intro p
                  unfold fin2
                  split <;> simp
                have h3 : ∀ p : Cn × List Sg, (owe2 ps p).2.length ≤ p.2.length + 1 := by
                  intro p
                  unfold owe2
                  split <;> simp
                generalize backD (triedC (firstX ps now c).1 now) = B at hl p1 ⊢
                have h4 := h2 (piecesC ps now (leftC B).toNat B (firstX ps now c).2)
                unfold sendX
                have h5 : _ ≤ (fin2 ps now (piecesC ps now (leftC B).toNat B (firstX ps now c).2)).2.length + 1 := h3 (prbC (fin2 ps now (piecesC ps now (leftC B).toNat B (firstX ps now c).2)).1 now, (fin2 ps now (piecesC ps now (leftC B).toNat B (firstX ps now c).2)).2)
                omega
        · omega
  · simp

theorem conntick_at (c : Cn) (ps : List (Int × ByteArray)) (now : Int) (a : Option Addr) (p : Nat) (a' : Option Addr) (p' : Nat) : ({ tickC { c with pa := a, pc := p } ps now with pa := a', pc := p' } : Cn) = { tickC c ps now with pa := a', pc := p' } := by
  unfold tickC
  rw [show sendOk { c with pa := a, pc := p } ps now = sendOk c ps now from rfl, tick_at]
  cases sendOk c ps now <;> rfl

theorem conntick_atS (c : Cn) (ps : List (Int × ByteArray)) (now : Int) (a : Option Addr) (p : Nat) : tickS { c with pa := a, pc := p } ps now = tickS c ps now := by
  unfold tickS
  rw [show sendOk { c with pa := a, pc := p } ps now = sendOk c ps now from rfl, tick_at]

theorem conntick_hs {c : Cn} {ps : List (Int × ByteArray)} (gc : GoodC c ps) (now : Int) (q : Nat) (wx : World) (R : Rd shP wx (some ⟨q, 0, none⟩) c.pn ps) :
    Calls Tryz.prog 5 #[.agg (cnCells { c with pa := some ⟨q, 0, none⟩, pc := c.pn }), .int .i64 now] wx fun e w' => ∃ g cp gl n cl, e = .returned (.tuple #[.agg (cnCells { tickC c ps now with pa := some ⟨g, 0, none⟩, pc := cp }), .slice (some ⟨gl, 0, none⟩) n cl]) ∧ Held shP w' wx.heap.size g (tickC c ps now).pn cp ps ∧ Held shG w' wx.heap.size gl n cl (tickS c ps now) ∧ True ∧ Since wx w' := by
  refine (specConnTick { c with pa := some ⟨q, 0, none⟩, pc := c.pn } ps now (good_at gc _ _) (fun h => by cases h) wx R).mono ?_
  rintro e w' ⟨g, cp, gl, n, cl, h, H, L, k⟩
  refine ⟨g, cp, gl, n, cl, h.trans ?_, by rw [conntick_pn]; exact H, by rw [conntick_atS] at L; exact L, trivial, k⟩
  first | (rw [conntick_at]; done) | (rw [conntick_at]; rfl)

theorem conntick_hi {c : Cn} {ps : List (Int × ByteArray)} (gc : GoodC c ps) (now : Int) (q : Nat) (wx : World) (R : Rd shP wx (some ⟨q, 0, none⟩) c.pn ps) :
    Calls Tryz.prog 7 #[.agg (cnCells { c with pa := some ⟨q, 0, none⟩, pc := c.pn }), .int .i64 now] wx fun e w' => ∃ g cp gl n cl, e = .returned (.tuple #[.agg (cnCells { tickC c ps now with pa := some ⟨g, 0, none⟩, pc := cp }), .slice (some ⟨gl, 0, none⟩) n cl]) ∧ Held shP w' wx.heap.size g (tickC c ps now).pn cp ps ∧ Held shG w' wx.heap.size gl n cl (tickS c ps now) ∧ gl ≠ g ∧ Since wx w' := by
  refine (implConnTick { c with pa := some ⟨q, 0, none⟩, pc := c.pn } ps now (good_at gc _ _) wx R).mono ?_
  rintro e w' ⟨g, gl, n, cl, h, H, L, ne, k⟩
  refine ⟨g, c.pn, gl, n, cl, h.trans ?_, by rw [conntick_pn]; exact H, by rw [conntick_atS] at L; exact L, ne, k⟩
  first | (rw [conntick_at]; done) | (rw [conntick_at]; rfl)

set_option maxHeartbeats 16000000 in
set_option maxRecDepth 20000 in
theorem walk (c0 : Cn) (p0 : List (Int × ByteArray)) (b1 : Int) (w : World) (R0 : Rd shP w c0.pa c0.pn p0) (u0 : WfC c0 p0) (x1 : (Lit.int .i64 b1).wf = true) :
    Calls Tryz.prog 3 #[.agg (cnCells c0), .int .i64 b1] w fun e w' => e = .returned (.bool true) ∧ Below w.heap.size w w' := by
  have A := Blk.new w (cnCells c0) 33
  have G := (Since.refl w).alloc (.cells (cnCells c0) 33)
  have hS := fun wx (Rx : Rd shP wx c0.pa c0.pn p0) => szConn c0 p0 1048576 (by omega) (by omega) u0.v_oD u0.v_iD wx Rx (fun i hi => (u0.parts i hi).2)
  unfold cnVal at hS
  go_enter Tryz.func3, Tryz.ntmps3
  go_upto_region 2 with (fail)
  generalize w.alloc (.cells (cnCells c0) 33) = w1 at A G ⊢
  have hG1 := G.size
  have hA1 := A.lt
  refine vR ?_
  refine vB lcn_big A (cn_size _) ?_
  refine vV (.int .i64 1048576) ?_
  refine vC (hS _ (R0.since G)) ?_
  rintro _ qw1 ⟨⟨r, rfl, hb⟩, qg2⟩
  refine ⟨_, rfl, ?_⟩
  replace A := A.since qg2
  replace G := G.trans qg2
  have qg2_s := qg2.size
  replace hb : Hid _ := hb
  refine vV (.int .i64 r) ?_
  refine vE #[.agg (cnCells c0),.int .i64 b1,.pointer (some ⟨w.heap.size, 0, none⟩),U,.bool false,.int .i64 r,U,U,U,U,U,U,U,U,U,U,.agg (cnCells c0),.int .i64 1048576,.int .i64 r,U,U,U,U,U,U,U,U,U,U,U,U,U,U,U,U,U,U,U,U,U,U,U,U,U,U,U,U,U,U,U,U,U,U,U,U,U,U,U,U,U,U,U,U,U,U,U,U,U,U,U,U,U,U,U,U,U,U,U,U,U,U,U,U,U,U,U,U,U,U,U,U,U,U,U,U,U,U,U,U,U,U,U,U,U,U,U,U,U,U,U,U,U,U,U,U,U,U] ?_
  clear hS
  rcases Int.lt_or_le r 0 with hr | hr
  · go_wp2_with (fail)
    go_ret
    exact ⟨rfl, G⟩
  have gc := good_of u0 (hb.out hr)
  have hn : c0.pn ≤ 1048576 := gc.gd.hn
  clear hb
  have hT := fun wx (Rx : Rd shP wx c0.pa c0.pn p0) => toConn c0 p0 hn wx Rx
  unfold cnVal at hT
  have hs := fun q wx Rx => conntick_hs (c := c0) (ps := p0) gc b1 q wx Rx
  have hi := fun q wx Rx => conntick_hi (c := c0) (ps := p0) gc b1 q wx Rx
  have hDn : (tickC c0 p0 b1).pn = c0.pn := conntick_pn c0 p0 b1
  generalize tickC c0 p0 b1 = D at hs hi hDn
  have hLn : (tickS c0 p0 b1).length ≤ 1048576 := conntick_len c0 p0 b1 gc
  generalize tickS c0 p0 b1 = XS at hs hi hLn
  have hn2 : D.pn ≤ 1048576 := by omega
  have kT := fun q q2 p p2 B B2 wx (T1 : Held shP wx B q D.pn p p0) (T2 : Held shP wx B2 q2 D.pn p2 p0) => eqCn D q p q2 p2 p0 hn2 wx T1.reads T2.reads
  have kC := fun q q2 p p2 wx Rx Qx => eqCn c0 q p q2 p2 p0 hn wx Rx Qx
  replace hDn : Hid _ := hDn
  have kS := fun q q2 p p2 B B2 wx (T1 : Held shG wx B q XS.length p XS) (T2 : Held shG wx B2 q2 XS.length p2 XS) => eqSegs B B2 q q2 XS.length p p2 XS hLn wx T1 T2
  go_upto_region 5 with (fail)
  refine vR ?_
  refine vB lcn_big A (cn_size _) ?_
  refine vC (hT _ (R0.since G)) ?_
  rintro _ qw3 ⟨g4, rfl, H4, qg4⟩
  refine ⟨_, rfl, ?_⟩
  replace A := A.since qg4
  replace G := G.trans qg4
  have qg4_s := qg4.size
  have H4_0 := H4.low'
  replace H4 := H4.raise (show w.heap.size ≤ g4 by omega)
  have H4_1 := H4.lt
  refine vV (.int .i64 b1) ?_
  refine vC (hs g4 _ H4.reads) ?_
  rintro _ qw5 ⟨g5, p5, gs5, n5, ps5, rfl, H5, L5, hne5, qg6⟩
  refine ⟨_, rfl, ?_⟩
  replace A := A.since qg6
  replace H4 := H4.since qg6
  replace G := G.trans qg6
  have qg6_s := qg6.size
  have L5_n := L5.len
  subst L5_n
  have H5_0 := H5.low'
  replace H5 := H5.raise (show w.heap.size ≤ g5 by omega)
  have H5_1 := H5.lt
  have L5_0 := L5.low'
  replace L5 := L5.raise (show w.heap.size ≤ gs5 by omega)
  have L5_1 := L5.lt
  refine vV (.tuple #[.agg (cnCells { D with pa := some ⟨g5, 0, none⟩, pc := p5 }), .slice (some ⟨gs5, 0, none⟩) XS.length ps5]) ?_
  refine vV (.agg (cnCells { D with pa := some ⟨g5, 0, none⟩, pc := p5 })) ?_
  refine vV (.slice (some ⟨gs5, 0, none⟩) XS.length ps5) ?_
  refine vW (qw5.alloc (.cells (cnCells cnZero) 42)) (.pointer (some ⟨qw5.heap.size, 0, none⟩)) ?_
  have qB8 := Blk.new qw5 (cnCells cnZero) 42
  have qg9 := (Since.refl qw5).alloc (.cells (cnCells cnZero) 42)
  replace A := A.since qg9
  replace H4 := H4.since qg9
  replace H5 := H5.since qg9
  replace L5 := L5.since qg9
  replace G := G.trans qg9
  generalize qw5.alloc (.cells (cnCells cnZero) 42) = qw7 at A H4 H5 L5 G qB8 qg9 ⊢
  have qB8_l := qB8.lt
  have qg9_s := qg9.size
  refine sB (cnCells { D with pa := some ⟨g5, 0, none⟩, pc := p5 }) cn_big qB8 (cn_size _) (cn_size _) (cn_one _) ?_
  intro qw10 qt11 qB12
  clear qB8
  replace A := A.touch qt11 (by omega)
  replace H4 := H4.touch qt11 (by omega)
  replace H5 := H5.touch qt11 (by omega)
  replace L5 := L5.touch qt11 (by omega)
  replace G := since_touch G qt11 (by omega)
  have qt11_s := qt11.size
  refine vV (.slice (some ⟨gs5, 0, none⟩) XS.length ps5) ?_
  refine vE #[.agg (cnCells c0),.int .i64 b1,.pointer (some ⟨w.heap.size, 0, none⟩),U,.bool false,.int .i64 r,.pointer (some ⟨qw5.heap.size, 0, none⟩),.slice (some ⟨gs5, 0, none⟩) XS.length ps5,U,U,U,U,U,U,U,U,.agg (cnCells c0),.int .i64 1048576,.int .i64 r,.int .i64 r,.bool (decide (r < 0)),.tuple #[.agg (cnCells { D with pa := some ⟨g5, 0, none⟩, pc := p5 }), .slice (some ⟨gs5, 0, none⟩) XS.length ps5],.agg (cnCells c0),.agg (cnCells { c0 with pa := some ⟨g4, 0, none⟩, pc := c0.pn }),.int .i64 b1,.tuple #[.agg (cnCells { D with pa := some ⟨g5, 0, none⟩, pc := p5 }), .slice (some ⟨gs5, 0, none⟩) XS.length ps5],.agg (cnCells { D with pa := some ⟨g5, 0, none⟩, pc := p5 }),.slice (some ⟨gs5, 0, none⟩) XS.length ps5,U,U,U,U,U,U,U,U,U,U,U,U,U,U,U,U,U,U,U,U,U,U,U,U,U,U,U,U,U,U,U,U,U,U,U,U,U,U,U,U,U,U,U,U,U,U,U,U,U,U,U,U,U,U,U,U,U,U,U,U,U,U,U,U,U,U,U,U,U,U,U,U,U,U,U,U,U,U,U,U,U,U,U,U,U,U,U,U,U] ?_
  go_upto_region 6 with (fail)
  refine vR ?_
  refine vB lcn_big A (cn_size _) ?_
  refine vC (hT _ (R0.since G)) ?_
  rintro _ qw13 ⟨g6, rfl, H6, qg14⟩
  refine ⟨_, rfl, ?_⟩
  replace A := A.since qg14
  replace qB12 := qB12.since qg14
  replace H4 := H4.since qg14
  replace H5 := H5.since qg14
  replace L5 := L5.since qg14
  replace G := G.trans qg14
  have qg14_s := qg14.size
  have H6_0 := H6.low'
  replace H6 := H6.raise (show w.heap.size ≤ g6 by omega)
  have H6_1 := H6.lt
  refine vW (qw13.alloc (.cells (cnCells cnZero) 42)) (.pointer (some ⟨qw13.heap.size, 0, none⟩)) ?_
  have qB16 := Blk.new qw13 (cnCells cnZero) 42
  have qg17 := (Since.refl qw13).alloc (.cells (cnCells cnZero) 42)
  replace A := A.since qg17
  replace qB12 := qB12.since qg17
  replace H4 := H4.since qg17
  replace H5 := H5.since qg17
  replace L5 := L5.since qg17
  replace H6 := H6.since qg17
  replace G := G.trans qg17
  generalize qw13.alloc (.cells (cnCells cnZero) 42) = qw15 at A qB12 H4 H5 L5 H6 G qB16 qg17 ⊢
  have qB16_l := qB16.lt
  have qg17_s := qg17.size
  refine sB (cnCells { c0 with pa := some ⟨g6, 0, none⟩, pc := c0.pn }) cn_big qB16 (cn_size _) (cn_size _) (cn_one _) ?_
  intro qw18 qt19 qB20
  clear qB16
  replace A := A.touch qt19 (by omega)
  replace qB12 := qB12.touch qt19 (by omega)
  replace H4 := H4.touch qt19 (by omega)
  replace H5 := H5.touch qt19 (by omega)
  replace L5 := L5.touch qt19 (by omega)
  replace H6 := H6.touch qt19 (by omega)
  replace G := since_touch G qt19 (by omega)
  have qt19_s := qt19.size
  refine vE #[.agg (cnCells c0),.int .i64 b1,.pointer (some ⟨w.heap.size, 0, none⟩),U,.bool false,.int .i64 r,.pointer (some ⟨qw5.heap.size, 0, none⟩),.slice (some ⟨gs5, 0, none⟩) XS.length ps5,.pointer (some ⟨qw13.heap.size, 0, none⟩),U,U,U,U,U,U,U,.agg (cnCells c0),.int .i64 1048576,.int .i64 r,.int .i64 r,.bool (decide (r < 0)),.tuple #[.agg (cnCells { D with pa := some ⟨g5, 0, none⟩, pc := p5 }), .slice (some ⟨gs5, 0, none⟩) XS.length ps5],.agg (cnCells c0),.agg (cnCells { c0 with pa := some ⟨g4, 0, none⟩, pc := c0.pn }),.int .i64 b1,.tuple #[.agg (cnCells { D with pa := some ⟨g5, 0, none⟩, pc := p5 }), .slice (some ⟨gs5, 0, none⟩) XS.length ps5],.agg (cnCells { D with pa := some ⟨g5, 0, none⟩, pc := p5 }),.slice (some ⟨gs5, 0, none⟩) XS.length ps5,.agg (cnCells c0),.agg (cnCells { c0 with pa := some ⟨g6, 0, none⟩, pc := c0.pn }),U,U,U,U,U,U,U,U,U,U,U,U,U,U,U,U,U,U,U,U,U,U,U,U,U,U,U,U,U,U,U,U,U,U,U,U,U,U,U,U,U,U,U,U,U,U,U,U,U,U,U,U,U,U,U,U,U,U,U,U,U,U,U,U,U,U,U,U,U,U,U,U,U,U,U,U,U,U,U,U,U,U,U,U,U,U,U] ?_
  go_upto_region 7 with (fail)
  refine vR ?_
  refine vB cn_big qB20 (cn_size _) ?_
  refine vV (.int .i64 b1) ?_
  refine vC (hi g6 _ H6.reads) ?_
  rintro _ qw21 ⟨g7, p7, gs7, n7, ps7, rfl, H7, L7, hne7, qg22⟩
  refine ⟨_, rfl, ?_⟩
  replace A := A.since qg22
  replace qB12 := qB12.since qg22
  replace qB20 := qB20.since qg22
  replace H4 := H4.since qg22
  replace H5 := H5.since qg22
  replace L5 := L5.since qg22
  replace H6 := H6.since qg22
  replace G := G.trans qg22
  have qg22_s := qg22.size
  have L7_n := L7.len
  subst L7_n
  have H7_0 := H7.low'
  replace H7 := H7.raise (show w.heap.size ≤ g7 by omega)
  have H7_1 := H7.lt
  have L7_0 := L7.low'
  replace L7 := L7.raise (show w.heap.size ≤ gs7 by omega)
  have L7_1 := L7.lt
  refine vV (.tuple #[.agg (cnCells { D with pa := some ⟨g7, 0, none⟩, pc := p7 }), .slice (some ⟨gs7, 0, none⟩) XS.length ps7]) ?_
  refine vV (.agg (cnCells { D with pa := some ⟨g7, 0, none⟩, pc := p7 })) ?_
  refine vV (.slice (some ⟨gs7, 0, none⟩) XS.length ps7) ?_
  refine vW (qw21.alloc (.cells (cnCells cnZero) 42)) (.pointer (some ⟨qw21.heap.size, 0, none⟩)) ?_
  have qB24 := Blk.new qw21 (cnCells cnZero) 42
  have qg25 := (Since.refl qw21).alloc (.cells (cnCells cnZero) 42)
  replace A := A.since qg25
  replace qB12 := qB12.since qg25
  replace qB20 := qB20.since qg25
  replace H4 := H4.since qg25
  replace H5 := H5.since qg25
  replace L5 := L5.since qg25
  replace H6 := H6.since qg25
  replace H7 := H7.since qg25
  replace L7 := L7.since qg25
  replace G := G.trans qg25
  generalize qw21.alloc (.cells (cnCells cnZero) 42) = qw23 at A qB12 qB20 H4 H5 L5 H6 H7 L7 G qB24 qg25 ⊢
  have qB24_l := qB24.lt
  have qg25_s := qg25.size
  refine sB (cnCells { D with pa := some ⟨g7, 0, none⟩, pc := p7 }) cn_big qB24 (cn_size _) (cn_size _) (cn_one _) ?_
  intro qw26 qt27 qB28
  clear qB24
  replace A := A.touch qt27 (by omega)
  replace qB12 := qB12.touch qt27 (by omega)
  replace qB20 := qB20.touch qt27 (by omega)
  replace H4 := H4.touch qt27 (by omega)
  replace H5 := H5.touch qt27 (by omega)
  replace L5 := L5.touch qt27 (by omega)
  replace H6 := H6.touch qt27 (by omega)
  replace H7 := H7.touch qt27 (by omega)
  replace L7 := L7.touch qt27 (by omega)
  replace G := since_touch G qt27 (by omega)
  have qt27_s := qt27.size
  refine vV (.slice (some ⟨gs7, 0, none⟩) XS.length ps7) ?_
  refine vE #[.agg (cnCells c0),.int .i64 b1,.pointer (some ⟨w.heap.size, 0, none⟩),U,.bool false,.int .i64 r,.pointer (some ⟨qw5.heap.size, 0, none⟩),.slice (some ⟨gs5, 0, none⟩) XS.length ps5,.pointer (some ⟨qw13.heap.size, 0, none⟩),.pointer (some ⟨qw21.heap.size, 0, none⟩),.slice (some ⟨gs7, 0, none⟩) XS.length ps7,U,U,U,U,U,.agg (cnCells c0),.int .i64 1048576,.int .i64 r,.int .i64 r,.bool (decide (r < 0)),.tuple #[.agg (cnCells { D with pa := some ⟨g5, 0, none⟩, pc := p5 }), .slice (some ⟨gs5, 0, none⟩) XS.length ps5],.agg (cnCells c0),.agg (cnCells { c0 with pa := some ⟨g4, 0, none⟩, pc := c0.pn }),.int .i64 b1,.tuple #[.agg (cnCells { D with pa := some ⟨g5, 0, none⟩, pc := p5 }), .slice (some ⟨gs5, 0, none⟩) XS.length ps5],.agg (cnCells { D with pa := some ⟨g5, 0, none⟩, pc := p5 }),.slice (some ⟨gs5, 0, none⟩) XS.length ps5,.agg (cnCells c0),.agg (cnCells { c0 with pa := some ⟨g6, 0, none⟩, pc := c0.pn }),.tuple #[.agg (cnCells { D with pa := some ⟨g7, 0, none⟩, pc := p7 }), .slice (some ⟨gs7, 0, none⟩) XS.length ps7],.agg (cnCells { c0 with pa := some ⟨g6, 0, none⟩, pc := c0.pn }),.int .i64 b1,.tuple #[.agg (cnCells { D with pa := some ⟨g7, 0, none⟩, pc := p7 }), .slice (some ⟨gs7, 0, none⟩) XS.length ps7],.agg (cnCells { D with pa := some ⟨g7, 0, none⟩, pc := p7 }),.slice (some ⟨gs7, 0, none⟩) XS.length ps7,U,U,U,U,U,U,U,U,U,U,U,U,U,U,U,U,U,U,U,U,U,U,U,U,U,U,U,U,U,U,U,U,U,U,U,U,U,U,U,U,U,U,U,U,U,U,U,U,U,U,U,U,U,U,U,U,U,U,U,U,U,U,U,U,U,U,U,U,U,U,U,U,U,U,U,U,U,U,U,U,U] ?_
  go_upto_region 8 with (fail)
  refine vR ?_
  refine vB cn_big qB28 (cn_size _) ?_
  refine vB cn_big qB12 (cn_size _) ?_
  refine vK (kT _ _ _ _ _ _ _ H7 H5) ?_
  intro qw29 qg30
  replace A := A.since qg30
  replace qB12 := qB12.since qg30
  replace qB20 := qB20.since qg30
  replace qB28 := qB28.since qg30
  replace H4 := H4.since qg30
  replace H5 := H5.since qg30
  replace L5 := L5.since qg30
  replace H6 := H6.since qg30
  replace H7 := H7.since qg30
  replace L7 := L7.since qg30
  replace G := G.trans qg30
  have qg30_s := qg30.size
  refine vV (.bool false) ?_
  refine vV (.bool false) ?_
  refine vV (.slice (some ⟨gs7, 0, none⟩) XS.length ps7) ?_
  refine vV (.slice (some ⟨gs5, 0, none⟩) XS.length ps5) ?_
  refine vK (kS _ _ _ _ _ _ _ L7 L5) ?_
  intro qw31 qg32
  replace A := A.since qg32
  replace qB12 := qB12.since qg32
  replace qB20 := qB20.since qg32
  replace qB28 := qB28.since qg32
  replace H4 := H4.since qg32
  replace H5 := H5.since qg32
  replace L5 := L5.since qg32
  replace H6 := H6.since qg32
  replace H7 := H7.since qg32
  replace L7 := L7.since qg32
  replace G := G.trans qg32
  have qg32_s := qg32.size
  refine vV (.bool false) ?_
  refine vV (.bool false) ?_
  refine vE #[.agg (cnCells c0),.int .i64 b1,.pointer (some ⟨w.heap.size, 0, none⟩),U,.bool false,.int .i64 r,.pointer (some ⟨qw5.heap.size, 0, none⟩),.slice (some ⟨gs5, 0, none⟩) XS.length ps5,.pointer (some ⟨qw13.heap.size, 0, none⟩),.pointer (some ⟨qw21.heap.size, 0, none⟩),.slice (some ⟨gs7, 0, none⟩) XS.length ps7,U,U,U,U,U,.agg (cnCells c0),.int .i64 1048576,.int .i64 r,.int .i64 r,.bool (decide (r < 0)),.tuple #[.agg (cnCells { D with pa := some ⟨g5, 0, none⟩, pc := p5 }), .slice (some ⟨gs5, 0, none⟩) XS.length ps5],.agg (cnCells c0),.agg (cnCells { c0 with pa := some ⟨g4, 0, none⟩, pc := c0.pn }),.int .i64 b1,.tuple #[.agg (cnCells { D with pa := some ⟨g5, 0, none⟩, pc := p5 }), .slice (some ⟨gs5, 0, none⟩) XS.length ps5],.agg (cnCells { D with pa := some ⟨g5, 0, none⟩, pc := p5 }),.slice (some ⟨gs5, 0, none⟩) XS.length ps5,.agg (cnCells c0),.agg (cnCells { c0 with pa := some ⟨g6, 0, none⟩, pc := c0.pn }),.tuple #[.agg (cnCells { D with pa := some ⟨g7, 0, none⟩, pc := p7 }), .slice (some ⟨gs7, 0, none⟩) XS.length ps7],.agg (cnCells { c0 with pa := some ⟨g6, 0, none⟩, pc := c0.pn }),.int .i64 b1,.tuple #[.agg (cnCells { D with pa := some ⟨g7, 0, none⟩, pc := p7 }), .slice (some ⟨gs7, 0, none⟩) XS.length ps7],.agg (cnCells { D with pa := some ⟨g7, 0, none⟩, pc := p7 }),.slice (some ⟨gs7, 0, none⟩) XS.length ps7,.agg (cnCells { D with pa := some ⟨g7, 0, none⟩, pc := p7 }),.agg (cnCells { D with pa := some ⟨g5, 0, none⟩, pc := p5 }),.bool true,.bool false,.bool false,.slice (some ⟨gs7, 0, none⟩) XS.length ps7,.slice (some ⟨gs5, 0, none⟩) XS.length ps5,.bool true,.bool false,.bool false,U,U,U,U,U,U,U,U,U,U,U,U,U,U,U,U,U,U,U,U,U,U,U,U,U,U,U,U,U,U,U,U,U,U,U,U,U,U,U,U,U,U,U,U,U,U,U,U,U,U,U,U,U,U,U,U,U,U,U,U,U,U,U,U,U,U,U,U,U,U,U] ?_
  go_upto_region 10 with (fail)
  refine wp_region_each (wb := qw31) (fun i x v => match i with
      | 0 => v = .agg (cnCells { c0 with pa := some ⟨g6, 0, none⟩, pc := c0.pn })
      | 1 => v = .agg (cnCells c0)
      | 2 => ∃ g, v = .agg (cnCells { c0 with pa := some ⟨g, 0, none⟩, pc := c0.pn }) ∧ Held shP x 0 g c0.pn c0.pn p0
      | 3 => v = .bool true
      | 4 => v = .bool false
      | _ => True) (fun v => { tmps := #[.agg (cnCells c0), .int .i64 b1, .pointer (some ⟨w.heap.size, 0, none⟩), undef, .bool false, .int .i64 r, .pointer (some ⟨qw5.heap.size, 0, none⟩), .slice (some ⟨gs5, 0, none⟩) XS.length ps5, .pointer (some ⟨qw13.heap.size, 0, none⟩), .pointer (some ⟨qw21.heap.size, 0, none⟩), .slice (some ⟨gs7, 0, none⟩) XS.length ps7, undef, undef, undef, undef, undef, .agg (cnCells c0), .int .i64 1048576, .int .i64 r, .int .i64 r, .bool (decide (r < 0)), .tuple #[.agg (cnCells { D with pa := some ⟨g5, 0, none⟩, pc := p5 }), .slice (some ⟨gs5, 0, none⟩) XS.length ps5], .agg (cnCells c0), .agg (cnCells { c0 with pa := some ⟨g4, 0, none⟩, pc := c0.pn }), .int .i64 b1, .tuple #[.agg (cnCells { D with pa := some ⟨g5, 0, none⟩, pc := p5 }), .slice (some ⟨gs5, 0, none⟩) XS.length ps5], .agg (cnCells { D with pa := some ⟨g5, 0, none⟩, pc := p5 }), .slice (some ⟨gs5, 0, none⟩) XS.length ps5, .agg (cnCells c0), .agg (cnCells { c0 with pa := some ⟨g6, 0, none⟩, pc := c0.pn }), .tuple #[.agg (cnCells { D with pa := some ⟨g7, 0, none⟩, pc := p7 }), .slice (some ⟨gs7, 0, none⟩) XS.length ps7], .agg (cnCells { c0 with pa := some ⟨g6, 0, none⟩, pc := c0.pn }), .int .i64 b1, .tuple #[.agg (cnCells { D with pa := some ⟨g7, 0, none⟩, pc := p7 }), .slice (some ⟨gs7, 0, none⟩) XS.length ps7], .agg (cnCells { D with pa := some ⟨g7, 0, none⟩, pc := p7 }), .slice (some ⟨gs7, 0, none⟩) XS.length ps7, .agg (cnCells { D with pa := some ⟨g7, 0, none⟩, pc := p7 }), .agg (cnCells { D with pa := some ⟨g5, 0, none⟩, pc := p5 }), .bool true, .bool false, .bool false, .slice (some ⟨gs7, 0, none⟩) XS.length ps7, .slice (some ⟨gs5, 0, none⟩) XS.length ps5, .bool true, .bool false, .bool false, v 0, v 1, v 2, v 3, v 4, undef, undef, undef, undef, undef, undef, undef, undef, undef, undef, undef, undef, undef, undef, undef, undef, undef, undef, undef, undef, undef, undef, undef, undef, undef, undef, undef, undef, undef, undef, undef, undef, undef, undef, undef, undef, undef, undef, undef, undef, undef, undef, undef, undef, undef, undef, undef, undef, undef, undef, undef, undef, undef, undef, undef, undef, undef, undef, undef, undef, undef, undef, undef, undef, undef, undef], defers := [] }) (by kernel_rfl) (by kernel_rfl) (Since.refl _) ?_ (fun vals => by kernel_rfl) ?_ ?_
  case refine_1 =>
    intro j x x' v h1 h2
    match j, h2 with
    | 2, h2 =>
      obtain ⟨g, e, T⟩ := h2
      exact ⟨g, e, T.since h1⟩
    | 0, h2 | 1, h2 | 3, h2 | 4, h2 => exact h2
    | n + 5, _ => trivial
  case refine_2 =>
    repeat (first | exact eachDoes_nil | refine eachDoes_cons ?_ ?_)
    all_goals intro vals x hx hv
    all_goals simp [Region.binds] at hv
    · simp [does, doesUpon, go_sem, hv, Since.refl]
    · obtain ⟨h0, g, h2, T⟩ := hv
      simp [does, doesUpon, go_sem, h0, h2]
      refine (kC _ _ _ _ _ (H6.since hx).reads T.reads).mono ?_
      rintro _ x' ⟨rfl, h1⟩
      simp [h1]
    · simp [does, doesUpon, go_sem, hv]
      refine (hT _ (R0.since (G.trans hx))).mono ?_
      rintro _ x' ⟨g, rfl, T, h1⟩
      exact ⟨_, rfl, h1, g, rfl, T.raise (Nat.zero_le _)⟩
    · exact does_load lcn_big (cn_size _) (A.since hx) _ rfl rfl ⟨Since.refl _, rfl⟩
    · exact does_load cn_big (cn_size _) (qB20.since hx) _ rfl rfl ⟨Since.refl _, rfl⟩
  case refine_3 =>
    intro qv35 qw33 qh34 hv
    have hv0 : qv35 0 = _ := hv 0 (by decide)
    have hv1 : qv35 1 = _ := hv 1 (by decide)
    obtain ⟨gt, hv2, -⟩ := hv 2 (by decide)
    have hv3 : qv35 3 = _ := hv 3 (by decide)
    have hv4 : qv35 4 = _ := hv 4 (by decide)
    clear hv
    simp only [hv0, hv1, hv2, hv3, hv4]
    clear hv0 hv1 hv2 hv3 hv4
    replace A := A.since qh34
    replace qB12 := qB12.since qh34
    replace qB20 := qB20.since qh34
    replace qB28 := qB28.since qh34
    replace H4 := H4.since qh34
    replace H5 := H5.since qh34
    replace L5 := L5.since qh34
    replace H6 := H6.since qh34
    replace H7 := H7.since qh34
    replace L7 := L7.since qh34
    replace G := G.trans qh34
    have qh34_s := qh34.size
    go_upto_region 13 with (fail)
    refine vR ?_
    refine vB cn_big qB20 (cn_size _) ?_
    refine vV (.int .i64 1) ?_
    refine vC (markCn c0 g6 _ _ _ 1 (by omega) (by omega) _ H6) ?_
    have H6_2 := H6.low'
    rintro _ qw38 ⟨rfl, qt39, ms8, hM8, H6n⟩
    refine ⟨_, rfl, ?_⟩
    clear H6
    have H6 := H6n
    clear H6n
    replace A := A.touch qt39 (by omega)
    replace qB12 := qB12.touch qt39 (by omega)
    replace qB20 := qB20.touch qt39 (by omega)
    replace qB28 := qB28.touch qt39 (by omega)
    replace H4 := H4.touch qt39 (by omega)
    replace H5 := H5.touch qt39 (by omega)
    replace L5 := L5.touch qt39 (by omega)
    replace H7 := H7.touch qt39 (by omega)
    replace L7 := L7.touch qt39 (by omega)
    replace G := since_touch G qt39 (by omega)
    have qt39_s := qt39.size
    refine vV (.int .i64 (1 + 2 * c0.pn)) ?_
    refine vE #[.agg (cnCells c0),.int .i64 b1,.pointer (some ⟨w.heap.size, 0, none⟩),U,.bool false,.int .i64 r,.pointer (some ⟨qw5.heap.size, 0, none⟩),.slice (some ⟨gs5, 0, none⟩) XS.length ps5,.pointer (some ⟨qw13.heap.size, 0, none⟩),.pointer (some ⟨qw21.heap.size, 0, none⟩),.slice (some ⟨gs7, 0, none⟩) XS.length ps7,.int .i64 (1 + 2 * c0.pn),U,U,U,U,.agg (cnCells c0),.int .i64 1048576,.int .i64 r,.int .i64 r,.bool (decide (r < 0)),.tuple #[.agg (cnCells { D with pa := some ⟨g5, 0, none⟩, pc := p5 }), .slice (some ⟨gs5, 0, none⟩) XS.length ps5],.agg (cnCells c0),.agg (cnCells { c0 with pa := some ⟨g4, 0, none⟩, pc := c0.pn }),.int .i64 b1,.tuple #[.agg (cnCells { D with pa := some ⟨g5, 0, none⟩, pc := p5 }), .slice (some ⟨gs5, 0, none⟩) XS.length ps5],.agg (cnCells { D with pa := some ⟨g5, 0, none⟩, pc := p5 }),.slice (some ⟨gs5, 0, none⟩) XS.length ps5,.agg (cnCells c0),.agg (cnCells { c0 with pa := some ⟨g6, 0, none⟩, pc := c0.pn }),.tuple #[.agg (cnCells { D with pa := some ⟨g7, 0, none⟩, pc := p7 }), .slice (some ⟨gs7, 0, none⟩) XS.length ps7],.agg (cnCells { c0 with pa := some ⟨g6, 0, none⟩, pc := c0.pn }),.int .i64 b1,.tuple #[.agg (cnCells { D with pa := some ⟨g7, 0, none⟩, pc := p7 }), .slice (some ⟨gs7, 0, none⟩) XS.length ps7],.agg (cnCells { D with pa := some ⟨g7, 0, none⟩, pc := p7 }),.slice (some ⟨gs7, 0, none⟩) XS.length ps7,.agg (cnCells { D with pa := some ⟨g7, 0, none⟩, pc := p7 }),.agg (cnCells { D with pa := some ⟨g5, 0, none⟩, pc := p5 }),.bool true,.bool false,.bool false,.slice (some ⟨gs7, 0, none⟩) XS.length ps7,.slice (some ⟨gs5, 0, none⟩) XS.length ps5,.bool true,.bool false,.bool false,.agg (cnCells { c0 with pa := some ⟨g6, 0, none⟩, pc := c0.pn }),.agg (cnCells c0),.agg (cnCells { c0 with pa := some ⟨gt, 0, none⟩, pc := c0.pn }),.bool true,.bool false,.agg (cnCells { c0 with pa := some ⟨g6, 0, none⟩, pc := c0.pn }),.int .i64 1,.int .i64 (1 + 2 * c0.pn),U,U,U,U,U,U,U,U,U,U,U,U,U,U,U,U,U,U,U,U,U,U,U,U,U,U,U,U,U,U,U,U,U,U,U,U,U,U,U,U,U,U,U,U,U,U,U,U,U,U,U,U,U,U,U,U,U,U,U,U,U,U,U] ?_
    go_upto_region 14 with (fail)
    have hlt14 : decide ((1 + 2 * c0.pn) < 0) = false := decide_eq_false (by omega)
    refine vR ?_
    refine vV (.int .i64 (1 + 2 * c0.pn)) ?_
    refine vV (.bool false) ?_ (hrun := by rw [← hlt14]; kernel_rfl)
    refine vV (.bool false) ?_
    refine vB cn_big qB28 (cn_size _) ?_
    refine vB cn_big qB12 (cn_size _) ?_
    refine vK (kT _ _ _ _ _ _ _ H7 H5) ?_
    intro qw40 qg41
    replace A := A.since qg41
    replace qB12 := qB12.since qg41
    replace qB20 := qB20.since qg41
    replace qB28 := qB28.since qg41
    replace H4 := H4.since qg41
    replace H5 := H5.since qg41
    replace L5 := L5.since qg41
    replace H7 := H7.since qg41
    replace L7 := L7.since qg41
    replace H6 := H6.since qg41
    replace G := G.trans qg41
    have qg41_s := qg41.size
    refine vV (.bool false) ?_
    refine vV (.bool false) ?_
    refine vV (.bool false) ?_
    refine vV (.slice (some ⟨gs7, 0, none⟩) XS.length ps7) ?_
    refine vV (.slice (some ⟨gs5, 0, none⟩) XS.length ps5) ?_
    refine vK (kS _ _ _ _ _ _ _ L7 L5) ?_
    intro qw42 qg43
    replace A := A.since qg43
    replace qB12 := qB12.since qg43
    replace qB20 := qB20.since qg43
    replace qB28 := qB28.since qg43
    replace H4 := H4.since qg43
    replace H5 := H5.since qg43
    replace L5 := L5.since qg43
    replace H7 := H7.since qg43
    replace L7 := L7.since qg43
    replace H6 := H6.since qg43
    replace G := G.trans qg43
    have qg43_s := qg43.size
    refine vV (.bool false) ?_
    refine vV (.bool false) ?_
    refine vE #[.agg (cnCells c0),.int .i64 b1,.pointer (some ⟨w.heap.size, 0, none⟩),U,.bool false,.int .i64 r,.pointer (some ⟨qw5.heap.size, 0, none⟩),.slice (some ⟨gs5, 0, none⟩) XS.length ps5,.pointer (some ⟨qw13.heap.size, 0, none⟩),.pointer (some ⟨qw21.heap.size, 0, none⟩),.slice (some ⟨gs7, 0, none⟩) XS.length ps7,.int .i64 (1 + 2 * c0.pn),U,U,U,U,.agg (cnCells c0),.int .i64 1048576,.int .i64 r,.int .i64 r,.bool (decide (r < 0)),.tuple #[.agg (cnCells { D with pa := some ⟨g5, 0, none⟩, pc := p5 }), .slice (some ⟨gs5, 0, none⟩) XS.length ps5],.agg (cnCells c0),.agg (cnCells { c0 with pa := some ⟨g4, 0, none⟩, pc := c0.pn }),.int .i64 b1,.tuple #[.agg (cnCells { D with pa := some ⟨g5, 0, none⟩, pc := p5 }), .slice (some ⟨gs5, 0, none⟩) XS.length ps5],.agg (cnCells { D with pa := some ⟨g5, 0, none⟩, pc := p5 }),.slice (some ⟨gs5, 0, none⟩) XS.length ps5,.agg (cnCells c0),.agg (cnCells { c0 with pa := some ⟨g6, 0, none⟩, pc := c0.pn }),.tuple #[.agg (cnCells { D with pa := some ⟨g7, 0, none⟩, pc := p7 }), .slice (some ⟨gs7, 0, none⟩) XS.length ps7],.agg (cnCells { c0 with pa := some ⟨g6, 0, none⟩, pc := c0.pn }),.int .i64 b1,.tuple #[.agg (cnCells { D with pa := some ⟨g7, 0, none⟩, pc := p7 }), .slice (some ⟨gs7, 0, none⟩) XS.length ps7],.agg (cnCells { D with pa := some ⟨g7, 0, none⟩, pc := p7 }),.slice (some ⟨gs7, 0, none⟩) XS.length ps7,.agg (cnCells { D with pa := some ⟨g7, 0, none⟩, pc := p7 }),.agg (cnCells { D with pa := some ⟨g5, 0, none⟩, pc := p5 }),.bool true,.bool false,.bool false,.slice (some ⟨gs7, 0, none⟩) XS.length ps7,.slice (some ⟨gs5, 0, none⟩) XS.length ps5,.bool true,.bool false,.bool false,.agg (cnCells { c0 with pa := some ⟨g6, 0, none⟩, pc := c0.pn }),.agg (cnCells c0),.agg (cnCells { c0 with pa := some ⟨gt, 0, none⟩, pc := c0.pn }),.bool true,.bool false,.agg (cnCells { c0 with pa := some ⟨g6, 0, none⟩, pc := c0.pn }),.int .i64 1,.int .i64 (1 + 2 * c0.pn),.int .i64 (1 + 2 * c0.pn),.bool false,.bool false,.agg (cnCells { D with pa := some ⟨g7, 0, none⟩, pc := p7 }),.agg (cnCells { D with pa := some ⟨g5, 0, none⟩, pc := p5 }),.bool true,.bool false,.bool false,.bool false,.slice (some ⟨gs7, 0, none⟩) XS.length ps7,.slice (some ⟨gs5, 0, none⟩) XS.length ps5,.bool true,.bool false,.bool false,U,U,U,U,U,U,U,U,U,U,U,U,U,U,U,U,U,U,U,U,U,U,U,U,U,U,U,U,U,U,U,U,U,U,U,U,U,U,U,U,U,U,U,U,U,U,U,U,U] ?_
    go_upto_region 17 with (fail)
    refine vR ?_
    refine vB cn_big qB28 (cn_size _) ?_
    refine vV (.int .i64 1) ?_
    refine vC (markCn D g7 _ _ _ 1 (by omega) (by omega) _ H7) ?_
    have H7_2 := H7.low'
    rintro _ qw46 ⟨rfl, qt47, ms9, hM9, H7n⟩
    refine ⟨_, rfl, ?_⟩
    clear H7
    have H7 := H7n
    clear H7n
    replace A := A.touch qt47 (by omega)
    replace qB12 := qB12.touch qt47 (by omega)
    replace qB20 := qB20.touch qt47 (by omega)
    replace qB28 := qB28.touch qt47 (by omega)
    replace H4 := H4.touch qt47 (by omega)
    replace H5 := H5.touch qt47 (by omega)
    replace L5 := L5.touch qt47 (by omega)
    replace L7 := L7.touch qt47 (by omega)
    replace H6 := H6.touch qt47 (by omega)
    replace G := since_touch G qt47 (by omega)
    have qt47_s := qt47.size
    refine vV (.int .i64 (1 + 2 * D.pn)) ?_
    refine vE #[.agg (cnCells c0),.int .i64 b1,.pointer (some ⟨w.heap.size, 0, none⟩),U,.bool false,.int .i64 r,.pointer (some ⟨qw5.heap.size, 0, none⟩),.slice (some ⟨gs5, 0, none⟩) XS.length ps5,.pointer (some ⟨qw13.heap.size, 0, none⟩),.pointer (some ⟨qw21.heap.size, 0, none⟩),.slice (some ⟨gs7, 0, none⟩) XS.length ps7,.int .i64 (1 + 2 * c0.pn),.int .i64 (1 + 2 * D.pn),U,U,U,.agg (cnCells c0),.int .i64 1048576,.int .i64 r,.int .i64 r,.bool (decide (r < 0)),.tuple #[.agg (cnCells { D with pa := some ⟨g5, 0, none⟩, pc := p5 }), .slice (some ⟨gs5, 0, none⟩) XS.length ps5],.agg (cnCells c0),.agg (cnCells { c0 with pa := some ⟨g4, 0, none⟩, pc := c0.pn }),.int .i64 b1,.tuple #[.agg (cnCells { D with pa := some ⟨g5, 0, none⟩, pc := p5 }), .slice (some ⟨gs5, 0, none⟩) XS.length ps5],.agg (cnCells { D with pa := some ⟨g5, 0, none⟩, pc := p5 }),.slice (some ⟨gs5, 0, none⟩) XS.length ps5,.agg (cnCells c0),.agg (cnCells { c0 with pa := some ⟨g6, 0, none⟩, pc := c0.pn }),.tuple #[.agg (cnCells { D with pa := some ⟨g7, 0, none⟩, pc := p7 }), .slice (some ⟨gs7, 0, none⟩) XS.length ps7],.agg (cnCells { c0 with pa := some ⟨g6, 0, none⟩, pc := c0.pn }),.int .i64 b1,.tuple #[.agg (cnCells { D with pa := some ⟨g7, 0, none⟩, pc := p7 }), .slice (some ⟨gs7, 0, none⟩) XS.length ps7],.agg (cnCells { D with pa := some ⟨g7, 0, none⟩, pc := p7 }),.slice (some ⟨gs7, 0, none⟩) XS.length ps7,.agg (cnCells { D with pa := some ⟨g7, 0, none⟩, pc := p7 }),.agg (cnCells { D with pa := some ⟨g5, 0, none⟩, pc := p5 }),.bool true,.bool false,.bool false,.slice (some ⟨gs7, 0, none⟩) XS.length ps7,.slice (some ⟨gs5, 0, none⟩) XS.length ps5,.bool true,.bool false,.bool false,.agg (cnCells { c0 with pa := some ⟨g6, 0, none⟩, pc := c0.pn }),.agg (cnCells c0),.agg (cnCells { c0 with pa := some ⟨gt, 0, none⟩, pc := c0.pn }),.bool true,.bool false,.agg (cnCells { c0 with pa := some ⟨g6, 0, none⟩, pc := c0.pn }),.int .i64 1,.int .i64 (1 + 2 * c0.pn),.int .i64 (1 + 2 * c0.pn),.bool false,.bool false,.agg (cnCells { D with pa := some ⟨g7, 0, none⟩, pc := p7 }),.agg (cnCells { D with pa := some ⟨g5, 0, none⟩, pc := p5 }),.bool true,.bool false,.bool false,.bool false,.slice (some ⟨gs7, 0, none⟩) XS.length ps7,.slice (some ⟨gs5, 0, none⟩) XS.length ps5,.bool true,.bool false,.bool false,.agg (cnCells { D with pa := some ⟨g7, 0, none⟩, pc := p7 }),.int .i64 1,.int .i64 (1 + 2 * D.pn),U,U,U,U,U,U,U,U,U,U,U,U,U,U,U,U,U,U,U,U,U,U,U,U,U,U,U,U,U,U,U,U,U,U,U,U,U,U,U,U,U,U,U,U,U,U] ?_
    go_upto_region 18 with (fail)
    refine vR ?_
    refine vV (.slice (some ⟨gs7, 0, none⟩) XS.length ps7) ?_
    refine vV (.int .i64 (1 + 2 * D.pn)) ?_
    refine vC (markSegs _ gs7 _ _ _ (1 + 2 * D.pn) (by omega) (by omega) _ L7) ?_
    have L7_2 := L7.low'
    rintro _ qw48 ⟨rfl, qt49, ms10, hM10, L7n⟩
    refine ⟨_, rfl, ?_⟩
    clear L7
    have L7 := L7n
    clear L7n
    replace A := A.touch qt49 (by omega)
    replace qB12 := qB12.touch qt49 (by omega)
    replace qB20 := qB20.touch qt49 (by omega)
    replace qB28 := qB28.touch qt49 (by omega)
    replace H4 := H4.touch qt49 (by omega)
    replace H5 := H5.touch qt49 (by omega)
    replace L5 := L5.touch qt49 (by omega)
    replace H6 := H6.touch qt49 (by omega)
    replace H7 := H7.touch qt49 (by omega)
    replace G := since_touch G qt49 (by omega)
    have qt49_s := qt49.size
    refine vV (.int .i64 ((1 + 2 * D.pn) + 8 * XS.length)) ?_
    refine vE #[.agg (cnCells c0),.int .i64 b1,.pointer (some ⟨w.heap.size, 0, none⟩),U,.bool false,.int .i64 r,.pointer (some ⟨qw5.heap.size, 0, none⟩),.slice (some ⟨gs5, 0, none⟩) XS.length ps5,.pointer (some ⟨qw13.heap.size, 0, none⟩),.pointer (some ⟨qw21.heap.size, 0, none⟩),.slice (some ⟨gs7, 0, none⟩) XS.length ps7,.int .i64 (1 + 2 * c0.pn),.int .i64 ((1 + 2 * D.pn) + 8 * XS.length),U,U,U,.agg (cnCells c0),.int .i64 1048576,.int .i64 r,.int .i64 r,.bool (decide (r < 0)),.tuple #[.agg (cnCells { D with pa := some ⟨g5, 0, none⟩, pc := p5 }), .slice (some ⟨gs5, 0, none⟩) XS.length ps5],.agg (cnCells c0),.agg (cnCells { c0 with pa := some ⟨g4, 0, none⟩, pc := c0.pn }),.int .i64 b1,.tuple #[.agg (cnCells { D with pa := some ⟨g5, 0, none⟩, pc := p5 }), .slice (some ⟨gs5, 0, none⟩) XS.length ps5],.agg (cnCells { D with pa := some ⟨g5, 0, none⟩, pc := p5 }),.slice (some ⟨gs5, 0, none⟩) XS.length ps5,.agg (cnCells c0),.agg (cnCells { c0 with pa := some ⟨g6, 0, none⟩, pc := c0.pn }),.tuple #[.agg (cnCells { D with pa := some ⟨g7, 0, none⟩, pc := p7 }), .slice (some ⟨gs7, 0, none⟩) XS.length ps7],.agg (cnCells { c0 with pa := some ⟨g6, 0, none⟩, pc := c0.pn }),.int .i64 b1,.tuple #[.agg (cnCells { D with pa := some ⟨g7, 0, none⟩, pc := p7 }), .slice (some ⟨gs7, 0, none⟩) XS.length ps7],.agg (cnCells { D with pa := some ⟨g7, 0, none⟩, pc := p7 }),.slice (some ⟨gs7, 0, none⟩) XS.length ps7,.agg (cnCells { D with pa := some ⟨g7, 0, none⟩, pc := p7 }),.agg (cnCells { D with pa := some ⟨g5, 0, none⟩, pc := p5 }),.bool true,.bool false,.bool false,.slice (some ⟨gs7, 0, none⟩) XS.length ps7,.slice (some ⟨gs5, 0, none⟩) XS.length ps5,.bool true,.bool false,.bool false,.agg (cnCells { c0 with pa := some ⟨g6, 0, none⟩, pc := c0.pn }),.agg (cnCells c0),.agg (cnCells { c0 with pa := some ⟨gt, 0, none⟩, pc := c0.pn }),.bool true,.bool false,.agg (cnCells { c0 with pa := some ⟨g6, 0, none⟩, pc := c0.pn }),.int .i64 1,.int .i64 (1 + 2 * c0.pn),.int .i64 (1 + 2 * c0.pn),.bool false,.bool false,.agg (cnCells { D with pa := some ⟨g7, 0, none⟩, pc := p7 }),.agg (cnCells { D with pa := some ⟨g5, 0, none⟩, pc := p5 }),.bool true,.bool false,.bool false,.bool false,.slice (some ⟨gs7, 0, none⟩) XS.length ps7,.slice (some ⟨gs5, 0, none⟩) XS.length ps5,.bool true,.bool false,.bool false,.agg (cnCells { D with pa := some ⟨g7, 0, none⟩, pc := p7 }),.int .i64 1,.int .i64 (1 + 2 * D.pn),.slice (some ⟨gs7, 0, none⟩) XS.length ps7,.int .i64 (1 + 2 * D.pn),.int .i64 ((1 + 2 * D.pn) + 8 * XS.length),U,U,U,U,U,U,U,U,U,U,U,U,U,U,U,U,U,U,U,U,U,U,U,U,U,U,U,U,U,U,U,U,U,U,U,U,U,U,U,U,U,U,U] ?_
    go_upto_region 20 with (fail)
    refine vR ?_
    refine vB cn_big qB28 (cn_size _) ?_
    refine vV (.int .i64 1) ?_
    refine vK (heldCn D g7 _ _ _ 1 (by omega) (by omega) _ H7 hM9) ?_
    intro qw50 qg51
    replace A := A.since qg51
    replace qB12 := qB12.since qg51
    replace qB20 := qB20.since qg51
    replace qB28 := qB28.since qg51
    replace H4 := H4.since qg51
    replace H5 := H5.since qg51
    replace L5 := L5.since qg51
    replace H6 := H6.since qg51
    replace H7 := H7.since qg51
    replace L7 := L7.since qg51
    replace G := G.trans qg51
    have qg51_s := qg51.size
    refine vV (.int .i64 (1 + 2 * D.pn)) ?_
    refine vE #[.agg (cnCells c0),.int .i64 b1,.pointer (some ⟨w.heap.size, 0, none⟩),U,.bool false,.int .i64 r,.pointer (some ⟨qw5.heap.size, 0, none⟩),.slice (some ⟨gs5, 0, none⟩) XS.length ps5,.pointer (some ⟨qw13.heap.size, 0, none⟩),.pointer (some ⟨qw21.heap.size, 0, none⟩),.slice (some ⟨gs7, 0, none⟩) XS.length ps7,.int .i64 (1 + 2 * c0.pn),.int .i64 ((1 + 2 * D.pn) + 8 * XS.length),.int .i64 (1 + 2 * D.pn),U,U,.agg (cnCells c0),.int .i64 1048576,.int .i64 r,.int .i64 r,.bool (decide (r < 0)),.tuple #[.agg (cnCells { D with pa := some ⟨g5, 0, none⟩, pc := p5 }), .slice (some ⟨gs5, 0, none⟩) XS.length ps5],.agg (cnCells c0),.agg (cnCells { c0 with pa := some ⟨g4, 0, none⟩, pc := c0.pn }),.int .i64 b1,.tuple #[.agg (cnCells { D with pa := some ⟨g5, 0, none⟩, pc := p5 }), .slice (some ⟨gs5, 0, none⟩) XS.length ps5],.agg (cnCells { D with pa := some ⟨g5, 0, none⟩, pc := p5 }),.slice (some ⟨gs5, 0, none⟩) XS.length ps5,.agg (cnCells c0),.agg (cnCells { c0 with pa := some ⟨g6, 0, none⟩, pc := c0.pn }),.tuple #[.agg (cnCells { D with pa := some ⟨g7, 0, none⟩, pc := p7 }), .slice (some ⟨gs7, 0, none⟩) XS.length ps7],.agg (cnCells { c0 with pa := some ⟨g6, 0, none⟩, pc := c0.pn }),.int .i64 b1,.tuple #[.agg (cnCells { D with pa := some ⟨g7, 0, none⟩, pc := p7 }), .slice (some ⟨gs7, 0, none⟩) XS.length ps7],.agg (cnCells { D with pa := some ⟨g7, 0, none⟩, pc := p7 }),.slice (some ⟨gs7, 0, none⟩) XS.length ps7,.agg (cnCells { D with pa := some ⟨g7, 0, none⟩, pc := p7 }),.agg (cnCells { D with pa := some ⟨g5, 0, none⟩, pc := p5 }),.bool true,.bool false,.bool false,.slice (some ⟨gs7, 0, none⟩) XS.length ps7,.slice (some ⟨gs5, 0, none⟩) XS.length ps5,.bool true,.bool false,.bool false,.agg (cnCells { c0 with pa := some ⟨g6, 0, none⟩, pc := c0.pn }),.agg (cnCells c0),.agg (cnCells { c0 with pa := some ⟨gt, 0, none⟩, pc := c0.pn }),.bool true,.bool false,.agg (cnCells { c0 with pa := some ⟨g6, 0, none⟩, pc := c0.pn }),.int .i64 1,.int .i64 (1 + 2 * c0.pn),.int .i64 (1 + 2 * c0.pn),.bool false,.bool false,.agg (cnCells { D with pa := some ⟨g7, 0, none⟩, pc := p7 }),.agg (cnCells { D with pa := some ⟨g5, 0, none⟩, pc := p5 }),.bool true,.bool false,.bool false,.bool false,.slice (some ⟨gs7, 0, none⟩) XS.length ps7,.slice (some ⟨gs5, 0, none⟩) XS.length ps5,.bool true,.bool false,.bool false,.agg (cnCells { D with pa := some ⟨g7, 0, none⟩, pc := p7 }),.int .i64 1,.int .i64 (1 + 2 * D.pn),.slice (some ⟨gs7, 0, none⟩) XS.length ps7,.int .i64 (1 + 2 * D.pn),.int .i64 ((1 + 2 * D.pn) + 8 * XS.length),.agg (cnCells { D with pa := some ⟨g7, 0, none⟩, pc := p7 }),.int .i64 1,.int .i64 (1 + 2 * D.pn),U,U,U,U,U,U,U,U,U,U,U,U,U,U,U,U,U,U,U,U,U,U,U,U,U,U,U,U,U,U,U,U,U,U,U,U,U,U,U,U] ?_
    go_upto_region 23 with (fail)
    refine vR ?_
    refine vV (.slice (some ⟨gs7, 0, none⟩) XS.length ps7) ?_
    refine vV (.int .i64 (1 + 2 * D.pn)) ?_
    refine vK (heldSegs _ gs7 _ _ _ (1 + 2 * D.pn) (by omega) (by omega) _ L7 hM10) ?_
    intro qw52 qg53
    replace A := A.since qg53
    replace qB12 := qB12.since qg53
    replace qB20 := qB20.since qg53
    replace qB28 := qB28.since qg53
    replace H4 := H4.since qg53
    replace H5 := H5.since qg53
    replace L5 := L5.since qg53
    replace H6 := H6.since qg53
    replace H7 := H7.since qg53
    replace L7 := L7.since qg53
    replace G := G.trans qg53
    have qg53_s := qg53.size
    refine vV (.int .i64 ((1 + 2 * D.pn) + 8 * XS.length)) ?_
    refine vE #[.agg (cnCells c0),.int .i64 b1,.pointer (some ⟨w.heap.size, 0, none⟩),U,.bool false,.int .i64 r,.pointer (some ⟨qw5.heap.size, 0, none⟩),.slice (some ⟨gs5, 0, none⟩) XS.length ps5,.pointer (some ⟨qw13.heap.size, 0, none⟩),.pointer (some ⟨qw21.heap.size, 0, none⟩),.slice (some ⟨gs7, 0, none⟩) XS.length ps7,.int .i64 (1 + 2 * c0.pn),.int .i64 ((1 + 2 * D.pn) + 8 * XS.length),.int .i64 ((1 + 2 * D.pn) + 8 * XS.length),U,U,.agg (cnCells c0),.int .i64 1048576,.int .i64 r,.int .i64 r,.bool (decide (r < 0)),.tuple #[.agg (cnCells { D with pa := some ⟨g5, 0, none⟩, pc := p5 }), .slice (some ⟨gs5, 0, none⟩) XS.length ps5],.agg (cnCells c0),.agg (cnCells { c0 with pa := some ⟨g4, 0, none⟩, pc := c0.pn }),.int .i64 b1,.tuple #[.agg (cnCells { D with pa := some ⟨g5, 0, none⟩, pc := p5 }), .slice (some ⟨gs5, 0, none⟩) XS.length ps5],.agg (cnCells { D with pa := some ⟨g5, 0, none⟩, pc := p5 }),.slice (some ⟨gs5, 0, none⟩) XS.length ps5,.agg (cnCells c0),.agg (cnCells { c0 with pa := some ⟨g6, 0, none⟩, pc := c0.pn }),.tuple #[.agg (cnCells { D with pa := some ⟨g7, 0, none⟩, pc := p7 }), .slice (some ⟨gs7, 0, none⟩) XS.length ps7],.agg (cnCells { c0 with pa := some ⟨g6, 0, none⟩, pc := c0.pn }),.int .i64 b1,.tuple #[.agg (cnCells { D with pa := some ⟨g7, 0, none⟩, pc := p7 }), .slice (some ⟨gs7, 0, none⟩) XS.length ps7],.agg (cnCells { D with pa := some ⟨g7, 0, none⟩, pc := p7 }),.slice (some ⟨gs7, 0, none⟩) XS.length ps7,.agg (cnCells { D with pa := some ⟨g7, 0, none⟩, pc := p7 }),.agg (cnCells { D with pa := some ⟨g5, 0, none⟩, pc := p5 }),.bool true,.bool false,.bool false,.slice (some ⟨gs7, 0, none⟩) XS.length ps7,.slice (some ⟨gs5, 0, none⟩) XS.length ps5,.bool true,.bool false,.bool false,.agg (cnCells { c0 with pa := some ⟨g6, 0, none⟩, pc := c0.pn }),.agg (cnCells c0),.agg (cnCells { c0 with pa := some ⟨gt, 0, none⟩, pc := c0.pn }),.bool true,.bool false,.agg (cnCells { c0 with pa := some ⟨g6, 0, none⟩, pc := c0.pn }),.int .i64 1,.int .i64 (1 + 2 * c0.pn),.int .i64 (1 + 2 * c0.pn),.bool false,.bool false,.agg (cnCells { D with pa := some ⟨g7, 0, none⟩, pc := p7 }),.agg (cnCells { D with pa := some ⟨g5, 0, none⟩, pc := p5 }),.bool true,.bool false,.bool false,.bool false,.slice (some ⟨gs7, 0, none⟩) XS.length ps7,.slice (some ⟨gs5, 0, none⟩) XS.length ps5,.bool true,.bool false,.bool false,.agg (cnCells { D with pa := some ⟨g7, 0, none⟩, pc := p7 }),.int .i64 1,.int .i64 (1 + 2 * D.pn),.slice (some ⟨gs7, 0, none⟩) XS.length ps7,.int .i64 (1 + 2 * D.pn),.int .i64 ((1 + 2 * D.pn) + 8 * XS.length),.agg (cnCells { D with pa := some ⟨g7, 0, none⟩, pc := p7 }),.int .i64 1,.int .i64 (1 + 2 * D.pn),.int .i64 (1 + 2 * D.pn),.bool (decide ((1 + 2 * D.pn) < 0)),.slice (some ⟨gs7, 0, none⟩) XS.length ps7,.int .i64 (1 + 2 * D.pn),.int .i64 ((1 + 2 * D.pn) + 8 * XS.length),U,U,U,U,U,U,U,U,U,U,U,U,U,U,U,U,U,U,U,U,U,U,U,U,U,U,U,U,U,U,U,U,U,U,U] ?_
    go_upto_region 28 with (fail)
    refine vR ?_
    refine vB lcn_big A (cn_size _) ?_
    refine vC (hT _ (R0.since G)) ?_
    rintro _ qw54 ⟨g11, rfl, H11, qg55⟩
    refine ⟨_, rfl, ?_⟩
    replace A := A.since qg55
    replace qB12 := qB12.since qg55
    replace qB20 := qB20.since qg55
    replace qB28 := qB28.since qg55
    replace H4 := H4.since qg55
    replace H5 := H5.since qg55
    replace L5 := L5.since qg55
    replace H6 := H6.since qg55
    replace H7 := H7.since qg55
    replace L7 := L7.since qg55
    replace G := G.trans qg55
    have qg55_s := qg55.size
    have H11_0 := H11.low'
    replace H11 := H11.raise (show w.heap.size ≤ g11 by omega)
    have H11_1 := H11.lt
    refine vV (.int .i64 b1) ?_
    refine vC (hi g11 _ H11.reads) ?_
    rintro _ qw56 ⟨g12, p12, gs12, n12, ps12, rfl, H12, L12, hne12, qg57⟩
    refine ⟨_, rfl, ?_⟩
    replace A := A.since qg57
    replace qB12 := qB12.since qg57
    replace qB20 := qB20.since qg57
    replace qB28 := qB28.since qg57
    replace H4 := H4.since qg57
    replace H5 := H5.since qg57
    replace L5 := L5.since qg57
    replace H6 := H6.since qg57
    replace H7 := H7.since qg57
    replace L7 := L7.since qg57
    replace H11 := H11.since qg57
    replace G := G.trans qg57
    have qg57_s := qg57.size
    have L12_n := L12.len
    subst L12_n
    have H12_0 := H12.low'
    replace H12 := H12.raise (show w.heap.size ≤ g12 by omega)
    have H12_1 := H12.lt
    have L12_0 := L12.low'
    replace L12 := L12.raise (show w.heap.size ≤ gs12 by omega)
    have L12_1 := L12.lt
    refine vV (.tuple #[.agg (cnCells { D with pa := some ⟨g12, 0, none⟩, pc := p12 }), .slice (some ⟨gs12, 0, none⟩) XS.length ps12]) ?_
    refine vV (.agg (cnCells { D with pa := some ⟨g12, 0, none⟩, pc := p12 })) ?_
    refine vV (.slice (some ⟨gs12, 0, none⟩) XS.length ps12) ?_
    refine vW (qw56.alloc (.cells (cnCells cnZero) 42)) (.pointer (some ⟨qw56.heap.size, 0, none⟩)) ?_
    have qB59 := Blk.new qw56 (cnCells cnZero) 42
    have qg60 := (Since.refl qw56).alloc (.cells (cnCells cnZero) 42)
    replace A := A.since qg60
    replace qB12 := qB12.since qg60
    replace qB20 := qB20.since qg60
    replace qB28 := qB28.since qg60
    replace H4 := H4.since qg60
    replace H5 := H5.since qg60
    replace L5 := L5.since qg60
    replace H6 := H6.since qg60
    replace H7 := H7.since qg60
    replace L7 := L7.since qg60
    replace H11 := H11.since qg60
    replace H12 := H12.since qg60
    replace L12 := L12.since qg60
    replace G := G.trans qg60
    generalize qw56.alloc (.cells (cnCells cnZero) 42) = qw58 at A qB12 qB20 qB28 H4 H5 L5 H6 H7 L7 H11 H12 L12 G qB59 qg60 ⊢
    have qB59_l := qB59.lt
    have qg60_s := qg60.size
    refine sB (cnCells { D with pa := some ⟨g12, 0, none⟩, pc := p12 }) cn_big qB59 (cn_size _) (cn_size _) (cn_one _) ?_
    intro qw61 qt62 qB63
    clear qB59
    replace A := A.touch qt62 (by omega)
    replace qB12 := qB12.touch qt62 (by omega)
    replace qB20 := qB20.touch qt62 (by omega)
    replace qB28 := qB28.touch qt62 (by omega)
    replace H4 := H4.touch qt62 (by omega)
    replace H5 := H5.touch qt62 (by omega)
    replace L5 := L5.touch qt62 (by omega)
    replace H6 := H6.touch qt62 (by omega)
    replace H7 := H7.touch qt62 (by omega)
    replace L7 := L7.touch qt62 (by omega)
    replace H11 := H11.touch qt62 (by omega)
    replace H12 := H12.touch qt62 (by omega)
    replace L12 := L12.touch qt62 (by omega)
    replace G := since_touch G qt62 (by omega)
    have qt62_s := qt62.size
    refine vV (.slice (some ⟨gs12, 0, none⟩) XS.length ps12) ?_
    refine vE #[.agg (cnCells c0),.int .i64 b1,.pointer (some ⟨w.heap.size, 0, none⟩),U,.bool false,.int .i64 r,.pointer (some ⟨qw5.heap.size, 0, none⟩),.slice (some ⟨gs5, 0, none⟩) XS.length ps5,.pointer (some ⟨qw13.heap.size, 0, none⟩),.pointer (some ⟨qw21.heap.size, 0, none⟩),.slice (some ⟨gs7, 0, none⟩) XS.length ps7,.int .i64 (1 + 2 * c0.pn),.int .i64 ((1 + 2 * D.pn) + 8 * XS.length),.int .i64 ((1 + 2 * D.pn) + 8 * XS.length),.pointer (some ⟨qw56.heap.size, 0, none⟩),.slice (some ⟨gs12, 0, none⟩) XS.length ps12,.agg (cnCells c0),.int .i64 1048576,.int .i64 r,.int .i64 r,.bool (decide (r < 0)),.tuple #[.agg (cnCells { D with pa := some ⟨g5, 0, none⟩, pc := p5 }), .slice (some ⟨gs5, 0, none⟩) XS.length ps5],.agg (cnCells c0),.agg (cnCells { c0 with pa := some ⟨g4, 0, none⟩, pc := c0.pn }),.int .i64 b1,.tuple #[.agg (cnCells { D with pa := some ⟨g5, 0, none⟩, pc := p5 }), .slice (some ⟨gs5, 0, none⟩) XS.length ps5],.agg (cnCells { D with pa := some ⟨g5, 0, none⟩, pc := p5 }),.slice (some ⟨gs5, 0, none⟩) XS.length ps5,.agg (cnCells c0),.agg (cnCells { c0 with pa := some ⟨g6, 0, none⟩, pc := c0.pn }),.tuple #[.agg (cnCells { D with pa := some ⟨g7, 0, none⟩, pc := p7 }), .slice (some ⟨gs7, 0, none⟩) XS.length ps7],.agg (cnCells { c0 with pa := some ⟨g6, 0, none⟩, pc := c0.pn }),.int .i64 b1,.tuple #[.agg (cnCells { D with pa := some ⟨g7, 0, none⟩, pc := p7 }), .slice (some ⟨gs7, 0, none⟩) XS.length ps7],.agg (cnCells { D with pa := some ⟨g7, 0, none⟩, pc := p7 }),.slice (some ⟨gs7, 0, none⟩) XS.length ps7,.agg (cnCells { D with pa := some ⟨g7, 0, none⟩, pc := p7 }),.agg (cnCells { D with pa := some ⟨g5, 0, none⟩, pc := p5 }),.bool true,.bool false,.bool false,.slice (some ⟨gs7, 0, none⟩) XS.length ps7,.slice (some ⟨gs5, 0, none⟩) XS.length ps5,.bool true,.bool false,.bool false,.agg (cnCells { c0 with pa := some ⟨g6, 0, none⟩, pc := c0.pn }),.agg (cnCells c0),.agg (cnCells { c0 with pa := some ⟨gt, 0, none⟩, pc := c0.pn }),.bool true,.bool false,.agg (cnCells { c0 with pa := some ⟨g6, 0, none⟩, pc := c0.pn }),.int .i64 1,.int .i64 (1 + 2 * c0.pn),.int .i64 (1 + 2 * c0.pn),.bool false,.bool false,.agg (cnCells { D with pa := some ⟨g7, 0, none⟩, pc := p7 }),.agg (cnCells { D with pa := some ⟨g5, 0, none⟩, pc := p5 }),.bool true,.bool false,.bool false,.bool false,.slice (some ⟨gs7, 0, none⟩) XS.length ps7,.slice (some ⟨gs5, 0, none⟩) XS.length ps5,.bool true,.bool false,.bool false,.agg (cnCells { D with pa := some ⟨g7, 0, none⟩, pc := p7 }),.int .i64 1,.int .i64 (1 + 2 * D.pn),.slice (some ⟨gs7, 0, none⟩) XS.length ps7,.int .i64 (1 + 2 * D.pn),.int .i64 ((1 + 2 * D.pn) + 8 * XS.length),.agg (cnCells { D with pa := some ⟨g7, 0, none⟩, pc := p7 }),.int .i64 1,.int .i64 (1 + 2 * D.pn),.int .i64 (1 + 2 * D.pn),.bool (decide ((1 + 2 * D.pn) < 0)),.slice (some ⟨gs7, 0, none⟩) XS.length ps7,.int .i64 (1 + 2 * D.pn),.int .i64 ((1 + 2 * D.pn) + 8 * XS.length),.int .i64 ((1 + 2 * D.pn) + 8 * XS.length),.bool (decide (((1 + 2 * D.pn) + 8 * XS.length) < 0)),.int .i64 ((1 + 2 * D.pn) + 8 * XS.length),.int .i64 ((1 + 2 * D.pn) + 8 * XS.length),.bool false,.tuple #[.agg (cnCells { D with pa := some ⟨g12, 0, none⟩, pc := p12 }), .slice (some ⟨gs12, 0, none⟩) XS.length ps12],.agg (cnCells c0),.agg (cnCells { c0 with pa := some ⟨g11, 0, none⟩, pc := c0.pn }),.int .i64 b1,.tuple #[.agg (cnCells { D with pa := some ⟨g12, 0, none⟩, pc := p12 }), .slice (some ⟨gs12, 0, none⟩) XS.length ps12],.agg (cnCells { D with pa := some ⟨g12, 0, none⟩, pc := p12 }),.slice (some ⟨gs12, 0, none⟩) XS.length ps12,U,U,U,U,U,U,U,U,U,U,U,U,U,U,U,U,U,U,U,U,U,U,U] ?_
    go_upto_region 29 with (fail)
    refine vR ?_
    refine vB cn_big qB63 (cn_size _) ?_
    refine vB cn_big qB12 (cn_size _) ?_
    refine vK (kT _ _ _ _ _ _ _ H12 H5) ?_
    intro qw64 qg65
    replace A := A.since qg65
    replace qB12 := qB12.since qg65
    replace qB20 := qB20.since qg65
    replace qB28 := qB28.since qg65
    replace qB63 := qB63.since qg65
    replace H4 := H4.since qg65
    replace H5 := H5.since qg65
    replace L5 := L5.since qg65
    replace H6 := H6.since qg65
    replace H7 := H7.since qg65
    replace L7 := L7.since qg65
    replace H11 := H11.since qg65
    replace H12 := H12.since qg65
    replace L12 := L12.since qg65
    replace G := G.trans qg65
    have qg65_s := qg65.size
    refine vV (.bool false) ?_
    refine vV (.bool false) ?_
    refine vV (.slice (some ⟨gs12, 0, none⟩) XS.length ps12) ?_
    refine vV (.slice (some ⟨gs5, 0, none⟩) XS.length ps5) ?_
    refine vK (kS _ _ _ _ _ _ _ L12 L5) ?_
    intro qw66 qg67
    replace A := A.since qg67
    replace qB12 := qB12.since qg67
    replace qB20 := qB20.since qg67
    replace qB28 := qB28.since qg67
    replace qB63 := qB63.since qg67
    replace H4 := H4.since qg67
    replace H5 := H5.since qg67
    replace L5 := L5.since qg67
    replace H6 := H6.since qg67
    replace H7 := H7.since qg67
    replace L7 := L7.since qg67
    replace H11 := H11.since qg67
    replace H12 := H12.since qg67
    replace L12 := L12.since qg67
    replace G := G.trans qg67
    have qg67_s := qg67.size
    refine vV (.bool false) ?_
    refine vV (.bool false) ?_
    refine vE #[.agg (cnCells c0),.int .i64 b1,.pointer (some ⟨w.heap.size, 0, none⟩),U,.bool false,.int .i64 r,.pointer (some ⟨qw5.heap.size, 0, none⟩),.slice (some ⟨gs5, 0, none⟩) XS.length ps5,.pointer (some ⟨qw13.heap.size, 0, none⟩),.pointer (some ⟨qw21.heap.size, 0, none⟩),.slice (some ⟨gs7, 0, none⟩) XS.length ps7,.int .i64 (1 + 2 * c0.pn),.int .i64 ((1 + 2 * D.pn) + 8 * XS.length),.int .i64 ((1 + 2 * D.pn) + 8 * XS.length),.pointer (some ⟨qw56.heap.size, 0, none⟩),.slice (some ⟨gs12, 0, none⟩) XS.length ps12,.agg (cnCells c0),.int .i64 1048576,.int .i64 r,.int .i64 r,.bool (decide (r < 0)),.tuple #[.agg (cnCells { D with pa := some ⟨g5, 0, none⟩, pc := p5 }), .slice (some ⟨gs5, 0, none⟩) XS.length ps5],.agg (cnCells c0),.agg (cnCells { c0 with pa := some ⟨g4, 0, none⟩, pc := c0.pn }),.int .i64 b1,.tuple #[.agg (cnCells { D with pa := some ⟨g5, 0, none⟩, pc := p5 }), .slice (some ⟨gs5, 0, none⟩) XS.length ps5],.agg (cnCells { D with pa := some ⟨g5, 0, none⟩, pc := p5 }),.slice (some ⟨gs5, 0, none⟩) XS.length ps5,.agg (cnCells c0),.agg (cnCells { c0 with pa := some ⟨g6, 0, none⟩, pc := c0.pn }),.tuple #[.agg (cnCells { D with pa := some ⟨g7, 0, none⟩, pc := p7 }), .slice (some ⟨gs7, 0, none⟩) XS.length ps7],.agg (cnCells { c0 with pa := some ⟨g6, 0, none⟩, pc := c0.pn }),.int .i64 b1,.tuple #[.agg (cnCells { D with pa := some ⟨g7, 0, none⟩, pc := p7 }), .slice (some ⟨gs7, 0, none⟩) XS.length ps7],.agg (cnCells { D with pa := some ⟨g7, 0, none⟩, pc := p7 }),.slice (some ⟨gs7, 0, none⟩) XS.length ps7,.agg (cnCells { D with pa := some ⟨g7, 0, none⟩, pc := p7 }),.agg (cnCells { D with pa := some ⟨g5, 0, none⟩, pc := p5 }),.bool true,.bool false,.bool false,.slice (some ⟨gs7, 0, none⟩) XS.length ps7,.slice (some ⟨gs5, 0, none⟩) XS.length ps5,.bool true,.bool false,.bool false,.agg (cnCells { c0 with pa := some ⟨g6, 0, none⟩, pc := c0.pn }),.agg (cnCells c0),.agg (cnCells { c0 with pa := some ⟨gt, 0, none⟩, pc := c0.pn }),.bool true,.bool false,.agg (cnCells { c0 with pa := some ⟨g6, 0, none⟩, pc := c0.pn }),.int .i64 1,.int .i64 (1 + 2 * c0.pn),.int .i64 (1 + 2 * c0.pn),.bool false,.bool false,.agg (cnCells { D with pa := some ⟨g7, 0, none⟩, pc := p7 }),.agg (cnCells { D with pa := some ⟨g5, 0, none⟩, pc := p5 }),.bool true,.bool false,.bool false,.bool false,.slice (some ⟨gs7, 0, none⟩) XS.length ps7,.slice (some ⟨gs5, 0, none⟩) XS.length ps5,.bool true,.bool false,.bool false,.agg (cnCells { D with pa := some ⟨g7, 0, none⟩, pc := p7 }),.int .i64 1,.int .i64 (1 + 2 * D.pn),.slice (some ⟨gs7, 0, none⟩) XS.length ps7,.int .i64 (1 + 2 * D.pn),.int .i64 ((1 + 2 * D.pn) + 8 * XS.length),.agg (cnCells { D with pa := some ⟨g7, 0, none⟩, pc := p7 }),.int .i64 1,.int .i64 (1 + 2 * D.pn),.int .i64 (1 + 2 * D.pn),.bool (decide ((1 + 2 * D.pn) < 0)),.slice (some ⟨gs7, 0, none⟩) XS.length ps7,.int .i64 (1 + 2 * D.pn),.int .i64 ((1 + 2 * D.pn) + 8 * XS.length),.int .i64 ((1 + 2 * D.pn) + 8 * XS.length),.bool (decide (((1 + 2 * D.pn) + 8 * XS.length) < 0)),.int .i64 ((1 + 2 * D.pn) + 8 * XS.length),.int .i64 ((1 + 2 * D.pn) + 8 * XS.length),.bool false,.tuple #[.agg (cnCells { D with pa := some ⟨g12, 0, none⟩, pc := p12 }), .slice (some ⟨gs12, 0, none⟩) XS.length ps12],.agg (cnCells c0),.agg (cnCells { c0 with pa := some ⟨g11, 0, none⟩, pc := c0.pn }),.int .i64 b1,.tuple #[.agg (cnCells { D with pa := some ⟨g12, 0, none⟩, pc := p12 }), .slice (some ⟨gs12, 0, none⟩) XS.length ps12],.agg (cnCells { D with pa := some ⟨g12, 0, none⟩, pc := p12 }),.slice (some ⟨gs12, 0, none⟩) XS.length ps12,.agg (cnCells { D with pa := some ⟨g12, 0, none⟩, pc := p12 }),.agg (cnCells { D with pa := some ⟨g5, 0, none⟩, pc := p5 }),.bool true,.bool false,.bool false,.slice (some ⟨gs12, 0, none⟩) XS.length ps12,.slice (some ⟨gs5, 0, none⟩) XS.length ps5,.bool true,.bool false,.bool false,U,U,U,U,U,U,U,U,U,U,U,U,U] ?_
    go_upto_region 32 with (fail)
    refine vR ?_
    refine vB cn_big qB28 (cn_size _) ?_
    refine vV (.int .i64 1) ?_
    refine vK (heldCn D g7 _ _ _ 1 (by omega) (by omega) _ H7 hM9) ?_
    intro qw68 qg69
    replace A := A.since qg69
    replace qB12 := qB12.since qg69
    replace qB20 := qB20.since qg69
    replace qB28 := qB28.since qg69
    replace qB63 := qB63.since qg69
    replace H4 := H4.since qg69
    replace H5 := H5.since qg69
    replace L5 := L5.since qg69
    replace H6 := H6.since qg69
    replace H7 := H7.since qg69
    replace L7 := L7.since qg69
    replace H11 := H11.since qg69
    replace H12 := H12.since qg69
    replace L12 := L12.since qg69
    replace G := G.trans qg69
    have qg69_s := qg69.size
    refine vV (.int .i64 (1 + 2 * D.pn)) ?_
    refine vE #[.agg (cnCells c0),.int .i64 b1,.pointer (some ⟨w.heap.size, 0, none⟩),U,.bool false,.int .i64 r,.pointer (some ⟨qw5.heap.size, 0, none⟩),.slice (some ⟨gs5, 0, none⟩) XS.length ps5,.pointer (some ⟨qw13.heap.size, 0, none⟩),.pointer (some ⟨qw21.heap.size, 0, none⟩),.slice (some ⟨gs7, 0, none⟩) XS.length ps7,.int .i64 (1 + 2 * c0.pn),.int .i64 ((1 + 2 * D.pn) + 8 * XS.length),.int .i64 (1 + 2 * D.pn),.pointer (some ⟨qw56.heap.size, 0, none⟩),.slice (some ⟨gs12, 0, none⟩) XS.length ps12,.agg (cnCells c0),.int .i64 1048576,.int .i64 r,.int .i64 r,.bool (decide (r < 0)),.tuple #[.agg (cnCells { D with pa := some ⟨g5, 0, none⟩, pc := p5 }), .slice (some ⟨gs5, 0, none⟩) XS.length ps5],.agg (cnCells c0),.agg (cnCells { c0 with pa := some ⟨g4, 0, none⟩, pc := c0.pn }),.int .i64 b1,.tuple #[.agg (cnCells { D with pa := some ⟨g5, 0, none⟩, pc := p5 }), .slice (some ⟨gs5, 0, none⟩) XS.length ps5],.agg (cnCells { D with pa := some ⟨g5, 0, none⟩, pc := p5 }),.slice (some ⟨gs5, 0, none⟩) XS.length ps5,.agg (cnCells c0),.agg (cnCells { c0 with pa := some ⟨g6, 0, none⟩, pc := c0.pn }),.tuple #[.agg (cnCells { D with pa := some ⟨g7, 0, none⟩, pc := p7 }), .slice (some ⟨gs7, 0, none⟩) XS.length ps7],.agg (cnCells { c0 with pa := some ⟨g6, 0, none⟩, pc := c0.pn }),.int .i64 b1,.tuple #[.agg (cnCells { D with pa := some ⟨g7, 0, none⟩, pc := p7 }), .slice (some ⟨gs7, 0, none⟩) XS.length ps7],.agg (cnCells { D with pa := some ⟨g7, 0, none⟩, pc := p7 }),.slice (some ⟨gs7, 0, none⟩) XS.length ps7,.agg (cnCells { D with pa := some ⟨g7, 0, none⟩, pc := p7 }),.agg (cnCells { D with pa := some ⟨g5, 0, none⟩, pc := p5 }),.bool true,.bool false,.bool false,.slice (some ⟨gs7, 0, none⟩) XS.length ps7,.slice (some ⟨gs5, 0, none⟩) XS.length ps5,.bool true,.bool false,.bool false,.agg (cnCells { c0 with pa := some ⟨g6, 0, none⟩, pc := c0.pn }),.agg (cnCells c0),.agg (cnCells { c0 with pa := some ⟨gt, 0, none⟩, pc := c0.pn }),.bool true,.bool false,.agg (cnCells { c0 with pa := some ⟨g6, 0, none⟩, pc := c0.pn }),.int .i64 1,.int .i64 (1 + 2 * c0.pn),.int .i64 (1 + 2 * c0.pn),.bool false,.bool false,.agg (cnCells { D with pa := some ⟨g7, 0, none⟩, pc := p7 }),.agg (cnCells { D with pa := some ⟨g5, 0, none⟩, pc := p5 }),.bool true,.bool false,.bool false,.bool false,.slice (some ⟨gs7, 0, none⟩) XS.length ps7,.slice (some ⟨gs5, 0, none⟩) XS.length ps5,.bool true,.bool false,.bool false,.agg (cnCells { D with pa := some ⟨g7, 0, none⟩, pc := p7 }),.int .i64 1,.int .i64 (1 + 2 * D.pn),.slice (some ⟨gs7, 0, none⟩) XS.length ps7,.int .i64 (1 + 2 * D.pn),.int .i64 ((1 + 2 * D.pn) + 8 * XS.length),.agg (cnCells { D with pa := some ⟨g7, 0, none⟩, pc := p7 }),.int .i64 1,.int .i64 (1 + 2 * D.pn),.int .i64 (1 + 2 * D.pn),.bool (decide ((1 + 2 * D.pn) < 0)),.slice (some ⟨gs7, 0, none⟩) XS.length ps7,.int .i64 (1 + 2 * D.pn),.int .i64 ((1 + 2 * D.pn) + 8 * XS.length),.int .i64 ((1 + 2 * D.pn) + 8 * XS.length),.bool (decide (((1 + 2 * D.pn) + 8 * XS.length) < 0)),.int .i64 ((1 + 2 * D.pn) + 8 * XS.length),.int .i64 ((1 + 2 * D.pn) + 8 * XS.length),.bool false,.tuple #[.agg (cnCells { D with pa := some ⟨g12, 0, none⟩, pc := p12 }), .slice (some ⟨gs12, 0, none⟩) XS.length ps12],.agg (cnCells c0),.agg (cnCells { c0 with pa := some ⟨g11, 0, none⟩, pc := c0.pn }),.int .i64 b1,.tuple #[.agg (cnCells { D with pa := some ⟨g12, 0, none⟩, pc := p12 }), .slice (some ⟨gs12, 0, none⟩) XS.length ps12],.agg (cnCells { D with pa := some ⟨g12, 0, none⟩, pc := p12 }),.slice (some ⟨gs12, 0, none⟩) XS.length ps12,.agg (cnCells { D with pa := some ⟨g12, 0, none⟩, pc := p12 }),.agg (cnCells { D with pa := some ⟨g5, 0, none⟩, pc := p5 }),.bool true,.bool false,.bool false,.slice (some ⟨gs12, 0, none⟩) XS.length ps12,.slice (some ⟨gs5, 0, none⟩) XS.length ps5,.bool true,.bool false,.bool false,.agg (cnCells { D with pa := some ⟨g7, 0, none⟩, pc := p7 }),.int .i64 1,.int .i64 (1 + 2 * D.pn),U,U,U,U,U,U,U,U,U,U] ?_
    go_upto_region 35 with (fail)
    refine vR ?_
    refine vV (.slice (some ⟨gs7, 0, none⟩) XS.length ps7) ?_
    refine vV (.int .i64 (1 + 2 * D.pn)) ?_
    refine vK (heldSegs _ gs7 _ _ _ (1 + 2 * D.pn) (by omega) (by omega) _ L7 hM10) ?_
    intro qw70 qg71
    replace A := A.since qg71
    replace qB12 := qB12.since qg71
    replace qB20 := qB20.since qg71
    replace qB28 := qB28.since qg71
    replace qB63 := qB63.since qg71
    replace H4 := H4.since qg71
    replace H5 := H5.since qg71
    replace L5 := L5.since qg71
    replace H6 := H6.since qg71
    replace H7 := H7.since qg71
    replace L7 := L7.since qg71
    replace H11 := H11.since qg71
    replace H12 := H12.since qg71
    replace L12 := L12.since qg71
    replace G := G.trans qg71
    have qg71_s := qg71.size
    refine vV (.int .i64 ((1 + 2 * D.pn) + 8 * XS.length)) ?_
    refine vE #[.agg (cnCells c0),.int .i64 b1,.pointer (some ⟨w.heap.size, 0, none⟩),U,.bool false,.int .i64 r,.pointer (some ⟨qw5.heap.size, 0, none⟩),.slice (some ⟨gs5, 0, none⟩) XS.length ps5,.pointer (some ⟨qw13.heap.size, 0, none⟩),.pointer (some ⟨qw21.heap.size, 0, none⟩),.slice (some ⟨gs7, 0, none⟩) XS.length ps7,.int .i64 (1 + 2 * c0.pn),.int .i64 ((1 + 2 * D.pn) + 8 * XS.length),.int .i64 ((1 + 2 * D.pn) + 8 * XS.length),.pointer (some ⟨qw56.heap.size, 0, none⟩),.slice (some ⟨gs12, 0, none⟩) XS.length ps12,.agg (cnCells c0),.int .i64 1048576,.int .i64 r,.int .i64 r,.bool (decide (r < 0)),.tuple #[.agg (cnCells { D with pa := some ⟨g5, 0, none⟩, pc := p5 }), .slice (some ⟨gs5, 0, none⟩) XS.length ps5],.agg (cnCells c0),.agg (cnCells { c0 with pa := some ⟨g4, 0, none⟩, pc := c0.pn }),.int .i64 b1,.tuple #[.agg (cnCells { D with pa := some ⟨g5, 0, none⟩, pc := p5 }), .slice (some ⟨gs5, 0, none⟩) XS.length ps5],.agg (cnCells { D with pa := some ⟨g5, 0, none⟩, pc := p5 }),.slice (some ⟨gs5, 0, none⟩) XS.length ps5,.agg (cnCells c0),.agg (cnCells { c0 with pa := some ⟨g6, 0, none⟩, pc := c0.pn }),.tuple #[.agg (cnCells { D with pa := some ⟨g7, 0, none⟩, pc := p7 }), .slice (some ⟨gs7, 0, none⟩) XS.length ps7],.agg (cnCells { c0 with pa := some ⟨g6, 0, none⟩, pc := c0.pn }),.int .i64 b1,.tuple #[.agg (cnCells { D with pa := some ⟨g7, 0, none⟩, pc := p7 }), .slice (some ⟨gs7, 0, none⟩) XS.length ps7],.agg (cnCells { D with pa := some ⟨g7, 0, none⟩, pc := p7 }),.slice (some ⟨gs7, 0, none⟩) XS.length ps7,.agg (cnCells { D with pa := some ⟨g7, 0, none⟩, pc := p7 }),.agg (cnCells { D with pa := some ⟨g5, 0, none⟩, pc := p5 }),.bool true,.bool false,.bool false,.slice (some ⟨gs7, 0, none⟩) XS.length ps7,.slice (some ⟨gs5, 0, none⟩) XS.length ps5,.bool true,.bool false,.bool false,.agg (cnCells { c0 with pa := some ⟨g6, 0, none⟩, pc := c0.pn }),.agg (cnCells c0),.agg (cnCells { c0 with pa := some ⟨gt, 0, none⟩, pc := c0.pn }),.bool true,.bool false,.agg (cnCells { c0 with pa := some ⟨g6, 0, none⟩, pc := c0.pn }),.int .i64 1,.int .i64 (1 + 2 * c0.pn),.int .i64 (1 + 2 * c0.pn),.bool false,.bool false,.agg (cnCells { D with pa := some ⟨g7, 0, none⟩, pc := p7 }),.agg (cnCells { D with pa := some ⟨g5, 0, none⟩, pc := p5 }),.bool true,.bool false,.bool false,.bool false,.slice (some ⟨gs7, 0, none⟩) XS.length ps7,.slice (some ⟨gs5, 0, none⟩) XS.length ps5,.bool true,.bool false,.bool false,.agg (cnCells { D with pa := some ⟨g7, 0, none⟩, pc := p7 }),.int .i64 1,.int .i64 (1 + 2 * D.pn),.slice (some ⟨gs7, 0, none⟩) XS.length ps7,.int .i64 (1 + 2 * D.pn),.int .i64 ((1 + 2 * D.pn) + 8 * XS.length),.agg (cnCells { D with pa := some ⟨g7, 0, none⟩, pc := p7 }),.int .i64 1,.int .i64 (1 + 2 * D.pn),.int .i64 (1 + 2 * D.pn),.bool (decide ((1 + 2 * D.pn) < 0)),.slice (some ⟨gs7, 0, none⟩) XS.length ps7,.int .i64 (1 + 2 * D.pn),.int .i64 ((1 + 2 * D.pn) + 8 * XS.length),.int .i64 ((1 + 2 * D.pn) + 8 * XS.length),.bool (decide (((1 + 2 * D.pn) + 8 * XS.length) < 0)),.int .i64 ((1 + 2 * D.pn) + 8 * XS.length),.int .i64 ((1 + 2 * D.pn) + 8 * XS.length),.bool false,.tuple #[.agg (cnCells { D with pa := some ⟨g12, 0, none⟩, pc := p12 }), .slice (some ⟨gs12, 0, none⟩) XS.length ps12],.agg (cnCells c0),.agg (cnCells { c0 with pa := some ⟨g11, 0, none⟩, pc := c0.pn }),.int .i64 b1,.tuple #[.agg (cnCells { D with pa := some ⟨g12, 0, none⟩, pc := p12 }), .slice (some ⟨gs12, 0, none⟩) XS.length ps12],.agg (cnCells { D with pa := some ⟨g12, 0, none⟩, pc := p12 }),.slice (some ⟨gs12, 0, none⟩) XS.length ps12,.agg (cnCells { D with pa := some ⟨g12, 0, none⟩, pc := p12 }),.agg (cnCells { D with pa := some ⟨g5, 0, none⟩, pc := p5 }),.bool true,.bool false,.bool false,.slice (some ⟨gs12, 0, none⟩) XS.length ps12,.slice (some ⟨gs5, 0, none⟩) XS.length ps5,.bool true,.bool false,.bool false,.agg (cnCells { D with pa := some ⟨g7, 0, none⟩, pc := p7 }),.int .i64 1,.int .i64 (1 + 2 * D.pn),.int .i64 (1 + 2 * D.pn),.bool (decide ((1 + 2 * D.pn) < 0)),.slice (some ⟨gs7, 0, none⟩) XS.length ps7,.int .i64 (1 + 2 * D.pn),.int .i64 ((1 + 2 * D.pn) + 8 * XS.length),U,U,U,U,U] ?_
    go_wp2_with (fail)
    go_ret
    exact ⟨rfl, G⟩

set_option maxRecDepth 100000 in
theorem lifted (os : Os) (started : os.Started) (H : Type) (enc : TypeId × Value → H) :
    ReturnsInHanded {} Tryz.checked os 3 .any (Rows.fnExactConnTickSpec.pre6 enc Tryz.prog Tryz.f3 Rows.fnExactConnTickRow.domain false) (Rows.fnExactConnTickSpec.post enc Tryz.prog Tryz.f3 false true false false) := by
  refine returnsInHanded_of_change (C := Tryz.checked) own started (by kernel_rfl) Tryz.func3
    (ChangeSpec.witness6 (enc := enc) (C := Tryz.checked) false ⟨#[], #[.agg #[.int .i64 0, .int .u32 0, .int .u32 0, .int .u32 0, .int .u32 0, .int .i64 0, .int .u32 0, .int .u32 0, .int .u32 0, .string ByteArray.empty, .int .i64 0, .int .u32 0, .string ByteArray.empty, .slice none 0 0, .int .i64 0, .bool false, .bool false, .int .u32 0, .bool false, .bool false, .int .i64 0, .int .i64 0, .int .i64 0, .int .i64 0, .int .i64 0, .int .i64 0, .bool false, .int .u32 0, .bool false, .int .u32 0, .int .i64 0, .int .i64 0, .int .i64 0, .int .i64 0, .int .i64 0, .int .i64 0, .bool false], .int .i64 0], []⟩ 8 (by kernel_rfl) (by kernel_rfl) (by kernel_rfl) (by kernel_rfl)) ?_
  intro W base args ds gs before hval0 hW hcnd _
  have hval : ∀ (j : Nat) t v, Tryz.f3.params[j]? = some t → args[j]? = some v → Value.okWide Tryz.prog W .any base t v := hval0
  have hW' := hW
  obtain ⟨p, q, hA0, hV, rfl, hfz, hnd⟩ := hW
  have hA : DataW.TrodAll enc Tryz.prog W 0 (fun _ => true) true Tryz.f3.params.toList args.toList ds p := hA0
  rw [Tryz.params3] at hA hval
  obtain ⟨v0, vs0, d0, ds0, p0, q0, hargs, rfl, rfl, h0, r0⟩ := trodAll_cons hA
  obtain ⟨v1, vs1, d1, ds1, p1, q1, rfl, rfl, rfl, h1, r1⟩ := trodAll_cons r0
  obtain ⟨rfl, rfl, rfl⟩ := trodAll_nil r1
  obtain rfl : args = #[v0, v1] := by cases args; simp_all
  obtain ⟨rfl, rfl⟩ := trodVars_none hV
  have e0 := h0
  have lt0 : ∀ x ∈ p0, x.block < W.heap.size := by obtain ⟨m, hm⟩ := e0; exact DataW.trod_lt m _ _ _ hm
  have e1 := h1
  have lt1 : ∀ x ∈ p1, x.block < W.heap.size := by obtain ⟨m, hm⟩ := e1; exact DataW.trod_lt m _ _ _ hm
  obtain ⟨cv0, pv0, rfl, R0, u0⟩ := open_conn (hval 0 33 v0 rfl rfl) h0
  obtain ⟨b1, rfl, _, _, x1⟩ := open_int Tryz.underlying3 (hval 1 3 v1 rfl rfl) h1
  clear hA0 hval0
  refine (walk cv0 pv0 b1 W R0 u0 x1).mono fun e W' ⟨he, bel⟩ => ?_
  subst he
  exact ⟨_, rfl, _, _, _, [], _, [], hW', trodAll_mk1 (shut_bool Tryz.underlying4 _), (trodAll_cons_mk (Below.trod laidOut (by kernel_rfl) (of_decide_eq_true (by kernel_rfl)) e0 bel lt0) (trodAll_cons_mk (Below.trod laidOut (by kernel_rfl) (of_decide_eq_true (by kernel_rfl)) e1 bel lt1) trodAll_mk0)), rfl, bel.frame _, fun h => by cases h⟩

theorem over : Rows.fnExactConnTickRow.holds Tryz.pinned (OpenSpec.ofChange Rows.fnExactConnTickSpec) :=
  OpenClaim.holds_of_wide 3 Tryz.f3 rfl rfl rfl rfl rfl rfl rfl ⟨rfl, rfl, rfl, rfl, rfl⟩ rfl rfl rfl rfl rfl (by kernel_rfl) Tryz.func3 (by kernel_rfl)
    (of_decide_eq_true (by kernel_rfl)) (by unfold Func.isWrapper; first | (rw [if_pos (by decide +kernel)]; kernel_rfl) | (rw [if_neg (by decide +kernel)]; exact ⟨rfl, rfl⟩))
    (fun os started H enc _ => lifted os started H enc)

theorem proved : Rows.FnExactConnTickSaid := over
end Go.Proofs.YtfenlfijfjcdbaaGreat.fnExactConnTick

namespace Go.Proofs.YtfenlfijfjcdbaaGreat
theorem fnExactConnTick_holds : Rows.FnExactConnTickSaid := fnExactConnTick.proved
#print axioms fnExactConnTick_holds
end Go.Proofs.YtfenlfijfjcdbaaGreat
