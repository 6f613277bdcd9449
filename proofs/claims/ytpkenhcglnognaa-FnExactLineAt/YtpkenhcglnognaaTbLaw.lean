/-
  The laws' functions over lines and tables: sizes, from the laws' values, same.
-/
import Derived.Test.YtpkenhcglnognaaOpenTb
import Derived.Test.YtpkenhcglnognaaSzL
import Derived.Test.YtpkenhcglnognaaM3
import Derived.Deep.DeepCutAuto
namespace Go.Proofs.Ytpkenhcglnognaa
open Go.ChangeShapes Go.WideShapes Go.ChangeAt Go.RowKit Go.Deep
set_option linter.unusedVariables false
set_option maxRecDepth 10000
set_option linter.unusedSimpArgs false

/-- What the laws let in of an end. -/
def Bnd (c : Cn) (ps : List (Int × ByteArray)) : Prop := (c.oD.size : Int) ≤ 1048576 ∧ (c.iD.size : Int) ≤ 1048576 ∧ (c.pn : Int) ≤ 1048576 ∧ ∀ i, i < c.pn → ((pAt ps i).2.size : Int) ≤ 1048576

set_option maxRecDepth 20000 in
set_option maxHeartbeats 4000000 in
theorem szLine (l : Ln) (ps : List (Int × ByteArray)) (left : Int) (h0 : 0 ≤ left) (hl : left ≤ 1048576) (u : WfC l.c ps) (w : World) (R : Rd shP w l.c.pa l.c.pn ps) :
    Calls Try.prog 27 #[.agg (lnCells l), .int .i64 left] w fun e w' => (∃ r : Int, e = .returned (.int .i64 r) ∧ r ≤ left ∧ (0 ≤ r → Bnd l.c ps)) ∧ Since w w' := by
  have G := Since.refl w
  have hS := fun wx (Rx : Rd shP wx l.c.pa l.c.pn ps) => szConnL l.c ps left h0 hl u.v_oD u.v_iD wx Rx (fun i hi => (u.parts i hi).2)
  unfold cnVal at hS
  go_enter Try.func27, Try.ntmps27
  go_upto_region 0 with (fail)
  refine vR ?_
  refine vW (w.alloc (.cells (lnCells l) 81)) (.pointer (some ⟨w.heap.size, 0, none⟩)) ?_
  have qB2 := Blk.new w (lnCells l) 81
  have qg3 := (Since.refl w).alloc (.cells (lnCells l) 81)
  replace G := G.trans qg3
  generalize w.alloc (.cells (lnCells l) 81) = qw1 at  G qB2 qg3 ⊢
  have qB2_l := qB2.lt
  have qg3_s := qg3.size
  refine vV (.int .i64 0) ?_
  refine vE #[.agg (lnCells l),.int .i64 left,.pointer (some ⟨w.heap.size, 0, none⟩),U,.int .i64 0,U,U,U,U,U,U,U] ?_
  go_upto_region 1 with (fail)
  refine vR ?_
  refine vV (.pointer (some ⟨w.heap.size, 4, none⟩)) ?_
  refine vLc lcn_big qB2 ?_
  refine vV (.int .i64 left) ?_
  refine vC (hS _ (R.since G)) ?_
  rintro _ qw4 ⟨⟨r, rfl, hr1, hr2⟩, qg5⟩
  refine ⟨_, rfl, ?_⟩
  replace qB2 := qB2.since qg5
  replace G := G.trans qg5
  have qg5_s := qg5.size
  refine vV (.int .i64 r) ?_
  refine vE #[.agg (lnCells l),.int .i64 r,.pointer (some ⟨w.heap.size, 0, none⟩),U,.int .i64 0,.pointer (some ⟨w.heap.size, 4, none⟩),.agg (cnCells l.c),.int .i64 left,.int .i64 r,U,U,U] ?_
  have hb : 0 ≤ r → Bnd l.c ps := fun h => by obtain ⟨a1, a2, a3, a4⟩ := hr2 h; exact ⟨by omega, by omega, by omega, fun i hi => by have := a4 i hi; omega⟩
  clear hr2
  replace hb : Hid _ := hb
  rcases Int.lt_or_le r 0 with hr | hr
  · skip
    go_wp2_with (fail)
    go_ret
    exact ⟨⟨-1, rfl, by omega, fun h => by omega⟩, G⟩
  · skip
    go_wp2_with (fail)
    go_ret
    exact ⟨⟨r, rfl, hr1, fun h => hb.out h⟩, G⟩

set_option maxRecDepth 20000 in
set_option maxHeartbeats 4000000 in
theorem szLines (a : Option Addr) (n cap : Nat) (xs : List Ln) (pp : List (List (Int × ByteArray))) (left : Int) (h0 : 0 ≤ left) (hl : left ≤ 1048576) (w : World) (R : Rl w a n xs pp) (u : ∀ i, i < n → WfL (lAt xs i) (qAt pp i)) :
    Calls Try.prog 13 #[.slice a n cap, .int .i64 left] w fun e w' => (∃ r : Int, e = .returned (.int .i64 r) ∧ r ≤ left ∧ (0 ≤ r → (n : Int) ≤ left ∧ ∀ i, i < n → Bnd (lAt xs i).c (qAt pp i))) ∧ Since w w' := by
  have hmost := R.rd.most
  unfold maxLen at hmost
  have hsub : IntKind.i64.wrap (left - (n : Int)) = left - (n : Int) := by rw [IntWalk.i64_left]; exact IntWalk.wrap64_in _ ⟨by omega, by omega⟩
  by_cases hn : (n : Int) ≤ left
  · have hn' : ¬ left - (n : Int) < 0 := by omega
    go_enter Try.func13, Try.ntmps13
    go_wp2
    go_loopw [1, 5] (fun l i wr => ∃ (k : Nat) (q : Int), k ≤ n ∧ i = .int .i64 k ∧ l = .int .i64 q ∧ 0 ≤ q ∧ q ≤ left ∧ Since w wr ∧ Hid (∀ i, i < k → Bnd (lAt xs i).c (qAt pp i))) (fun _ i _ => n - (intOf i).toNat)
    case atStart => exact ⟨0, _, by omega, rfl, rfl, by omega, by omega, Since.refl _, (fun i hi => absurd hi (Nat.not_lt_zero i) : ∀ i, i < 0 → Bnd (lAt xs i).c (qAt pp i))⟩
    case round =>
      obtain ⟨k, q, hk, rfl, rfl, hq0, hq1, S, hB⟩ := hrel
      by_cases hlt : k < n
      · have hlt' : (k : Int) < (n : Int) := by omega
        obtain ⟨x, rfl, hb, hL⟩ := (R.since S).rd.line k hlt
        have hs := fun wx (Rx : Rd shP wx (lAt xs k).c.pa (lAt xs k).c.pn (qAt pp k)) => szLine (lAt xs k) (qAt pp k) q hq0 (by omega) (u k hlt).wc wx Rx
        have Rp := (R.since S).ps k hlt
        generalize hz : lAt xs k = L at hL hs Rp
        clear u
        have G := S
        go_upto_region 5 with (fail)
        refine vR ?_
        refine vV (.int .i64 (k : Int)) ?_
        refine vV (.slice (some x) n cap) ?_
        refine vV (.int .i64 (n : Int)) ?_ (hrun := by simp [execOp, go_sem])
        refine vV (.bool true) ?_ (hrun := by simp [execOp, go_sem, hlt'])
        refine vE #[.slice (some x) n cap,.int .i64 q,U,U,u4,.int .i64 (k : Int),.int .i64 left,.slice (some x) n cap,.int .i64 (n : Int),.int .i64 (left - (n : Int)),.int .i64 (left - (n : Int)),.bool false,.int .i64 (k : Int),.slice (some x) n cap,.int .i64 (n : Int),.bool true,u16,u17,u18,u19,u20,u21,u22,u23,u24,u25,U] ?_
        go_upto_region 7 with (fail)
        refine vR ?_
        refine vV (.slice (some x) n cap) ?_
        refine vV (.int .i64 (k : Int)) ?_
        refine vV (.pointer (some (x.add (k * 41)))) ?_ (hrun := by simp [execOp, go_sem, hlt])
        refine vQ lln_big (ln_size _) hL ?_
        refine vV (.int .i64 q) ?_
        refine vC (hs _ Rp) ?_
        rintro _ qw1 ⟨⟨r, rfl, hr1, hr2⟩, qg2⟩
        refine ⟨_, rfl, ?_⟩
        replace G := G.trans qg2
        have qg2_s := qg2.size
        refine vV (.int .i64 r) ?_
        refine vE #[.slice (some x) n cap,.int .i64 r,U,U,u4,.int .i64 (k : Int),.int .i64 left,.slice (some x) n cap,.int .i64 (n : Int),.int .i64 (left - (n : Int)),.int .i64 (left - (n : Int)),.bool false,.int .i64 (k : Int),.slice (some x) n cap,.int .i64 (n : Int),.bool true,u16,u17,.slice (some x) n cap,.int .i64 (k : Int),.pointer (some (x.add (k * 41))),.agg (lnCells L),.int .i64 q,.int .i64 r,u24,u25,U] ?_
        rcases Int.lt_or_le r 0 with hr | hr
        · go_wp2_with (fail)
          go_ret
          exact ⟨⟨-1, rfl, by omega, fun h => by omega⟩, G⟩
        · have hB2 : Hid (∀ i, i < k + 1 → Bnd (lAt xs i).c (qAt pp i)) := by
            show ∀ i, _ → _
            intro i hi
            by_cases e : i = k
            · subst e; rw [hz]; exact hr2 hr
            · exact hB.out i (by omega)
          clear hr2 hB
          go_wp2_with (fail)
          go_roundw
          case rel =>
            (repeat apply Exists.intro)
            exact ⟨⟨k + 1, r, by omega, by go_num, rfl, by omega, by omega, G, hB2⟩, rfl⟩
          case measure => simp [intOf]; omega
      · have hkn : k = n := by omega
        subst hkn
        clear R u
        go_wp2
        go_ret
        exact ⟨⟨q, rfl, by omega, fun _ => ⟨by omega, hB.out⟩⟩, S⟩
  · have hn' : left - (n : Int) < 0 := by omega
    clear R u
    go_enter Try.func13, Try.ntmps13
    go_wp2
    go_ret
    exact ⟨⟨-1, rfl, by omega, by omega⟩, Since.refl _⟩

set_option maxRecDepth 20000 in
set_option maxHeartbeats 4000000 in
theorem szTable (t : Tb) (xs : List Ln) (pp : List (List (Int × ByteArray))) (w : World) (R : Rl w t.la t.ln xs pp) (u : ∀ i, i < t.ln → WfL (lAt xs i) (qAt pp i)) :
    Calls Try.prog 5 #[.agg (tbCells t), .int .i64 1048576] w fun e w' => (∃ r : Int, e = .returned (.int .i64 r) ∧ (0 ≤ r → (t.ln : Int) ≤ 1048576 ∧ ∀ i, i < t.ln → Bnd (lAt xs i).c (qAt pp i))) ∧ Since w w' := by
  have G := Since.refl w
  have hS := fun wx (Rx : Rl wx t.la t.ln xs pp) => szLines t.la t.ln t.lc xs pp 1048576 (by omega) (by omega) wx Rx u
  go_enter Try.func5, Try.ntmps5
  go_upto_region 0 with (fail)
  refine vR ?_
  refine vW (w.alloc (.cells (tbCells t) 25)) (.pointer (some ⟨w.heap.size, 0, none⟩)) ?_
  have qB2 := Blk.new w (tbCells t) 25
  have qg3 := (Since.refl w).alloc (.cells (tbCells t) 25)
  replace G := G.trans qg3
  generalize w.alloc (.cells (tbCells t) 25) = qw1 at  G qB2 qg3 ⊢
  have qB2_l := qB2.lt
  have qg3_s := qg3.size
  refine vV (.int .i64 0) ?_
  refine vE #[.agg (tbCells t),.int .i64 1048576,.pointer (some ⟨w.heap.size, 0, none⟩),U,.int .i64 0,U,U,U,U,U,U,U] ?_
  go_upto_region 1 with (fail)
  refine vR ?_
  refine vV (.pointer (some ⟨w.heap.size, 5, none⟩)) ?_
  refine vD (.slice t.la t.ln t.lc) (qB2.cell 5) ?_
  refine vV (.int .i64 1048576) ?_
  refine vC (hS _ (R.since G)) ?_
  rintro _ qw4 ⟨⟨r, rfl, hr1, hr2⟩, qg5⟩
  refine ⟨_, rfl, ?_⟩
  replace qB2 := qB2.since qg5
  replace G := G.trans qg5
  have qg5_s := qg5.size
  refine vV (.int .i64 r) ?_
  refine vE #[.agg (tbCells t),.int .i64 r,.pointer (some ⟨w.heap.size, 0, none⟩),U,.int .i64 0,.pointer (some ⟨w.heap.size, 5, none⟩),.slice t.la t.ln t.lc,.int .i64 1048576,.int .i64 r,U,U,U] ?_
  have hb : Hid _ := hr2
  clear hr2
  rcases Int.lt_or_le r 0 with hr | hr
  · skip
    go_wp2_with (fail)
    go_ret
    exact ⟨⟨-1, rfl, fun h => by omega⟩, G⟩
  · skip
    go_wp2_with (fail)
    go_ret
    exact ⟨⟨r, rfl, fun h => hb.out h⟩, G⟩

set_option maxRecDepth 20000 in
set_option maxHeartbeats 4000000 in
theorem toLine (l : Ln) (ps : List (Int × ByteArray)) (hn : l.c.pn ≤ 1048576) (w : World) (R : Rd shP w l.c.pa l.c.pn ps) :
    Calls Try.prog 34 #[.agg (lnCells l)] w fun e w' => ∃ g, e = .returned (.agg (lnCells { l with c := { l.c with pa := some ⟨g, 0, none⟩, pc := l.c.pn } })) ∧ Held shP w' w.heap.size g l.c.pn l.c.pn ps ∧ Since w w' := by
  have G := Since.refl w
  have hT := fun wx (Rx : Rd shP wx l.c.pa l.c.pn ps) => toConn l.c ps hn wx Rx
  unfold cnVal at hT
  go_enter Try.func34, Try.ntmps34
  go_upto_region 0 with (fail)
  refine vR ?_
  refine vW (w.alloc (.cells (lnCells l) 81)) (.pointer (some ⟨w.heap.size, 0, none⟩)) ?_
  have qB2 := Blk.new w (lnCells l) 81
  have qg3 := (Since.refl w).alloc (.cells (lnCells l) 81)
  replace G := G.trans qg3
  generalize w.alloc (.cells (lnCells l) 81) = qw1 at  G qB2 qg3 ⊢
  have qB2_l := qB2.lt
  have qg3_s := qg3.size
  refine vW (qw1.alloc (.cells (lnCells lnZero) 55)) (.pointer (some ⟨qw1.heap.size, 0, none⟩)) ?_
  have qB5 := Blk.new qw1 (lnCells lnZero) 55
  have qg6 := (Since.refl qw1).alloc (.cells (lnCells lnZero) 55)
  replace qB2 := qB2.since qg6
  replace G := G.trans qg6
  generalize qw1.alloc (.cells (lnCells lnZero) 55) = qw4 at qB2 G qB5 qg6 ⊢
  have qB5_l := qB5.lt
  have qg6_s := qg6.size
  refine vE #[.agg (lnCells l),.pointer (some ⟨w.heap.size, 0, none⟩),.pointer (some ⟨qw1.heap.size, 0, none⟩),U,U,U,U,U,U,U,U,U,U,U,U,U,U] ?_
  go_upto_region 1 with (fail)
  refine vR ?_
  refine vW (qw4.alloc (.cells (lnCells lnZero) 55)) (.pointer (some ⟨qw4.heap.size, 0, none⟩)) ?_
  have qB8 := Blk.new qw4 (lnCells lnZero) 55
  have qg9 := (Since.refl qw4).alloc (.cells (lnCells lnZero) 55)
  replace qB2 := qB2.since qg9
  replace qB5 := qB5.since qg9
  replace G := G.trans qg9
  generalize qw4.alloc (.cells (lnCells lnZero) 55) = qw7 at qB2 qB5 G qB8 qg9 ⊢
  have qB8_l := qB8.lt
  have qg9_s := qg9.size
  refine vE #[.agg (lnCells l),.pointer (some ⟨w.heap.size, 0, none⟩),.pointer (some ⟨qw1.heap.size, 0, none⟩),.pointer (some ⟨qw4.heap.size, 0, none⟩),U,U,U,U,U,U,U,U,U,U,U,U,U] ?_
  go_upto_region 2 with (fail)
  refine vR ?_
  refine vV (.pointer (some ⟨w.heap.size, 0, none⟩)) ?_
  refine vP lad_big qB2 0 [.int .u32 l.hH, .int .i64 l.hP] ?_
  refine vK (toAddr l.hH l.hP _) ?_
  intro qw10 qg11
  replace qB2 := qB2.since qg11
  replace qB5 := qB5.since qg11
  replace qB8 := qB8.since qg11
  replace G := G.trans qg11
  have qg11_s := qg11.size
  refine vV (.pointer (some ⟨qw4.heap.size, 0, none⟩)) ?_
  refine sP (lnCells ⟨l.hH, l.hP, lnZero.tH, lnZero.tP, lnZero.c⟩) ad_big qB8 0 #[.int .u32 l.hH, .int .i64 l.hP] (ln_size _) (by simp [Value.oneCell']) ?_
  intro qw12 qt13 qB14
  clear qB8
  replace qB2 := qB2.touch qt13 (by omega)
  replace qB5 := qB5.touch qt13 (by omega)
  replace G := since_touch G qt13 (by omega)
  have qt13_s := qt13.size
  refine vE #[.agg (lnCells l),.pointer (some ⟨w.heap.size, 0, none⟩),.pointer (some ⟨qw1.heap.size, 0, none⟩),.pointer (some ⟨qw4.heap.size, 0, none⟩),.pointer (some ⟨w.heap.size, 0, none⟩),.agg #[.int .u32 l.hH, .int .i64 l.hP],.agg #[.int .u32 l.hH, .int .i64 l.hP],.pointer (some ⟨qw4.heap.size, 0, none⟩),U,U,U,U,U,U,U,U,U] ?_
  go_upto_region 3 with (fail)
  refine vR ?_
  refine vV (.pointer (some ⟨w.heap.size, 2, none⟩)) ?_
  refine vP lad_big qB2 2 [.int .u32 l.tH, .int .i64 l.tP] ?_
  refine vK (toAddr l.tH l.tP _) ?_
  intro qw15 qg16
  replace qB2 := qB2.since qg16
  replace qB5 := qB5.since qg16
  replace qB14 := qB14.since qg16
  replace G := G.trans qg16
  have qg16_s := qg16.size
  refine vV (.pointer (some ⟨qw4.heap.size, 2, none⟩)) ?_
  refine sP (lnCells ⟨l.hH, l.hP, l.tH, l.tP, lnZero.c⟩) ad_big qB14 2 #[.int .u32 l.tH, .int .i64 l.tP] (ln_size _) (by simp [Value.oneCell']) ?_
  intro qw17 qt18 qB19
  clear qB14
  replace qB2 := qB2.touch qt18 (by omega)
  replace qB5 := qB5.touch qt18 (by omega)
  replace G := since_touch G qt18 (by omega)
  have qt18_s := qt18.size
  refine vE #[.agg (lnCells l),.pointer (some ⟨w.heap.size, 0, none⟩),.pointer (some ⟨qw1.heap.size, 0, none⟩),.pointer (some ⟨qw4.heap.size, 0, none⟩),.pointer (some ⟨w.heap.size, 0, none⟩),.agg #[.int .u32 l.hH, .int .i64 l.hP],.agg #[.int .u32 l.hH, .int .i64 l.hP],.pointer (some ⟨qw4.heap.size, 0, none⟩),.pointer (some ⟨w.heap.size, 2, none⟩),.agg #[.int .u32 l.tH, .int .i64 l.tP],.agg #[.int .u32 l.tH, .int .i64 l.tP],.pointer (some ⟨qw4.heap.size, 2, none⟩),U,U,U,U,U] ?_
  go_upto_region 4 with (fail)
  refine vR ?_
  refine vV (.pointer (some ⟨w.heap.size, 4, none⟩)) ?_
  refine vLc lcn_big qB2 ?_
  refine vC (hT _ (R.since G)) ?_
  rintro _ qw20 ⟨g, rfl, L0, qg21⟩
  refine ⟨_, rfl, ?_⟩
  replace qB2 := qB2.since qg21
  replace qB5 := qB5.since qg21
  replace qB19 := qB19.since qg21
  replace G := G.trans qg21
  have qg21_s := qg21.size
  have L := L0.low' 
  have Lt := L0.lt
  refine vV (.pointer (some ⟨qw4.heap.size, 4, none⟩)) ?_
  refine sP (lnCells ⟨l.hH, l.hP, l.tH, l.tP, { l.c with pa := some ⟨g, 0, none⟩, pc := l.c.pn }⟩) cn_big qB19 4 (cnCells { l.c with pa := some ⟨g, 0, none⟩, pc := l.c.pn }) (ln_size _) (cn_one _) ?_
  intro qw22 qt23 qB24
  clear qB19
  replace qB2 := qB2.touch qt23 (by omega)
  replace qB5 := qB5.touch qt23 (by omega)
  replace L0 := L0.touch qt23 (by omega)
  replace G := since_touch G qt23 (by omega)
  have qt23_s := qt23.size
  refine vE #[.agg (lnCells l),.pointer (some ⟨w.heap.size, 0, none⟩),.pointer (some ⟨qw1.heap.size, 0, none⟩),.pointer (some ⟨qw4.heap.size, 0, none⟩),.pointer (some ⟨w.heap.size, 0, none⟩),.agg #[.int .u32 l.hH, .int .i64 l.hP],.agg #[.int .u32 l.hH, .int .i64 l.hP],.pointer (some ⟨qw4.heap.size, 0, none⟩),.pointer (some ⟨w.heap.size, 2, none⟩),.agg #[.int .u32 l.tH, .int .i64 l.tP],.agg #[.int .u32 l.tH, .int .i64 l.tP],.pointer (some ⟨qw4.heap.size, 2, none⟩),.pointer (some ⟨w.heap.size, 4, none⟩),.agg (cnCells l.c),.agg (cnCells { l.c with pa := some ⟨g, 0, none⟩, pc := l.c.pn }),.pointer (some ⟨qw4.heap.size, 4, none⟩),U] ?_
  go_upto_region 5 with (fail)
  refine vR ?_
  refine vB ln_big qB24 (ln_size _) ?_
  refine sB (lnCells ⟨l.hH, l.hP, l.tH, l.tP, { l.c with pa := some ⟨g, 0, none⟩, pc := l.c.pn }⟩) ln_big qB5 (ln_size _) (ln_size _) (ln_one _) ?_
  intro qw25 qt26 qB27
  clear qB5
  replace qB2 := qB2.touch qt26 (by omega)
  replace qB24 := qB24.touch qt26 (by omega)
  replace L0 := L0.touch qt26 (by omega)
  replace G := since_touch G qt26 (by omega)
  have qt26_s := qt26.size
  refine vE #[.agg (lnCells l),.pointer (some ⟨w.heap.size, 0, none⟩),.pointer (some ⟨qw1.heap.size, 0, none⟩),.pointer (some ⟨qw4.heap.size, 0, none⟩),.pointer (some ⟨w.heap.size, 0, none⟩),.agg #[.int .u32 l.hH, .int .i64 l.hP],.agg #[.int .u32 l.hH, .int .i64 l.hP],.pointer (some ⟨qw4.heap.size, 0, none⟩),.pointer (some ⟨w.heap.size, 2, none⟩),.agg #[.int .u32 l.tH, .int .i64 l.tP],.agg #[.int .u32 l.tH, .int .i64 l.tP],.pointer (some ⟨qw4.heap.size, 2, none⟩),.pointer (some ⟨w.heap.size, 4, none⟩),.agg (cnCells l.c),.agg (cnCells { l.c with pa := some ⟨g, 0, none⟩, pc := l.c.pn }),.pointer (some ⟨qw4.heap.size, 4, none⟩),.agg (lnCells ⟨l.hH, l.hP, l.tH, l.tP, { l.c with pa := some ⟨g, 0, none⟩, pc := l.c.pn }⟩)] ?_
  go_wp2_with (fail)
  exact bodyPost_ret (v := .agg (lnCells { l with c := { l.c with pa := some ⟨g, 0, none⟩, pc := l.c.pn } })) (results_big (u := 2) ln_big (ln_size _) rfl _ rfl qB27) rfl ⟨g, rfl, Own.low L0 (by have := G.size; omega), G⟩

theorem ln_info3 : (Try.prog.info? 55).map (fun i => (i.zero, i.size, i.bytes)) = some (some (.agg (lnCells lnZero)), 41, 304) := by kernel_rfl

/-- The first k lines of a list that is being made are those of xs, each with parts of its own. -/
structure OlK (w : World) (B g n k : Nat) (xs ys : List Ln) (pp : List (List (Int × ByteArray))) : Prop where
  hl : Held shL w B g n n ys
  ps : ∀ i, i < k → core (lAt xs i) = core (lAt ys i) ∧ ∃ q, (lAt ys i).c.pa = some ⟨q, 0, none⟩ ∧ g < q ∧ Held shP w (g + 1) q (lAt ys i).c.pn (lAt ys i).c.pc (qAt pp i)
  ap : ∀ i j, i < k → j < k → i ≠ j → (psl (lAt ys i).c).ownBlock ≠ (psl (lAt ys j).c).ownBlock

theorem lAt_same {xs : List Ln} {i : Nat} (x : Ln) (h : i < xs.length) : lAt (xs.set i x) i = x := by simp [lAt, Shape.get, List.getD, h]

theorem lAt_other {xs : List Ln} {i j : Nat} (x : Ln) (h : i ≠ j) : lAt (xs.set i x) j = lAt xs j := by simp [lAt, Shape.get, List.getD, h]

theorem OlK.next {w w1 z : World} {B g n k q : Nat} {xs ys : List Ln} {pp : List (List (Int × ByteArray))} (h : OlK w B g n k xs ys pp) (hk : k < n) (S : Since w w1) (L : Held shP w1 w.heap.size q (lAt xs k).c.pn (lAt xs k).c.pn (qAt pp k)) (t : Touch g w1 z)
    (H : Held shL z B g n n (ys.set k { lAt xs k with c := { (lAt xs k).c with pa := some ⟨q, 0, none⟩, pc := (lAt xs k).c.pn } })) : OlK z B g n (k + 1) xs (ys.set k { lAt xs k with c := { (lAt xs k).c with pa := some ⟨q, 0, none⟩, pc := (lAt xs k).c.pn } }) pp := by
  have hlen : k < ys.length := by rw [h.hl.1]; exact hk
  have hg := h.hl.lt
  have hq := L.low'
  refine ⟨H, fun i hi => ?_, fun i j hi hj hne => ?_⟩
  · by_cases e : i = k
    · subst e
      rw [lAt_same _ hlen]
      exact ⟨rfl, q, rfl, by omega, (L.touch t (by omega)).raise (by omega)⟩
    · rw [lAt_other _ (Ne.symm e)]
      obtain ⟨a1, q', a2, a3, a4⟩ := h.ps i (by omega)
      exact ⟨a1, q', a2, a3, (a4.since S).touch t (by omega)⟩
  · have old : ∀ i, i < k → ∃ q', (lAt ys i).c.pa = some ⟨q', 0, none⟩ ∧ q' < w.heap.size := fun i hi => by
      obtain ⟨_, q', a2, _, a4⟩ := h.ps i hi
      exact ⟨q', a2, a4.lt⟩
    by_cases ei : i = k
    · have ej : j ≠ k := fun e => hne (by omega)
      subst ei
      rw [lAt_same _ hlen, lAt_other _ (Ne.symm ej)]
      obtain ⟨q', e1, e2⟩ := old j (by omega)
      simp [psl, e1, Value.ownBlock]
      omega
    · rw [lAt_other _ (Ne.symm ei)]
      by_cases ej : j = k
      · subst ej
        rw [lAt_same _ hlen]
        obtain ⟨q', e1, e2⟩ := old i (by omega)
        simp [psl, e1, Value.ownBlock]
        omega
      · rw [lAt_other _ (Ne.symm ej)]
        exact h.ap i j (by omega) (by omega) hne

theorem OlK.done {w : World} {B g n : Nat} {xs ys : List Ln} {pp : List (List (Int × ByteArray))} (h : OlK w B g n n xs ys pp) : Ol w B g n n ys pp ∧ Like n xs ys := by
  have hb := h.hl.low'
  refine ⟨⟨h.hl, fun i hi => ?_, fun i hi => ?_, fun i j hi hj hne => .inr (h.ap i j hi hj hne)⟩, fun i hi => (h.ps i hi).1⟩
  · obtain ⟨_, q, a2, a3, a4⟩ := h.ps i hi
    unfold psl
    rw [a2]
    exact Own.low a4 (by omega)
  · obtain ⟨_, q, a2, a3, a4⟩ := h.ps i hi
    simp [psl, a2, Value.ownBlock]
    omega

theorem OlK.since {w w' : World} {B g n k : Nat} {xs ys : List Ln} {pp : List (List (Int × ByteArray))} (h : OlK w B g n k xs ys pp) (S : Since w w') : OlK w' B g n k xs ys pp :=
  ⟨h.hl.since S, fun i hi => by obtain ⟨a1, q, a2, a3, a4⟩ := h.ps i hi; exact ⟨a1, q, a2, a3, a4.since S⟩, h.ap⟩

set_option maxRecDepth 20000 in
set_option maxHeartbeats 4000000 in
theorem toLines (a : Option Addr) (n cap : Nat) (xs : List Ln) (pp : List (List (Int × ByteArray))) (hn : n ≤ 1048576) (hp : ∀ i, i < n → (lAt xs i).c.pn ≤ 1048576) (w : World) (R : Rl w a n xs pp) :
    Calls Try.prog 17 #[.slice a n cap] w fun e w' => ∃ g ys, e = .returned (.slice (some ⟨g, 0, none⟩) n n) ∧ Ol w' w.heap.size g n n ys pp ∧ Like n xs ys ∧ Since w w' := by
  obtain ⟨ii, hi, hz0, hz1, hz2⟩ := info_parts ln_info3
  go_enter Try.func17, Try.ntmps17
  go_wp2_with (refine wpList_make_full _ rfl _ _ 28 rfl w.heap.size 55 ii (.agg (lnCells lnZero)) 41 Try.underlying28 hi hz0 hz1 .i64 .i64 _ _ n rfl rfl rfl rfl ?c1 ?c2 (Nat.le_refl _) ?_)
  case c1 => rw [hz2]; omega
  case c2 => unfold maxLen; omega
  intro w1 hown hgrow
  have T0 : Held shL w1 w.heap.size w.heap.size n n (List.replicate n lnZero) := made_shape (S := shL) (z := lnCells lnZero) rfl hown
  have S0 : Since w w1 := ⟨hgrow.os, hgrow.tape, hgrow.output, hgrow.size, fun k hk => hgrow.block k hk (by simp)⟩
  have hgl := T0.lt
  generalize hg : w.heap.size = g at T0 hown hgl ⊢
  go_wp2
  go_loopw [4] (fun i wr => ∃ (k : Nat) (ys : List Ln), k ≤ n ∧ i = .int .i64 k ∧ OlK wr g g n k xs ys pp ∧ Since w wr) (fun i _ => n - (intOf i).toNat)
  case atStart => exact ⟨0, _, by omega, rfl, ⟨T0, fun i hi => absurd hi (Nat.not_lt_zero i), fun i j hi => absurd hi (Nat.not_lt_zero i)⟩, S0⟩
  case round =>
    obtain ⟨k, ys, hk, rfl, O, S⟩ := hrel
    by_cases hlt : k < n
    · have hlt' : (k : Int) < (n : Int) := by omega
      obtain ⟨x, rfl, hb, hL⟩ := (R.since S).rd.line k hlt
      have Rp := (R.since S).ps k hlt
      have hs := fun wx (Rx : Rd shP wx (lAt xs k).c.pa (lAt xs k).c.pn (qAt pp k)) => toLine (lAt xs k) (qAt pp k) (hp k hlt) wx Rx
      have hN := fun (w1 z : World) (q : Nat) (S1 : Since wr w1) (L1 : Held shP w1 wr.heap.size q (lAt xs k).c.pn (lAt xs k).c.pn (qAt pp k)) (t1 : Touch g w1 z) H1 => O.next hlt S1 L1 t1 H1
      have hN' : Hid _ := hN
      clear hN hp T0 hown
      generalize lAt xs k = L at hL hs Rp hN'
      have O0 := O.hl
      have hgs := O0.lt
      have G := S
      go_upto_region 3 with (fail)
      refine vR ?_
      refine vV (.int .i64 (k : Int)) ?_
      refine vV (.slice (some x) n cap) ?_
      refine vV (.int .i64 (n : Int)) ?_ (hrun := by simp [execOp, go_sem])
      refine vV (.bool true) ?_ (hrun := by simp [execOp, go_sem, hlt'])
      refine vE #[.slice (some x) n cap,U,.slice none 0 0,.slice (some ⟨g, 0, none⟩) n n,.int .i64 (k : Int),.slice (some x) n cap,.int .i64 (n : Int),.slice (some ⟨g, 0, none⟩) n n,.int .i64 (k : Int),.slice (some x) n cap,.int .i64 (n : Int),.bool true,u12,u13,u14,u15,u16,u17,u18,u19,u20,u21,U] ?_
      go_upto_region 5 with (fail)
      refine vR ?_
      refine vV (.slice (some ⟨g, 0, none⟩) n n) ?_
      refine vV (.int .i64 (k : Int)) ?_
      refine vV (.slice (some x) n cap) ?_
      refine vV (.int .i64 (k : Int)) ?_
      refine vV (.pointer (some (x.add (k * 41)))) ?_ (hrun := by simp [execOp, go_sem, hlt])
      refine vQ lln_big (ln_size _) hL ?_
      refine vC (hs _ Rp) ?_
      rintro _ qw1 ⟨q, rfl, L0, qg2⟩
      refine ⟨_, rfl, ?_⟩
      replace G := G.trans qg2
      have qg2_s := qg2.size
      have L1 := O0.since qg2
      refine vV (.pointer (some ((⟨g, 0, none⟩ : Addr).add (k * 41)))) ?_ (hrun := by simp [execOp, go_sem, hlt])
      refine sL L1 hlt ({ L with c := { L.c with pa := some ⟨q, 0, none⟩, pc := L.c.pn } }) ?_
      intro wz tz Hz
      refine vE #[.slice (some x) n cap,U,.slice none 0 0,.slice (some ⟨g, 0, none⟩) n n,.int .i64 (k : Int),.slice (some x) n cap,.int .i64 (n : Int),.slice (some ⟨g, 0, none⟩) n n,.int .i64 (k : Int),.slice (some x) n cap,.int .i64 (n : Int),.bool true,u12,u13,.slice (some ⟨g, 0, none⟩) n n,.int .i64 (k : Int),.slice (some x) n cap,.int .i64 (k : Int),.pointer (some (x.add (k * 41))),.agg (lnCells L),.agg (lnCells { L with c := { L.c with pa := some ⟨q, 0, none⟩, pc := L.c.pn } }),.pointer (some ((⟨g, 0, none⟩ : Addr).add (k * 41))),U] ?_
      have O2 := hN'.out _ _ q qg2 L0 tz Hz
      replace G := since_touch G tz (by have := S0.size; omega)
      go_wp2_with (fail)
      go_roundw
      case rel =>
        refine ⟨_, ⟨k + 1, by omega, ?_, _, O2⟩, rfl, rfl, rfl⟩
        go_num
      case measure => simp [intOf]; omega
    · have hkn : k = n := by omega
      subst hkn
      clear R hp T0 hown
      go_wp2
      go_ret
      exact ⟨g, ys, rfl, by rw [hg]; exact O.done.1, O.done.2, S⟩

set_option maxRecDepth 20000 in
set_option maxHeartbeats 4000000 in
theorem toTable (t : Tb) (xs : List Ln) (pp : List (List (Int × ByteArray))) (hn : t.ln ≤ 1048576) (hp : ∀ i, i < t.ln → (lAt xs i).c.pn ≤ 1048576) (w : World) (R : Rl w t.la t.ln xs pp) :
    Calls Try.prog 7 #[.agg (tbCells t)] w fun e w' => ∃ g ys, e = .returned (.agg (tbCells { t with la := some ⟨g, 0, none⟩, lc := t.ln })) ∧ Ol w' w.heap.size g t.ln t.ln ys pp ∧ Like t.ln xs ys ∧ Since w w' := by
  have G := Since.refl w
  have hT := fun wx (Rx : Rl wx t.la t.ln xs pp) => toLines t.la t.ln t.lc xs pp hn hp wx Rx
  go_enter Try.func7, Try.ntmps7
  go_upto_region 0 with (fail)
  refine vR ?_
  refine vW (w.alloc (.cells (tbCells t) 25)) (.pointer (some ⟨w.heap.size, 0, none⟩)) ?_
  have qB2 := Blk.new w (tbCells t) 25
  have qg3 := (Since.refl w).alloc (.cells (tbCells t) 25)
  replace G := G.trans qg3
  generalize w.alloc (.cells (tbCells t) 25) = qw1 at  G qB2 qg3 ⊢
  have qB2_l := qB2.lt
  have qg3_s := qg3.size
  refine vW (qw1.alloc (.cells (tbCells tbZero) 30)) (.pointer (some ⟨qw1.heap.size, 0, none⟩)) ?_
  have qB5 := Blk.new qw1 (tbCells tbZero) 30
  have qg6 := (Since.refl qw1).alloc (.cells (tbCells tbZero) 30)
  replace qB2 := qB2.since qg6
  replace G := G.trans qg6
  generalize qw1.alloc (.cells (tbCells tbZero) 30) = qw4 at qB2 G qB5 qg6 ⊢
  have qB5_l := qB5.lt
  have qg6_s := qg6.size
  refine vE #[.agg (tbCells t),.pointer (some ⟨w.heap.size, 0, none⟩),.pointer (some ⟨qw1.heap.size, 0, none⟩),U,U,U,U,U,U,U,U,U,U,U,U,U,U,U,U,U,U,U,U,U] ?_
  go_upto_region 1 with (fail)
  refine vR ?_
  refine vW (qw4.alloc (.cells (tbCells tbZero) 30)) (.pointer (some ⟨qw4.heap.size, 0, none⟩)) ?_
  have qB8 := Blk.new qw4 (tbCells tbZero) 30
  have qg9 := (Since.refl qw4).alloc (.cells (tbCells tbZero) 30)
  replace qB2 := qB2.since qg9
  replace qB5 := qB5.since qg9
  replace G := G.trans qg9
  generalize qw4.alloc (.cells (tbCells tbZero) 30) = qw7 at qB2 qB5 G qB8 qg9 ⊢
  have qB8_l := qB8.lt
  have qg9_s := qg9.size
  refine vE #[.agg (tbCells t),.pointer (some ⟨w.heap.size, 0, none⟩),.pointer (some ⟨qw1.heap.size, 0, none⟩),.pointer (some ⟨qw4.heap.size, 0, none⟩),U,U,U,U,U,U,U,U,U,U,U,U,U,U,U,U,U,U,U,U] ?_
  go_upto_region 2 with (fail)
  refine vR ?_
  refine vV (.pointer (some ⟨w.heap.size, 0, none⟩)) ?_
  refine vD (.int .i64 t.po) (qB2.cell 0) ?_
  refine vV (.pointer (some ⟨qw4.heap.size, 0, none⟩)) ?_
  refine sC (tbCells ⟨t.po, tbZero.rm, tbZero.se, tbZero.ep, tbZero.nw, tbZero.la, tbZero.ln, tbZero.lc⟩) qB8 0 (.int .i64 t.po) rfl ?_
  intro qw10 qt11 qB12
  clear qB8
  replace qB2 := qB2.touch qt11 (by omega)
  replace qB5 := qB5.touch qt11 (by omega)
  replace G := since_touch G qt11 (by omega)
  have qt11_s := qt11.size
  refine vE #[.agg (tbCells t),.pointer (some ⟨w.heap.size, 0, none⟩),.pointer (some ⟨qw1.heap.size, 0, none⟩),.pointer (some ⟨qw4.heap.size, 0, none⟩),.pointer (some ⟨w.heap.size, 0, none⟩),.int .i64 t.po,.pointer (some ⟨qw4.heap.size, 0, none⟩),U,U,U,U,U,U,U,U,U,U,U,U,U,U,U,U,U] ?_
  go_upto_region 3 with (fail)
  refine vR ?_
  refine vV (.pointer (some ⟨w.heap.size, 1, none⟩)) ?_
  refine vD (.int .i64 t.rm) (qB2.cell 1) ?_
  refine vV (.pointer (some ⟨qw4.heap.size, 1, none⟩)) ?_
  refine sC (tbCells ⟨t.po, t.rm, tbZero.se, tbZero.ep, tbZero.nw, tbZero.la, tbZero.ln, tbZero.lc⟩) qB12 1 (.int .i64 t.rm) rfl ?_
  intro qw13 qt14 qB15
  clear qB12
  replace qB2 := qB2.touch qt14 (by omega)
  replace qB5 := qB5.touch qt14 (by omega)
  replace G := since_touch G qt14 (by omega)
  have qt14_s := qt14.size
  refine vE #[.agg (tbCells t),.pointer (some ⟨w.heap.size, 0, none⟩),.pointer (some ⟨qw1.heap.size, 0, none⟩),.pointer (some ⟨qw4.heap.size, 0, none⟩),.pointer (some ⟨w.heap.size, 0, none⟩),.int .i64 t.po,.pointer (some ⟨qw4.heap.size, 0, none⟩),.pointer (some ⟨w.heap.size, 1, none⟩),.int .i64 t.rm,.pointer (some ⟨qw4.heap.size, 1, none⟩),U,U,U,U,U,U,U,U,U,U,U,U,U,U] ?_
  go_upto_region 4 with (fail)
  refine vR ?_
  refine vV (.pointer (some ⟨w.heap.size, 2, none⟩)) ?_
  refine vD (.int .u32 t.se) (qB2.cell 2) ?_
  refine vV (.pointer (some ⟨qw4.heap.size, 2, none⟩)) ?_
  refine sC (tbCells ⟨t.po, t.rm, t.se, tbZero.ep, tbZero.nw, tbZero.la, tbZero.ln, tbZero.lc⟩) qB15 2 (.int .u32 t.se) rfl ?_
  intro qw16 qt17 qB18
  clear qB15
  replace qB2 := qB2.touch qt17 (by omega)
  replace qB5 := qB5.touch qt17 (by omega)
  replace G := since_touch G qt17 (by omega)
  have qt17_s := qt17.size
  refine vE #[.agg (tbCells t),.pointer (some ⟨w.heap.size, 0, none⟩),.pointer (some ⟨qw1.heap.size, 0, none⟩),.pointer (some ⟨qw4.heap.size, 0, none⟩),.pointer (some ⟨w.heap.size, 0, none⟩),.int .i64 t.po,.pointer (some ⟨qw4.heap.size, 0, none⟩),.pointer (some ⟨w.heap.size, 1, none⟩),.int .i64 t.rm,.pointer (some ⟨qw4.heap.size, 1, none⟩),.pointer (some ⟨w.heap.size, 2, none⟩),.int .u32 t.se,.pointer (some ⟨qw4.heap.size, 2, none⟩),U,U,U,U,U,U,U,U,U,U,U] ?_
  go_upto_region 5 with (fail)
  refine vR ?_
  refine vV (.pointer (some ⟨w.heap.size, 3, none⟩)) ?_
  refine vD (.int .i64 t.ep) (qB2.cell 3) ?_
  refine vV (.pointer (some ⟨qw4.heap.size, 3, none⟩)) ?_
  refine sC (tbCells ⟨t.po, t.rm, t.se, t.ep, tbZero.nw, tbZero.la, tbZero.ln, tbZero.lc⟩) qB18 3 (.int .i64 t.ep) rfl ?_
  intro qw19 qt20 qB21
  clear qB18
  replace qB2 := qB2.touch qt20 (by omega)
  replace qB5 := qB5.touch qt20 (by omega)
  replace G := since_touch G qt20 (by omega)
  have qt20_s := qt20.size
  refine vE #[.agg (tbCells t),.pointer (some ⟨w.heap.size, 0, none⟩),.pointer (some ⟨qw1.heap.size, 0, none⟩),.pointer (some ⟨qw4.heap.size, 0, none⟩),.pointer (some ⟨w.heap.size, 0, none⟩),.int .i64 t.po,.pointer (some ⟨qw4.heap.size, 0, none⟩),.pointer (some ⟨w.heap.size, 1, none⟩),.int .i64 t.rm,.pointer (some ⟨qw4.heap.size, 1, none⟩),.pointer (some ⟨w.heap.size, 2, none⟩),.int .u32 t.se,.pointer (some ⟨qw4.heap.size, 2, none⟩),.pointer (some ⟨w.heap.size, 3, none⟩),.int .i64 t.ep,.pointer (some ⟨qw4.heap.size, 3, none⟩),U,U,U,U,U,U,U,U] ?_
  go_upto_region 6 with (fail)
  refine vR ?_
  refine vV (.pointer (some ⟨w.heap.size, 4, none⟩)) ?_
  refine vD (.int .i64 t.nw) (qB2.cell 4) ?_
  refine vV (.pointer (some ⟨qw4.heap.size, 4, none⟩)) ?_
  refine sC (tbCells ⟨t.po, t.rm, t.se, t.ep, t.nw, tbZero.la, tbZero.ln, tbZero.lc⟩) qB21 4 (.int .i64 t.nw) rfl ?_
  intro qw22 qt23 qB24
  clear qB21
  replace qB2 := qB2.touch qt23 (by omega)
  replace qB5 := qB5.touch qt23 (by omega)
  replace G := since_touch G qt23 (by omega)
  have qt23_s := qt23.size
  refine vE #[.agg (tbCells t),.pointer (some ⟨w.heap.size, 0, none⟩),.pointer (some ⟨qw1.heap.size, 0, none⟩),.pointer (some ⟨qw4.heap.size, 0, none⟩),.pointer (some ⟨w.heap.size, 0, none⟩),.int .i64 t.po,.pointer (some ⟨qw4.heap.size, 0, none⟩),.pointer (some ⟨w.heap.size, 1, none⟩),.int .i64 t.rm,.pointer (some ⟨qw4.heap.size, 1, none⟩),.pointer (some ⟨w.heap.size, 2, none⟩),.int .u32 t.se,.pointer (some ⟨qw4.heap.size, 2, none⟩),.pointer (some ⟨w.heap.size, 3, none⟩),.int .i64 t.ep,.pointer (some ⟨qw4.heap.size, 3, none⟩),.pointer (some ⟨w.heap.size, 4, none⟩),.int .i64 t.nw,.pointer (some ⟨qw4.heap.size, 4, none⟩),U,U,U,U,U] ?_
  go_upto_region 7 with (fail)
  refine vR ?_
  refine vV (.pointer (some ⟨w.heap.size, 5, none⟩)) ?_
  refine vD (.slice t.la t.ln t.lc) (qB2.cell 5) ?_
  refine vC (hT _ (R.since G)) ?_
  rintro _ qw25 ⟨g, ys, rfl, L0, hlk, qg26⟩
  refine ⟨_, rfl, ?_⟩
  replace qB2 := qB2.since qg26
  replace qB5 := qB5.since qg26
  replace qB24 := qB24.since qg26
  replace G := G.trans qg26
  have qg26_s := qg26.size
  have Ll := L0.hl.lt
  have Lo := L0.hl.low'
  have Lb := L0
  clear L0
  refine vV (.pointer (some ⟨qw4.heap.size, 5, none⟩)) ?_
  refine sC (tbCells ⟨t.po, t.rm, t.se, t.ep, t.nw, (some ⟨g, 0, none⟩), t.ln, t.ln⟩) qB24 5 (.slice (some ⟨g, 0, none⟩) t.ln t.ln) rfl ?_
  intro qw27 qt28 qB29
  clear qB24
  replace qB2 := qB2.touch qt28 (by omega)
  replace qB5 := qB5.touch qt28 (by omega)
  replace G := since_touch G qt28 (by omega)
  replace Lb := Lb.touch qt28 (by omega)
  have qt28_s := qt28.size
  refine vE #[.agg (tbCells t),.pointer (some ⟨w.heap.size, 0, none⟩),.pointer (some ⟨qw1.heap.size, 0, none⟩),.pointer (some ⟨qw4.heap.size, 0, none⟩),.pointer (some ⟨w.heap.size, 0, none⟩),.int .i64 t.po,.pointer (some ⟨qw4.heap.size, 0, none⟩),.pointer (some ⟨w.heap.size, 1, none⟩),.int .i64 t.rm,.pointer (some ⟨qw4.heap.size, 1, none⟩),.pointer (some ⟨w.heap.size, 2, none⟩),.int .u32 t.se,.pointer (some ⟨qw4.heap.size, 2, none⟩),.pointer (some ⟨w.heap.size, 3, none⟩),.int .i64 t.ep,.pointer (some ⟨qw4.heap.size, 3, none⟩),.pointer (some ⟨w.heap.size, 4, none⟩),.int .i64 t.nw,.pointer (some ⟨qw4.heap.size, 4, none⟩),.pointer (some ⟨w.heap.size, 5, none⟩),.slice t.la t.ln t.lc,.slice (some ⟨g, 0, none⟩) t.ln t.ln,.pointer (some ⟨qw4.heap.size, 5, none⟩),U] ?_
  go_upto_region 8 with (fail)
  refine vR ?_
  refine vB tb_big qB29 rfl ?_
  refine sB (tbCells ⟨t.po, t.rm, t.se, t.ep, t.nw, (some ⟨g, 0, none⟩), t.ln, t.ln⟩) tb_big qB5 rfl rfl (tb_one _) ?_
  intro qw30 qt31 qB32
  clear qB5
  replace qB2 := qB2.touch qt31 (by omega)
  replace qB29 := qB29.touch qt31 (by omega)
  replace G := since_touch G qt31 (by omega)
  replace Lb := Lb.touch qt31 (by omega)
  have qt31_s := qt31.size
  refine vE #[.agg (tbCells t),.pointer (some ⟨w.heap.size, 0, none⟩),.pointer (some ⟨qw1.heap.size, 0, none⟩),.pointer (some ⟨qw4.heap.size, 0, none⟩),.pointer (some ⟨w.heap.size, 0, none⟩),.int .i64 t.po,.pointer (some ⟨qw4.heap.size, 0, none⟩),.pointer (some ⟨w.heap.size, 1, none⟩),.int .i64 t.rm,.pointer (some ⟨qw4.heap.size, 1, none⟩),.pointer (some ⟨w.heap.size, 2, none⟩),.int .u32 t.se,.pointer (some ⟨qw4.heap.size, 2, none⟩),.pointer (some ⟨w.heap.size, 3, none⟩),.int .i64 t.ep,.pointer (some ⟨qw4.heap.size, 3, none⟩),.pointer (some ⟨w.heap.size, 4, none⟩),.int .i64 t.nw,.pointer (some ⟨qw4.heap.size, 4, none⟩),.pointer (some ⟨w.heap.size, 5, none⟩),.slice t.la t.ln t.lc,.slice (some ⟨g, 0, none⟩) t.ln t.ln,.pointer (some ⟨qw4.heap.size, 5, none⟩),.agg (tbCells ⟨t.po, t.rm, t.se, t.ep, t.nw, (some ⟨g, 0, none⟩), t.ln, t.ln⟩)] ?_
  go_wp2_with (fail)
  exact bodyPost_ret (v := .agg (tbCells { t with la := some ⟨g, 0, none⟩, lc := t.ln })) (results_big (u := 2) tb_big rfl rfl _ rfl qB32) rfl ⟨g, ys, rfl, Lb.low (by omega), hlk, G⟩

theorem like_put {l m : Ln} (e : core l = core m) : m = { l with c := { l.c with pa := m.c.pa, pc := m.c.pc } } := by
  obtain ⟨a1, a2, a3, a4, c⟩ := l
  obtain ⟨b1, b2, b3, b4, d⟩ := m
  cases c
  cases d
  simp only [core, Ln.mk.injEq, Cn.mk.injEq] at e
  simp only [Ln.mk.injEq, Cn.mk.injEq]
  simp [e]

theorem eqAddrT (a b : Int) (w : World) :
    Calls Try.prog 52 #[.agg #[.int .u32 a, .int .i64 b], .agg #[.int .u32 a, .int .i64 b]] w fun e w' => e = .returned (.bool true) ∧ Since w w' := by
  go_enter Try.func52, Try.ntmps52
  go_wp2
  go_ret
  exact ⟨rfl, by repeat (first | exact Since.refl _ | apply Since.drew | apply Since.alloc)⟩

set_option maxRecDepth 20000 in
set_option maxHeartbeats 4000000 in
theorem eqLineP (l : Ln) (a' : Option Addr) (p' : Nat) (ps : List (Int × ByteArray)) (hn : l.c.pn ≤ 1048576) (w : World) (R : Rd shP w l.c.pa l.c.pn ps) (Q : Rd shP w a' l.c.pn ps) :
    Calls Try.prog 42 #[.agg (lnCells l), .agg (lnCells { l with c := { l.c with pa := a', pc := p' } })] w fun e w' => e = .returned (.bool true) ∧ Since w w' := by
  have G := Since.refl w
  have hE := fun wx (Rx : Rd shP wx l.c.pa l.c.pn ps) (Qx : Rd shP wx a' l.c.pn ps) => eqConn l.c a' p' ps hn wx Rx Qx
  unfold cnVal at hE
  go_enter Try.func42, Try.ntmps42
  go_upto_region 0 with (fail)
  refine vR ?_
  refine vW (w.alloc (.cells (lnCells l) 55)) (.pointer (some ⟨w.heap.size, 0, none⟩)) ?_
  have qB2 := Blk.new w (lnCells l) 55
  have qg3 := (Since.refl w).alloc (.cells (lnCells l) 55)
  replace G := G.trans qg3
  generalize w.alloc (.cells (lnCells l) 55) = qw1 at  G qB2 qg3 ⊢
  have qB2_l := qB2.lt
  have qg3_s := qg3.size
  refine vW (qw1.alloc (.cells (lnCells { l with c := { l.c with pa := a', pc := p' } }) 55)) (.pointer (some ⟨qw1.heap.size, 0, none⟩)) ?_
  have qB5 := Blk.new qw1 (lnCells { l with c := { l.c with pa := a', pc := p' } }) 55
  have qg6 := (Since.refl qw1).alloc (.cells (lnCells { l with c := { l.c with pa := a', pc := p' } }) 55)
  replace qB2 := qB2.since qg6
  replace G := G.trans qg6
  generalize qw1.alloc (.cells (lnCells { l with c := { l.c with pa := a', pc := p' } }) 55) = qw4 at qB2 G qB5 qg6 ⊢
  have qB5_l := qB5.lt
  have qg6_s := qg6.size
  refine vV (.bool false) ?_
  refine vE #[.agg (lnCells l),.agg (lnCells { l with c := { l.c with pa := a', pc := p' } }),.pointer (some ⟨w.heap.size, 0, none⟩),.pointer (some ⟨qw1.heap.size, 0, none⟩),.bool false,U,U,U,U,U,U,U,U,U,U,U,U,U,U,U,U,U,U] ?_
  go_upto_region 1 with (fail)
  refine vR ?_
  refine vV (.pointer (some ⟨w.heap.size, 0, none⟩)) ?_
  refine vP ad_big qB2 0 [.int .u32 l.hH, .int .i64 l.hP] ?_
  refine vV (.pointer (some ⟨qw1.heap.size, 0, none⟩)) ?_
  refine vP ad_big qB5 0 [.int .u32 l.hH, .int .i64 l.hP] ?_
  refine vK (eqAddrT l.hH l.hP _) ?_
  intro qw7 qg8
  replace qB2 := qB2.since qg8
  replace qB5 := qB5.since qg8
  replace G := G.trans qg8
  have qg8_s := qg8.size
  refine vV (.bool false) ?_
  refine vE #[.agg (lnCells l),.agg (lnCells { l with c := { l.c with pa := a', pc := p' } }),.pointer (some ⟨w.heap.size, 0, none⟩),.pointer (some ⟨qw1.heap.size, 0, none⟩),.bool false,.pointer (some ⟨w.heap.size, 0, none⟩),.agg #[.int .u32 l.hH, .int .i64 l.hP],.pointer (some ⟨qw1.heap.size, 0, none⟩),.agg #[.int .u32 l.hH, .int .i64 l.hP],.bool true,.bool false,U,U,U,U,U,U,U,U,U,U,U,U] ?_
  go_upto_region 3 with (fail)
  refine vR ?_
  refine vV (.pointer (some ⟨w.heap.size, 2, none⟩)) ?_
  refine vP ad_big qB2 2 [.int .u32 l.tH, .int .i64 l.tP] ?_
  refine vV (.pointer (some ⟨qw1.heap.size, 2, none⟩)) ?_
  refine vP ad_big qB5 2 [.int .u32 l.tH, .int .i64 l.tP] ?_
  refine vK (eqAddrT l.tH l.tP _) ?_
  intro qw9 qg10
  replace qB2 := qB2.since qg10
  replace qB5 := qB5.since qg10
  replace G := G.trans qg10
  have qg10_s := qg10.size
  refine vV (.bool false) ?_
  refine vE #[.agg (lnCells l),.agg (lnCells { l with c := { l.c with pa := a', pc := p' } }),.pointer (some ⟨w.heap.size, 0, none⟩),.pointer (some ⟨qw1.heap.size, 0, none⟩),.bool false,.pointer (some ⟨w.heap.size, 0, none⟩),.agg #[.int .u32 l.hH, .int .i64 l.hP],.pointer (some ⟨qw1.heap.size, 0, none⟩),.agg #[.int .u32 l.hH, .int .i64 l.hP],.bool true,.bool false,.pointer (some ⟨w.heap.size, 2, none⟩),.agg #[.int .u32 l.tH, .int .i64 l.tP],.pointer (some ⟨qw1.heap.size, 2, none⟩),.agg #[.int .u32 l.tH, .int .i64 l.tP],.bool true,.bool false,U,U,U,U,U,U] ?_
  go_upto_region 5 with (fail)
  refine vR ?_
  refine vV (.pointer (some ⟨w.heap.size, 4, none⟩)) ?_
  refine vLc cn_big qB2 ?_
  refine vV (.pointer (some ⟨qw1.heap.size, 4, none⟩)) ?_
  refine vLc cn_big qB5 ?_
  refine vK (hE _ (R.since G) (Q.since G)) ?_
  intro qw11 qg12
  replace qB2 := qB2.since qg12
  replace qB5 := qB5.since qg12
  replace G := G.trans qg12
  have qg12_s := qg12.size
  refine vV (.bool false) ?_
  refine vE #[.agg (lnCells l),.agg (lnCells { l with c := { l.c with pa := a', pc := p' } }),.pointer (some ⟨w.heap.size, 0, none⟩),.pointer (some ⟨qw1.heap.size, 0, none⟩),.bool false,.pointer (some ⟨w.heap.size, 0, none⟩),.agg #[.int .u32 l.hH, .int .i64 l.hP],.pointer (some ⟨qw1.heap.size, 0, none⟩),.agg #[.int .u32 l.hH, .int .i64 l.hP],.bool true,.bool false,.pointer (some ⟨w.heap.size, 2, none⟩),.agg #[.int .u32 l.tH, .int .i64 l.tP],.pointer (some ⟨qw1.heap.size, 2, none⟩),.agg #[.int .u32 l.tH, .int .i64 l.tP],.bool true,.bool false,.pointer (some ⟨w.heap.size, 4, none⟩),.agg (cnCells l.c),.pointer (some ⟨qw1.heap.size, 4, none⟩),.agg (cnCells ({ l.c with pa := a', pc := p' })),.bool true,.bool false] ?_
  go_upto_region 7 with (fail)
  refine vR ?_
  refine vV (.bool true) ?_
  refine vE #[.agg (lnCells l),.agg (lnCells { l with c := { l.c with pa := a', pc := p' } }),.pointer (some ⟨w.heap.size, 0, none⟩),.pointer (some ⟨qw1.heap.size, 0, none⟩),.bool true,.pointer (some ⟨w.heap.size, 0, none⟩),.agg #[.int .u32 l.hH, .int .i64 l.hP],.pointer (some ⟨qw1.heap.size, 0, none⟩),.agg #[.int .u32 l.hH, .int .i64 l.hP],.bool true,.bool false,.pointer (some ⟨w.heap.size, 2, none⟩),.agg #[.int .u32 l.tH, .int .i64 l.tP],.pointer (some ⟨qw1.heap.size, 2, none⟩),.agg #[.int .u32 l.tH, .int .i64 l.tP],.bool true,.bool false,.pointer (some ⟨w.heap.size, 4, none⟩),.agg (cnCells l.c),.pointer (some ⟨qw1.heap.size, 4, none⟩),.agg (cnCells ({ l.c with pa := a', pc := p' })),.bool true,.bool false] ?_
  go_wp2_with (fail)
  go_ret
  exact ⟨rfl, G⟩

theorem eqLine (l m : Ln) (e : core l = core m) (ps : List (Int × ByteArray)) (hn : l.c.pn ≤ 1048576) (w : World) (R : Rd shP w l.c.pa l.c.pn ps) (Q : Rd shP w m.c.pa m.c.pn ps) :
    Calls Try.prog 42 #[.agg (lnCells l), .agg (lnCells m)] w fun e w' => e = .returned (.bool true) ∧ Since w w' := by
  have h := like_put e
  have hq : m.c.pn = l.c.pn := by rw [h]
  rw [hq] at Q
  rw [h]
  exact eqLineP l m.c.pa m.c.pc ps hn w R Q

set_option maxRecDepth 20000 in
set_option maxHeartbeats 4000000 in
theorem eqLines (a b : Option Addr) (n ca cb : Nat) (xs ys : List Ln) (pp : List (List (Int × ByteArray))) (hn : n ≤ 1048576) (hk : Like n xs ys) (hp : ∀ i, i < n → (lAt xs i).c.pn ≤ 1048576) (w : World) (R : Rl w a n xs pp) (Q : Rl w b n ys pp) :
    Calls Try.prog 23 #[.slice a n ca, .slice b n cb] w fun e w' => e = .returned (.bool true) ∧ Since w w' := by
  have hz : ¬ (n : Int) ≠ (n : Int) := by omega
  go_enter Try.func23, Try.ntmps23
  go_wp2
  go_loopw [5] (fun i wr => ∃ (k : Nat), k ≤ n ∧ i = .int .i64 k ∧ Since w wr) (fun i _ => n - (intOf i).toNat)
  case atStart => exact ⟨0, by omega, rfl, Since.refl _⟩
  case round =>
    obtain ⟨k, hkn, rfl, S⟩ := hrel
    by_cases hlt : k < n
    · have hlt' : (k : Int) < (n : Int) := by omega
      obtain ⟨xa, rfl, _, _⟩ := R.rd.cell k hlt
      obtain ⟨ya, rfl, _, _⟩ := Q.rd.cell k hlt
      have hL := fun z (Sz : Since wr z) => (R.since (S.trans Sz)).rd.lineX k hlt
      have hM := fun z (Sz : Since wr z) => (Q.since (S.trans Sz)).rd.lineX k hlt
      have hE := fun z (Sz : Since wr z) => eqLine (lAt xs k) (lAt ys k) (hk k hlt) (qAt pp k) (hp k hlt) z ((R.since (S.trans Sz)).ps k hlt) ((Q.since (S.trans Sz)).ps k hlt)
      clear R Q hk hp
      generalize lAt xs k = L at hL hE
      generalize lAt ys k = M at hM hE
      have G := S
      go_upto_region 4 with (fail)
      refine vR ?_
      refine vV (.int .i64 (k : Int)) ?_
      refine vV (.slice (some xa) n ca) ?_
      refine vV (.int .i64 (n : Int)) ?_ (hrun := by simp [execOp, go_sem])
      refine vV (.bool true) ?_ (hrun := by simp [execOp, go_sem, hlt'])
      refine vE #[.slice (some xa) n ca,.slice (some ya) n cb,U,U,u4,.int .i64 (k : Int),.slice (some xa) n ca,.int .i64 (n : Int),.slice (some ya) n cb,.int .i64 (n : Int),.bool false,.int .i64 (k : Int),.slice (some xa) n ca,.int .i64 (n : Int),.bool true,u15,u16,u17,u18,u19,u20,u21,u22,u23,u24,u25,u26] ?_
      go_upto_region 6 with (fail)
      refine wp_region_each (wb := wr) (fun zi x v => match zi with
          | 0 => v = .slice (some xa) n ca
          | 1 => v = .int .i64 (k : Int)
          | 2 => v = .pointer (some (xa.add (k * 41)))
          | 3 => v = .agg (lnCells L)
          | 4 => v = .slice (some ya) n cb
          | 5 => v = .int .i64 (k : Int)
          | 6 => v = .pointer (some (ya.add (k * 41)))
          | 7 => v = .agg (lnCells M)
          | 8 => v = .bool true
          | 9 => v = .bool false
          | _ => True) (fun v => { tmps := #[.slice (some xa) n ca,.slice (some ya) n cb,U,U,u4,.int .i64 (k : Int),.slice (some xa) n ca,.int .i64 (n : Int),.slice (some ya) n cb,.int .i64 (n : Int),.bool false,.int .i64 (k : Int),.slice (some xa) n ca,.int .i64 (n : Int),.bool true,u15,u16,v 0,v 1,v 2,v 3,v 4,v 5,v 6,v 7,v 8,v 9], defers := [] }) (by kernel_rfl) (by kernel_rfl) (Since.refl _) ?_ (fun vals => by kernel_rfl) ?_ ?_
      case refine_1 =>
        intro j x x' v h1 h2
        match j, h2 with
        | 0, h2 | 1, h2 | 2, h2 | 3, h2 | 4, h2 | 5, h2 | 6, h2 | 7, h2 | 8, h2 | 9, h2 => exact h2
        | n + 10, _ => trivial
      case refine_2 =>
        repeat (first | exact eachDoes_nil | refine eachDoes_cons ?_ ?_)
        all_goals intro vals x hx hv
        all_goals simp [Region.binds] at hv
        · simp [does, doesUpon, go_sem, hv, Since.refl]
        · obtain ⟨h1, h2⟩ := hv
          simp [does, doesUpon, go_sem, h1, h2]
          refine (hE _ hx).mono ?_
          rintro _ x' ⟨rfl, h1⟩
          simp [h1]
        · exact does_Q ln_big (ln_size _) (hM _ hx) _ rfl hv ⟨Since.refl _, rfl⟩
        · obtain ⟨h1, h2⟩ := hv
          simp [does, doesUpon, go_sem, h1, h2, hlt, Since.refl]
        · simp [does, doesUpon, go_sem, Since.refl]
        · simp [does, doesUpon, go_sem, Since.refl]
        · exact does_Q ln_big (ln_size _) (hL _ hx) _ rfl hv ⟨Since.refl _, rfl⟩
        · obtain ⟨h1, h2⟩ := hv
          simp [does, doesUpon, go_sem, h1, h2, hlt, Since.refl]
        · simp [does, doesUpon, go_sem, Since.refl]
        · simp [does, doesUpon, go_sem, Since.refl]
      case refine_3 =>
        intro vals x hx hv
        have hv9 : vals 9 = _ := hv 9 (by decide)
        clear hv
        simp only [hv9]
        replace G := G.trans hx
        go_wp2_with (fail)
        go_roundw
        case rel =>
          (repeat apply Exists.intro)
          exact ⟨⟨k + 1, by omega, by go_num, G⟩, rfl⟩
        case measure => simp [intOf]; omega
    · have hkk : k = n := by omega
      subst hkk
      clear R Q hk hp
      go_wp2
      go_ret
      exact ⟨rfl, S⟩

set_option maxRecDepth 20000 in
set_option maxHeartbeats 4000000 in
theorem eqTable (t : Tb) (a' : Option Addr) (p' : Nat) (xs ys : List Ln) (pp : List (List (Int × ByteArray))) (hn : t.ln ≤ 1048576) (hk : Like t.ln xs ys) (hp : ∀ i, i < t.ln → (lAt xs i).c.pn ≤ 1048576) (w : World) (R : Rl w t.la t.ln xs pp) (Q : Rl w a' t.ln ys pp) :
    Calls Try.prog 9 #[.agg (tbCells t), .agg (tbCells { t with la := a', lc := p' })] w fun e w' => e = .returned (.bool true) ∧ Since w w' := by
  have G := Since.refl w
  have hE := fun wx (Rx : Rl wx t.la t.ln xs pp) (Qx : Rl wx a' t.ln ys pp) => eqLines t.la a' t.ln t.lc p' xs ys pp hn hk hp wx Rx Qx
  go_enter Try.func9, Try.ntmps9
  go_upto_region 0 with (fail)
  refine vR ?_
  refine vW (w.alloc (.cells (tbCells t) 30)) (.pointer (some ⟨w.heap.size, 0, none⟩)) ?_
  have qB2 := Blk.new w (tbCells t) 30
  have qg3 := (Since.refl w).alloc (.cells (tbCells t) 30)
  replace G := G.trans qg3
  generalize w.alloc (.cells (tbCells t) 30) = qw1 at  G qB2 qg3 ⊢
  have qB2_l := qB2.lt
  have qg3_s := qg3.size
  refine vW (qw1.alloc (.cells (tbCells { t with la := a', lc := p' }) 30)) (.pointer (some ⟨qw1.heap.size, 0, none⟩)) ?_
  have qB5 := Blk.new qw1 (tbCells { t with la := a', lc := p' }) 30
  have qg6 := (Since.refl qw1).alloc (.cells (tbCells { t with la := a', lc := p' }) 30)
  replace qB2 := qB2.since qg6
  replace G := G.trans qg6
  generalize qw1.alloc (.cells (tbCells { t with la := a', lc := p' }) 30) = qw4 at qB2 G qB5 qg6 ⊢
  have qB5_l := qB5.lt
  have qg6_s := qg6.size
  refine vV (.bool false) ?_
  refine vE #[.agg (tbCells t),.agg (tbCells { t with la := a', lc := p' }),.pointer (some ⟨w.heap.size, 0, none⟩),.pointer (some ⟨qw1.heap.size, 0, none⟩),.bool false,U,U,U,U,U,U,U,U,U,U,U,U,U,U,U,U,U,U,U,U,U,U,U,U,U,U,U,U,U,U,U] ?_
  go_upto_region 1 with (fail)
  refine vR ?_
  refine vV (.pointer (some ⟨w.heap.size, 0, none⟩)) ?_
  refine vD (.int .i64 t.po) (qB2.cell 0) ?_
  refine vV (.pointer (some ⟨qw1.heap.size, 0, none⟩)) ?_
  refine vD (.int .i64 t.po) (qB5.cell 0) ?_
  refine vV (.bool false) ?_ (hrun := by simp [execOp, go_sem])
  refine vE #[.agg (tbCells t),.agg (tbCells { t with la := a', lc := p' }),.pointer (some ⟨w.heap.size, 0, none⟩),.pointer (some ⟨qw1.heap.size, 0, none⟩),.bool false,.pointer (some ⟨w.heap.size, 0, none⟩),.int .i64 t.po,.pointer (some ⟨qw1.heap.size, 0, none⟩),.int .i64 t.po,.bool false,U,U,U,U,U,U,U,U,U,U,U,U,U,U,U,U,U,U,U,U,U,U,U,U,U,U] ?_
  go_upto_region 3 with (fail)
  refine vR ?_
  refine vV (.pointer (some ⟨w.heap.size, 1, none⟩)) ?_
  refine vD (.int .i64 t.rm) (qB2.cell 1) ?_
  refine vV (.pointer (some ⟨qw1.heap.size, 1, none⟩)) ?_
  refine vD (.int .i64 t.rm) (qB5.cell 1) ?_
  refine vV (.bool false) ?_ (hrun := by simp [execOp, go_sem])
  refine vE #[.agg (tbCells t),.agg (tbCells { t with la := a', lc := p' }),.pointer (some ⟨w.heap.size, 0, none⟩),.pointer (some ⟨qw1.heap.size, 0, none⟩),.bool false,.pointer (some ⟨w.heap.size, 0, none⟩),.int .i64 t.po,.pointer (some ⟨qw1.heap.size, 0, none⟩),.int .i64 t.po,.bool false,.pointer (some ⟨w.heap.size, 1, none⟩),.int .i64 t.rm,.pointer (some ⟨qw1.heap.size, 1, none⟩),.int .i64 t.rm,.bool false,U,U,U,U,U,U,U,U,U,U,U,U,U,U,U,U,U,U,U,U,U] ?_
  go_upto_region 5 with (fail)
  refine vR ?_
  refine vV (.pointer (some ⟨w.heap.size, 2, none⟩)) ?_
  refine vD (.int .u32 t.se) (qB2.cell 2) ?_
  refine vV (.pointer (some ⟨qw1.heap.size, 2, none⟩)) ?_
  refine vD (.int .u32 t.se) (qB5.cell 2) ?_
  refine vV (.bool false) ?_ (hrun := by simp [execOp, go_sem])
  refine vE #[.agg (tbCells t),.agg (tbCells { t with la := a', lc := p' }),.pointer (some ⟨w.heap.size, 0, none⟩),.pointer (some ⟨qw1.heap.size, 0, none⟩),.bool false,.pointer (some ⟨w.heap.size, 0, none⟩),.int .i64 t.po,.pointer (some ⟨qw1.heap.size, 0, none⟩),.int .i64 t.po,.bool false,.pointer (some ⟨w.heap.size, 1, none⟩),.int .i64 t.rm,.pointer (some ⟨qw1.heap.size, 1, none⟩),.int .i64 t.rm,.bool false,.pointer (some ⟨w.heap.size, 2, none⟩),.int .u32 t.se,.pointer (some ⟨qw1.heap.size, 2, none⟩),.int .u32 t.se,.bool false,U,U,U,U,U,U,U,U,U,U,U,U,U,U,U,U] ?_
  go_upto_region 7 with (fail)
  refine vR ?_
  refine vV (.pointer (some ⟨w.heap.size, 3, none⟩)) ?_
  refine vD (.int .i64 t.ep) (qB2.cell 3) ?_
  refine vV (.pointer (some ⟨qw1.heap.size, 3, none⟩)) ?_
  refine vD (.int .i64 t.ep) (qB5.cell 3) ?_
  refine vV (.bool false) ?_ (hrun := by simp [execOp, go_sem])
  refine vE #[.agg (tbCells t),.agg (tbCells { t with la := a', lc := p' }),.pointer (some ⟨w.heap.size, 0, none⟩),.pointer (some ⟨qw1.heap.size, 0, none⟩),.bool false,.pointer (some ⟨w.heap.size, 0, none⟩),.int .i64 t.po,.pointer (some ⟨qw1.heap.size, 0, none⟩),.int .i64 t.po,.bool false,.pointer (some ⟨w.heap.size, 1, none⟩),.int .i64 t.rm,.pointer (some ⟨qw1.heap.size, 1, none⟩),.int .i64 t.rm,.bool false,.pointer (some ⟨w.heap.size, 2, none⟩),.int .u32 t.se,.pointer (some ⟨qw1.heap.size, 2, none⟩),.int .u32 t.se,.bool false,.pointer (some ⟨w.heap.size, 3, none⟩),.int .i64 t.ep,.pointer (some ⟨qw1.heap.size, 3, none⟩),.int .i64 t.ep,.bool false,U,U,U,U,U,U,U,U,U,U,U] ?_
  go_upto_region 9 with (fail)
  refine vR ?_
  refine vV (.pointer (some ⟨w.heap.size, 4, none⟩)) ?_
  refine vD (.int .i64 t.nw) (qB2.cell 4) ?_
  refine vV (.pointer (some ⟨qw1.heap.size, 4, none⟩)) ?_
  refine vD (.int .i64 t.nw) (qB5.cell 4) ?_
  refine vV (.bool false) ?_ (hrun := by simp [execOp, go_sem])
  refine vE #[.agg (tbCells t),.agg (tbCells { t with la := a', lc := p' }),.pointer (some ⟨w.heap.size, 0, none⟩),.pointer (some ⟨qw1.heap.size, 0, none⟩),.bool false,.pointer (some ⟨w.heap.size, 0, none⟩),.int .i64 t.po,.pointer (some ⟨qw1.heap.size, 0, none⟩),.int .i64 t.po,.bool false,.pointer (some ⟨w.heap.size, 1, none⟩),.int .i64 t.rm,.pointer (some ⟨qw1.heap.size, 1, none⟩),.int .i64 t.rm,.bool false,.pointer (some ⟨w.heap.size, 2, none⟩),.int .u32 t.se,.pointer (some ⟨qw1.heap.size, 2, none⟩),.int .u32 t.se,.bool false,.pointer (some ⟨w.heap.size, 3, none⟩),.int .i64 t.ep,.pointer (some ⟨qw1.heap.size, 3, none⟩),.int .i64 t.ep,.bool false,.pointer (some ⟨w.heap.size, 4, none⟩),.int .i64 t.nw,.pointer (some ⟨qw1.heap.size, 4, none⟩),.int .i64 t.nw,.bool false,U,U,U,U,U,U] ?_
  go_upto_region 11 with (fail)
  refine vR ?_
  refine vV (.pointer (some ⟨w.heap.size, 5, none⟩)) ?_
  refine vD (.slice t.la t.ln t.lc) (qB2.cell 5) ?_
  refine vV (.pointer (some ⟨qw1.heap.size, 5, none⟩)) ?_
  refine vD (.slice (a') t.ln (p')) (qB5.cell 5) ?_
  refine vK (hE _ (R.since G) (Q.since G)) ?_
  intro qw7 qg8
  replace qB2 := qB2.since qg8
  replace qB5 := qB5.since qg8
  replace G := G.trans qg8
  have qg8_s := qg8.size
  refine vV (.bool false) ?_
  refine vE #[.agg (tbCells t),.agg (tbCells { t with la := a', lc := p' }),.pointer (some ⟨w.heap.size, 0, none⟩),.pointer (some ⟨qw1.heap.size, 0, none⟩),.bool false,.pointer (some ⟨w.heap.size, 0, none⟩),.int .i64 t.po,.pointer (some ⟨qw1.heap.size, 0, none⟩),.int .i64 t.po,.bool false,.pointer (some ⟨w.heap.size, 1, none⟩),.int .i64 t.rm,.pointer (some ⟨qw1.heap.size, 1, none⟩),.int .i64 t.rm,.bool false,.pointer (some ⟨w.heap.size, 2, none⟩),.int .u32 t.se,.pointer (some ⟨qw1.heap.size, 2, none⟩),.int .u32 t.se,.bool false,.pointer (some ⟨w.heap.size, 3, none⟩),.int .i64 t.ep,.pointer (some ⟨qw1.heap.size, 3, none⟩),.int .i64 t.ep,.bool false,.pointer (some ⟨w.heap.size, 4, none⟩),.int .i64 t.nw,.pointer (some ⟨qw1.heap.size, 4, none⟩),.int .i64 t.nw,.bool false,.pointer (some ⟨w.heap.size, 5, none⟩),.slice t.la t.ln t.lc,.pointer (some ⟨qw1.heap.size, 5, none⟩),.slice (a') t.ln (p'),.bool true,.bool false] ?_
  go_upto_region 13 with (fail)
  refine vR ?_
  refine vV (.bool true) ?_
  refine vE #[.agg (tbCells t),.agg (tbCells { t with la := a', lc := p' }),.pointer (some ⟨w.heap.size, 0, none⟩),.pointer (some ⟨qw1.heap.size, 0, none⟩),.bool true,.pointer (some ⟨w.heap.size, 0, none⟩),.int .i64 t.po,.pointer (some ⟨qw1.heap.size, 0, none⟩),.int .i64 t.po,.bool false,.pointer (some ⟨w.heap.size, 1, none⟩),.int .i64 t.rm,.pointer (some ⟨qw1.heap.size, 1, none⟩),.int .i64 t.rm,.bool false,.pointer (some ⟨w.heap.size, 2, none⟩),.int .u32 t.se,.pointer (some ⟨qw1.heap.size, 2, none⟩),.int .u32 t.se,.bool false,.pointer (some ⟨w.heap.size, 3, none⟩),.int .i64 t.ep,.pointer (some ⟨qw1.heap.size, 3, none⟩),.int .i64 t.ep,.bool false,.pointer (some ⟨w.heap.size, 4, none⟩),.int .i64 t.nw,.pointer (some ⟨qw1.heap.size, 4, none⟩),.int .i64 t.nw,.bool false,.pointer (some ⟨w.heap.size, 5, none⟩),.slice t.la t.ln t.lc,.pointer (some ⟨qw1.heap.size, 5, none⟩),.slice (a') t.ln (p'),.bool true,.bool false] ?_
  go_wp2_with (fail)
  go_ret
  exact ⟨rfl, G⟩
end Go.Proofs.Ytpkenhcglnognaa
