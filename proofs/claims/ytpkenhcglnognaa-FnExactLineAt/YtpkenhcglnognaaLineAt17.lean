/-
  A register of routes filled and asked.
-/
import Derived.Test.YtpkenhcglnognaaMap17
import Derived.Test.YtpkenhcglnognaaLawTb
namespace Go.Proofs.Ytpkenhcglnognaa
open Go.ChangeShapes Go.WideShapes Go.ChangeAt Go.RowKit Go.Deep
set_option linter.unusedVariables false
set_option maxRecDepth 10000
set_option linter.unusedSimpArgs false

/-- Ports and hosts of a line are numbers of the machine. -/
def NumL (l : Ln) : Prop := WordL l ∧ (Lit.int .i64 l.hP).wf = true ∧ (Lit.int .i64 l.tP).wf = true

theorem NumL.rt {l : Ln} (h : NumL l) : WfRt l := by
  have a := h.1.1
  have b := h.1.2
  have wf : ∀ x : Int, 0 ≤ x ∧ x < 4294967296 → (Lit.int .i64 x).wf = true := fun x hx => by simp [Lit.wf, IntKind.min, IntKind.max, IntKind.signed, IntKind.bits]; omega
  exact ⟨wf _ a, h.2.1, wf _ b, h.2.2⟩

theorem Touch.since {g : Nat} {a b c : World} (h : Touch g a b) (s : Since b c) : Touch g a c := h.trans (Touch.of_since s g)

/-- Behind a write into a block that was made since. -/
theorem Touch.over {g q : Nat} {a b c : World} (h : Touch g a b) (t : Touch q b c) (hq : a.heap.size ≤ q) : Touch g a c :=
  ⟨t.os.trans h.os, t.tape.trans h.tape, t.output.trans h.output, Nat.le_trans h.size t.size, fun k hk hne => (t.block k (Nat.lt_of_lt_of_le hk h.size) (by omega)).trans (h.block k hk hne)⟩

set_option maxRecDepth 20000 in
set_option maxHeartbeats 8000000 in
theorem fillP (b : Nat) (xa : Addr) (n cap : Nat) (xs : List Ln) (hn : n ≤ 1048576) (hw : ∀ k, k < n → NumL (lAt xs k)) (w : World) (H : IsRtMap w b) (hxb : ∀ x, some xa = some x → x.block ≠ b) (R : Rd shL w (some xa) n xs) :
    Calls Try.prog 25 #[.map (some b), .slice (some xa) n cap] w fun e w' => e = .returned (.tuple #[]) ∧ MapIs w' b n xs ∧ Touch b w w' := by
  have hb_l := H.lt
  go_enter Try.func25, Try.ntmps25
  have G := Touch.refl b w
  go_upto_region 0 with (fail)
  refine vR ?_
  refine vV (.map (some b)) ?_
  refine vClear H xs ?_
  intro w0 M0 t0
  replace G := G.trans t0
  have t0_s := t0.size
  clear t0 H
  refine vE #[.map (some b),.slice (some xa) n cap,U,U,U,U,.map (some b),U,U,U,U,U,U,U,U,U,U,U,U,U,U,U] ?_
  go_upto_region 1 with (fail)
  refine vR ?_
  refine vV (.slice (some xa) n cap) ?_
  refine vV (.int .i64 (n : Int)) ?_ (hrun := by simp [execOp, go_sem])
  refine vV (.int .i64 0) ?_
  refine vE #[.map (some b),.slice (some xa) n cap,U,U,U,U,.map (some b),.slice (some xa) n cap,.int .i64 (n : Int),.int .i64 0,U,U,U,U,U,U,U,U,U,U,U,U] ?_
  go_wp2_with (fail)
  go_loopw [9] (fun kv wr => ∃ (k : Nat), kv = .int .i64 (k : Int) ∧ k ≤ n ∧ MapIs wr b k xs ∧ Touch b w wr) (fun kv _ => n - (intOf kv).toNat)
  case atStart => exact ⟨0, rfl, by omega, M0, G⟩
  case round =>
    clear G M0
    obtain ⟨k, rfl, hk, M, G⟩ := hrel
    by_cases hkt : k < n
    case pos =>
      have hkt' : (k : Int) < (n : Int) := by omega
      have hL := (R.touch G hxb).lineX k hkt
      have hnl := hw k hkt
      have hrt := hnl.rt
      obtain ⟨L, hLe⟩ : ∃ L, L = lAt xs k := ⟨_, rfl⟩
      rw [← hLe] at hL hnl hrt
      have hLe2 : Hid (lAt xs k = L) := hLe.symm
      clear hLe
      have hG_s := G.size
      have hM_l := M.lt
      clear hw
      go_upto_region 2 with (fail)
      refine vR ?_
      refine vV (.bool true) ?_ (hrun := by simp [execOp, go_sem, hkt'])
      refine vE #[.map (some b),.slice (some xa) n cap,U,U,u4,u5,.map (some b),.slice (some xa) n cap,.int .i64 (n : Int),.int .i64 (k : Int),.bool true,u11,u12,u13,u14,u15,u16,u17,u18,u19,u20,u21] ?_
      go_upto_region 3 with (fail)
      refine vR ?_
      refine vV (.int .i64 (k : Int)) ?_
      refine vV (.pointer (some (xa.add (k * 41)))) ?_ (hrun := by simp [execOp, go_sem, hkt])
      refine vQ ln_big (ln_size _) hL ?_
      refine vW (wr.alloc (.cells (lnCells lnZero) 55)) (.pointer (some ⟨wr.heap.size, 0, none⟩)) ?_
      have qB2 := Blk.new wr (lnCells lnZero) 55
      have qg3 := (Since.refl wr).alloc (.cells (lnCells lnZero) 55)
      replace M := M.since qg3
      replace G := G.since qg3
      generalize wr.alloc (.cells (lnCells lnZero) 55) = qw1 at M G qB2 qg3 ⊢
      have qB2_l := qB2.lt
      have qg3_s := qg3.size
      refine vV (.int .i64 (k : Int)) ?_
      refine sB (lnCells L) ln_big qB2 (ln_size _) (ln_size _) (ln_one _) ?_
      intro qw4 qt5 qB6
      clear qB2
      replace M := M.touch qt5 (by omega)
      replace G := G.over qt5 (by omega)
      have qt5_s := qt5.size
      refine vE #[.map (some b),.slice (some xa) n cap,U,U,.int .i64 (k : Int),.pointer (some ⟨wr.heap.size, 0, none⟩),.map (some b),.slice (some xa) n cap,.int .i64 (n : Int),.int .i64 (k : Int),.bool true,.int .i64 (k : Int),.pointer (some (xa.add (k * 41))),.agg (lnCells L),u14,u15,u16,u17,u18,u19,u20,u21] ?_
      go_upto_region 4 with (fail)
      refine vR ?_
      refine vV (.map (some b)) ?_
      refine vV (.pointer (some ⟨wr.heap.size, 0, none⟩)) ?_
      refine vP ad_big qB6 0 [.int .u32 L.hH, .int .i64 L.hP] ?_
      refine vV (.pointer (some ⟨wr.heap.size, 2, none⟩)) ?_
      refine vP ad_big qB6 2 [.int .u32 L.tH, .int .i64 L.tP] ?_
      refine vK (routeOf L.hH L.hP L.tH L.tP hnl.1.1 hnl.1.2 _) ?_
      intro qw7 qg8
      replace qB6 := qB6.since qg8
      replace M := M.since qg8
      replace G := G.since qg8
      have qg8_s := qg8.size
      refine vV (.int .i64 (k : Int)) ?_
      refine vPut M (by omega) (by rw [hLe2.out]; exact hrt) (hx := by rw [hLe2.out]; kernel_rfl) ?_
      intro w7 M7 t7
      replace G := G.trans t7
      refine vE #[.map (some b),.slice (some xa) n cap,U,U,.int .i64 (k : Int),.pointer (some ⟨wr.heap.size, 0, none⟩),.map (some b),.slice (some xa) n cap,.int .i64 (n : Int),.int .i64 (k : Int),.bool true,.int .i64 (k : Int),.pointer (some (xa.add (k * 41))),.agg (lnCells L),.map (some b),.pointer (some ⟨wr.heap.size, 0, none⟩),.agg #[.int .u32 L.hH, .int .i64 L.hP],.pointer (some ⟨wr.heap.size, 2, none⟩),.agg #[.int .u32 L.tH, .int .i64 L.tP],.agg #[.int .i64 L.hH, .int .i64 L.hP, .int .i64 L.tH, .int .i64 L.tP],.int .i64 (k : Int),u21] ?_
      go_wp2_with (fail)
      go_roundw
      case rel => exact ⟨k + 1, by go_num, by omega, M7, G⟩
      case measure => simp [intOf]; omega
    case neg =>
      obtain rfl : k = n := by omega
      go_upto_region 2 with (fail)
      refine vR ?_
      refine vV (.bool false) ?_ (hrun := by simp [execOp, go_sem])
      refine vE #[.map (some b),.slice (some xa) k cap,U,U,u4,u5,.map (some b),.slice (some xa) k cap,.int .i64 (k : Int),.int .i64 (k : Int),.bool false,u11,u12,u13,u14,u15,u16,u17,u18,u19,u20,u21] ?_
      go_wp2_with (fail)
      exact bodyPost_end (v := .tuple #[]) (results_none rfl _ _ _) rfl ⟨rfl, M, G⟩

set_option maxRecDepth 20000 in
set_option maxHeartbeats 8000000 in
theorem placeOf (b n : Nat) (xs : List Ln) (q : Ln) (hw : WfRt q) (w : World) (M : MapIs w b n xs) :
    Calls Try.prog 26 #[.map (some b), rtV q] w fun e w' => ∃ r, e = .returned (.int .i64 r) ∧ FindR xs n q r ∧ Since w w' := by
  go_enter Try.func26, Try.ntmps26
  have G := Since.refl w
  go_upto_region 0 with (fail)
  refine vR ?_
  refine vW (w.alloc (.cells #[.int .i64 q.hH, .int .i64 q.hP, .int .i64 q.tH, .int .i64 q.tP] 64)) (.pointer (some ⟨w.heap.size, 0, none⟩)) ?_
  have qB2 := Blk.new w #[.int .i64 q.hH, .int .i64 q.hP, .int .i64 q.tH, .int .i64 q.tP] 64
  have qg3 := (Since.refl w).alloc (.cells #[.int .i64 q.hH, .int .i64 q.hP, .int .i64 q.tH, .int .i64 q.tP] 64)
  replace M := M.since qg3
  replace G := G.trans qg3
  generalize w.alloc (.cells #[.int .i64 q.hH, .int .i64 q.hP, .int .i64 q.tH, .int .i64 q.tP] 64) = qw1 at M G qB2 qg3 ⊢
  have qB2_l := qB2.lt
  have qg3_s := qg3.size
  refine vV (.int .i64 0) ?_
  refine vE #[.map (some b),.agg #[.int .i64 q.hH, .int .i64 q.hP, .int .i64 q.tH, .int .i64 q.tP],U,.pointer (some ⟨w.heap.size, 0, none⟩),.int .i64 0,U,U,U,U,U,U,U,U,U,U] ?_
  go_upto_region 1 with (fail)
  refine vR ?_
  refine vV (.map (some b)) ?_
  refine vB rt_big qB2 rfl ?_
  refine vLook M q hw ?_
  intro v f hv
  refine vV (.tuple #[.int .i64 v, .bool f]) ?_
  refine vV (.int .i64 v) ?_
  refine vV (.bool f) ?_
  refine vV (.int .i64 v) ?_
  refine vV (.bool f) ?_
  refine vE #[.map (some b),.agg #[.int .i64 q.hH, .int .i64 q.hP, .int .i64 q.tH, .int .i64 q.tP],U,.pointer (some ⟨w.heap.size, 0, none⟩),.int .i64 0,.int .i64 v,.bool f,.tuple #[.int .i64 v, .bool f],.map (some b),.agg #[.int .i64 q.hH, .int .i64 q.hP, .int .i64 q.tH, .int .i64 q.tP],.tuple #[.int .i64 v, .bool f],.int .i64 v,.bool f,U,U] ?_
  rcases hv with ⟨rfl, hv⟩ | ⟨rfl, hv⟩
  · skip
    replace hv : Hid (FindR xs n q (-1)) := hv
    go_wp2_with (fail)
    go_ret
    exact ⟨-1, rfl, hv.out, G⟩
  · skip
    replace hv : Hid (FindR xs n q (v)) := hv
    go_wp2_with (fail)
    go_ret
    exact ⟨v, rfl, hv.out, G⟩

set_option maxRecDepth 20000 in
set_option maxHeartbeats 8000000 in
theorem specFind (t : Tb) (xs : List Ln) (m : Ln) (hm : t.ln ≤ 1048576) (w : World) (R : Rd shL w t.la t.ln xs) :
    Calls Try.prog 24 #[.agg (tbCells t), .agg #[.int .u32 m.hH, .int .i64 m.hP], .agg #[.int .u32 m.tH, .int .i64 m.tP]] w fun e w' => ∃ r, e = .returned (.int .i64 r) ∧ FindR xs t.ln m r ∧ Since w w' := by
  go_enter Try.func24, Try.ntmps24
  have G := Since.refl w
  go_upto_region 0 with (fail)
  refine vR ?_
  refine vW (w.alloc (.cells (tbCells t) 30)) (.pointer (some ⟨w.heap.size, 0, none⟩)) ?_
  have qB2 := Blk.new w (tbCells t) 30
  have qg3 := (Since.refl w).alloc (.cells (tbCells t) 30)
  replace G := G.trans qg3
  generalize w.alloc (.cells (tbCells t) 30) = qw1 at  G qB2 qg3 ⊢
  have qB2_l := qB2.lt
  have qg3_s := qg3.size
  refine vW (qw1.alloc (.cells #[.int .u32 m.hH, .int .i64 m.hP] 37)) (.pointer (some ⟨qw1.heap.size, 0, none⟩)) ?_
  have qB5 := Blk.new qw1 #[.int .u32 m.hH, .int .i64 m.hP] 37
  have qg6 := (Since.refl qw1).alloc (.cells #[.int .u32 m.hH, .int .i64 m.hP] 37)
  replace qB2 := qB2.since qg6
  replace G := G.trans qg6
  generalize qw1.alloc (.cells #[.int .u32 m.hH, .int .i64 m.hP] 37) = qw4 at qB2 G qB5 qg6 ⊢
  have qB5_l := qB5.lt
  have qg6_s := qg6.size
  refine vW (qw4.alloc (.cells #[.int .u32 m.tH, .int .i64 m.tP] 37)) (.pointer (some ⟨qw4.heap.size, 0, none⟩)) ?_
  have qB8 := Blk.new qw4 #[.int .u32 m.tH, .int .i64 m.tP] 37
  have qg9 := (Since.refl qw4).alloc (.cells #[.int .u32 m.tH, .int .i64 m.tP] 37)
  replace qB2 := qB2.since qg9
  replace qB5 := qB5.since qg9
  replace G := G.trans qg9
  generalize qw4.alloc (.cells #[.int .u32 m.tH, .int .i64 m.tP] 37) = qw7 at qB2 qB5 G qB8 qg9 ⊢
  have qB8_l := qB8.lt
  have qg9_s := qg9.size
  refine vV (.int .i64 0) ?_
  refine vE #[.agg (tbCells t),.agg #[.int .u32 m.hH, .int .i64 m.hP],.agg #[.int .u32 m.tH, .int .i64 m.tP],.pointer (some ⟨w.heap.size, 0, none⟩),.pointer (some ⟨qw1.heap.size, 0, none⟩),.pointer (some ⟨qw4.heap.size, 0, none⟩),.int .i64 0,U,U,U,U,U,U,U,U,U,U,U,U,U,U,U,U,U,U,U,U,U,U,U,U,U,U,U] ?_
  go_upto_region 1 with (fail)
  refine vR ?_
  refine vV (.int .i64 0) ?_
  refine vE #[.agg (tbCells t),.agg #[.int .u32 m.hH, .int .i64 m.hP],.agg #[.int .u32 m.tH, .int .i64 m.tP],.pointer (some ⟨w.heap.size, 0, none⟩),.pointer (some ⟨qw1.heap.size, 0, none⟩),.pointer (some ⟨qw4.heap.size, 0, none⟩),.int .i64 0,.int .i64 0,U,U,U,U,U,U,U,U,U,U,U,U,U,U,U,U,U,U,U,U,U,U,U,U,U,U] ?_
  go_wp2_with (fail)
  have hbT_l := qB2.lt
  have hbH_l := qB5.lt
  have hbE_l := qB8.lt
  obtain ⟨bT, hbT⟩ : ∃ b, b = w.heap.size := ⟨_, rfl⟩
  rw [← hbT] at qB2 ⊢
  obtain ⟨bH, hbH⟩ : ∃ b, b = qw1.heap.size := ⟨_, rfl⟩
  rw [← hbH] at qB5 ⊢
  obtain ⟨bE, hbE⟩ : ∃ b, b = qw4.heap.size := ⟨_, rfl⟩
  rw [← hbE] at qB8 ⊢
  have hb_0 : w.heap.size ≤ bT := by omega
  have hb_1 : w.heap.size ≤ bH := by omega
  have hb_2 : w.heap.size ≤ bE := by omega
  have hc_0 : bT < qw7.heap.size := by omega
  have hc_1 : bH < qw7.heap.size := by omega
  have hc_2 : bE < qw7.heap.size := by omega
  clear hbT hbH hbE
  go_loopw [7] (fun kv wr => ∃ (k : Nat), kv = .int .i64 (k : Int) ∧ k ≤ t.ln ∧ Blk bT wr (tbCells t) ∧ Blk bH wr #[.int .u32 m.hH, .int .i64 m.hP] ∧ Blk bE wr #[.int .u32 m.tH, .int .i64 m.tP] ∧ Since w wr ∧ Hid (∀ j, j < k → ¬ SameAd (lAt xs j) m)) (fun kv _ => t.ln - (intOf kv).toNat)
  case atStart => exact ⟨0, rfl, by omega, qB2, qB5, qB8, G, (fun j hj => absurd hj (Nat.not_lt_zero j) : ∀ j, j < 0 → ¬ SameAd (lAt xs j) m)⟩
  case round =>
    clear G qB2 qB5 qB8
    obtain ⟨k, rfl, hk, A, B, C, G, hD⟩ := hrel
    by_cases hkt : k < t.ln
    case pos =>
      have hkt' : (k : Int) < (t.ln : Int) := by omega
      obtain ⟨xa, exa0, _, _⟩ := (R.since G).cell k hkt
      have exa : Hid (t.la = some xa) := exa0
      have hM := fun z (Sz : Since wr z) => (show Rd shL z (some xa) t.ln xs from exa0 ▸ ((R.since G).since Sz)).lineX k hkt
      clear exa0
      have hsm : SameAd (lAt xs k) m ↔ ((lAt xs k).hH = m.hH ∧ (lAt xs k).hP = m.hP) ∧ ((lAt xs k).tH = m.tH ∧ (lAt xs k).tP = m.tP) := Iff.rfl
      have hF : Hid (SameAd (lAt xs k) m → FindR xs t.ln m k) := (fun h => .inr ⟨k, hkt, rfl, h⟩ : _ → _)
      have hD2 : Hid (¬ SameAd (lAt xs k) m → ∀ j, j < k + 1 → ¬ SameAd (lAt xs j) m) := (fun h j hj => by
        by_cases e : j = k
        · subst e; exact h
        · exact hD.out j (by omega) : _ → _)
      clear hD
      generalize lAt xs k = M at hM hsm hF hD2
      go_upto_region 2 with (fail)
      refine vR ?_
      refine vV (.int .i64 (k : Int)) ?_
      refine vV (.pointer (some ⟨bT, 5, none⟩)) ?_
      refine vD (.slice (some xa) t.ln t.lc) ((A.cell 5).trans (by show some (.slice t.la t.ln t.lc : Value) = _; rw [exa.out])) ?_
      refine vV (.int .i64 (t.ln : Int)) ?_ (hrun := by simp [execOp, go_sem])
      refine vV (.bool true) ?_ (hrun := by simp [execOp, go_sem, hkt'])
      refine vE #[.agg (tbCells t),.agg #[.int .u32 m.hH, .int .i64 m.hP],.agg #[.int .u32 m.tH, .int .i64 m.tP],.pointer (some ⟨bT, 0, none⟩),.pointer (some ⟨bH, 0, none⟩),.pointer (some ⟨bE, 0, none⟩),u6,.int .i64 (k : Int),.int .i64 (k : Int),.pointer (some ⟨bT, 5, none⟩),.slice (some xa) t.ln t.lc,.int .i64 (t.ln : Int),.bool true,u13,u14,u15,u16,u17,u18,u19,u20,u21,u22,u23,u24,u25,u26,u27,u28,u29,u30,u31,u32,u33] ?_
      go_upto_region 4 with (fail)
      by_cases e1 : M.hH = m.hH ∧ M.hP = m.hP
      case pos =>
        by_cases e2 : M.tH = m.tH ∧ M.tP = m.tP
        case pos =>
          have hf := hF.out (hsm.2 ⟨e1, e2⟩)
          replace hf : Hid (FindR xs t.ln m k) := hf
          clear hF hD2 hsm
          obtain ⟨h1, h2⟩ := e1
          obtain ⟨h3, h4⟩ := e2
          refine wp_region_qs (wb := wr) (by kernel_rfl) (by kernel_rfl) (Since.refl _) ?_
          refine q_val (by kernel_rfl) (.pointer (some ⟨bT, 5, none⟩)) (fun x hx => by kernel_rfl) ?_
          refine q_cell (by kernel_rfl) _ _ rfl ⟨bT, 5, none⟩ (by kernel_rfl) (.slice (some xa) t.ln t.lc) (fun y hy => ((A.since hy).cell 5).trans (by show some (.slice t.la t.ln t.lc : Value) = _; rw [exa.out])) (fun y => by kernel_rfl) ?_
          refine q_val (by kernel_rfl) (.int .i64 (k : Int)) (fun x hx => by kernel_rfl) ?_
          refine q_val (by kernel_rfl) (.pointer (some (xa.add (k * 41)))) (fun x hx => by simp [execOp, go_sem, hkt]) ?_
          refine q_val (by kernel_rfl) (.pointer (some ((xa.add (k * 41)).add 0))) (fun x hx => by kernel_rfl) ?_
          refine q_Q (by kernel_rfl) ad_big (cs := #[.int .u32 M.hH, .int .i64 M.hP]) rfl _ rfl (by kernel_rfl) (fun y hy => line_here (hM y hy)) ?_
          refine q_big ad_big rfl B (by kernel_rfl) _ rfl (by kernel_rfl) ?_
          refine q_val (by kernel_rfl) (.bool true) (fun x hx => by simp [execOp, go_sem, h1, h2]) ?_
          refine q_val (by kernel_rfl) (.bool true) (fun x hx => by kernel_rfl) ?_
          refine q_val (by kernel_rfl) (.pointer (some ⟨bT, 5, none⟩)) (fun x hx => by kernel_rfl) ?_
          refine q_cell (by kernel_rfl) _ _ rfl ⟨bT, 5, none⟩ (by kernel_rfl) (.slice (some xa) t.ln t.lc) (fun y hy => ((A.since hy).cell 5).trans (by show some (.slice t.la t.ln t.lc : Value) = _; rw [exa.out])) (fun y => by kernel_rfl) ?_
          refine q_val (by kernel_rfl) (.int .i64 (k : Int)) (fun x hx => by kernel_rfl) ?_
          refine q_val (by kernel_rfl) (.pointer (some (xa.add (k * 41)))) (fun x hx => by simp [execOp, go_sem, hkt]) ?_
          refine q_val (by kernel_rfl) (.pointer (some ((xa.add (k * 41)).add 2))) (fun x hx => by kernel_rfl) ?_
          refine q_Q (by kernel_rfl) ad_big (cs := #[.int .u32 M.tH, .int .i64 M.tP]) rfl _ rfl (by kernel_rfl) (fun y hy => line_there (hM y hy)) ?_
          refine q_big ad_big rfl C (by kernel_rfl) _ rfl (by kernel_rfl) ?_
          refine q_val (by kernel_rfl) (.bool true) (fun x hx => by simp [execOp, go_sem, h3, h4]) ?_
          refine q_val (by kernel_rfl) (.bool true) (fun x hx => by kernel_rfl) ?_
          refine q_frame (a' := { tmps := #[.agg (tbCells t),.agg #[.int .u32 m.hH, .int .i64 m.hP],.agg #[.int .u32 m.tH, .int .i64 m.tP],.pointer (some ⟨bT, 0, none⟩),.pointer (some ⟨bH, 0, none⟩),.pointer (some ⟨bE, 0, none⟩),u6,.int .i64 (k : Int),.int .i64 (k : Int),.pointer (some ⟨bT, 5, none⟩),.slice (some xa) t.ln t.lc,.int .i64 (t.ln : Int),.bool true,u13,u14,.pointer (some ⟨bT, 5, none⟩),.slice (some xa) t.ln t.lc,.int .i64 (k : Int),.pointer (some (xa.add (k * 41))),.pointer (some ((xa.add (k * 41)).add 0)),.agg #[.int .u32 M.hH, .int .i64 M.hP],.agg #[.int .u32 m.hH, .int .i64 m.hP],.bool true,.bool true,.pointer (some ⟨bT, 5, none⟩),.slice (some xa) t.ln t.lc,.int .i64 (k : Int),.pointer (some (xa.add (k * 41))),.pointer (some ((xa.add (k * 41)).add 2)),.agg #[.int .u32 M.tH, .int .i64 M.tP],.agg #[.int .u32 m.tH, .int .i64 m.tP],.bool true,.bool true,u33], defers := [] }) (by kernel_rfl) ?_
          refine q_nil ?_
          intro qw10 qh11
          replace A := A.since qh11
          replace B := B.since qh11
          replace C := C.since qh11
          replace G := G.trans qh11
          have qh11_s := qh11.size
          go_upto_region 5 with (fail)
          refine vR ?_
          refine vV (.int .i64 (k : Int)) ?_
          refine vV (.int .i64 (k : Int)) ?_
          refine vE #[.agg (tbCells t),.agg #[.int .u32 m.hH, .int .i64 m.hP],.agg #[.int .u32 m.tH, .int .i64 m.tP],.pointer (some ⟨bT, 0, none⟩),.pointer (some ⟨bH, 0, none⟩),.pointer (some ⟨bE, 0, none⟩),.int .i64 (k : Int),.int .i64 (k : Int),.int .i64 (k : Int),.pointer (some ⟨bT, 5, none⟩),.slice (some xa) t.ln t.lc,.int .i64 (t.ln : Int),.bool true,u13,u14,.pointer (some ⟨bT, 5, none⟩),.slice (some xa) t.ln t.lc,.int .i64 (k : Int),.pointer (some (xa.add (k * 41))),.pointer (some ((xa.add (k * 41)).add 0)),.agg #[.int .u32 M.hH, .int .i64 M.hP],.agg #[.int .u32 m.hH, .int .i64 m.hP],.bool true,.bool true,.pointer (some ⟨bT, 5, none⟩),.slice (some xa) t.ln t.lc,.int .i64 (k : Int),.pointer (some (xa.add (k * 41))),.pointer (some ((xa.add (k * 41)).add 2)),.agg #[.int .u32 M.tH, .int .i64 M.tP],.agg #[.int .u32 m.tH, .int .i64 m.tP],.bool true,.bool true,.int .i64 (k : Int)] ?_
          go_wp2_with (fail)
          go_ret
          exact ⟨(k : Int), rfl, hf.out, G⟩
        case neg =>
          have hD3 := hD2.out (fun h => e2 (hsm.1 h).2)
          replace hD3 : Hid (∀ j, j < k + 1 → ¬ SameAd (lAt xs j) m) := hD3
          clear hF hD2
          have e2' : M.tH = m.tH → ¬ M.tP = m.tP := fun a b => e2 ⟨a, b⟩
          clear hsm
          obtain ⟨h1, h2⟩ := e1
          refine wp_region_qs (wb := wr) (by kernel_rfl) (by kernel_rfl) (Since.refl _) ?_
          refine q_val (by kernel_rfl) (.pointer (some ⟨bT, 5, none⟩)) (fun x hx => by kernel_rfl) ?_
          refine q_cell (by kernel_rfl) _ _ rfl ⟨bT, 5, none⟩ (by kernel_rfl) (.slice (some xa) t.ln t.lc) (fun y hy => ((A.since hy).cell 5).trans (by show some (.slice t.la t.ln t.lc : Value) = _; rw [exa.out])) (fun y => by kernel_rfl) ?_
          refine q_val (by kernel_rfl) (.int .i64 (k : Int)) (fun x hx => by kernel_rfl) ?_
          refine q_val (by kernel_rfl) (.pointer (some (xa.add (k * 41)))) (fun x hx => by simp [execOp, go_sem, hkt]) ?_
          refine q_val (by kernel_rfl) (.pointer (some ((xa.add (k * 41)).add 0))) (fun x hx => by kernel_rfl) ?_
          refine q_Q (by kernel_rfl) ad_big (cs := #[.int .u32 M.hH, .int .i64 M.hP]) rfl _ rfl (by kernel_rfl) (fun y hy => line_here (hM y hy)) ?_
          refine q_big ad_big rfl B (by kernel_rfl) _ rfl (by kernel_rfl) ?_
          refine q_val (by kernel_rfl) (.bool true) (fun x hx => by simp [execOp, go_sem, h1, h2]) ?_
          refine q_val (by kernel_rfl) (.bool true) (fun x hx => by kernel_rfl) ?_
          refine q_val (by kernel_rfl) (.pointer (some ⟨bT, 5, none⟩)) (fun x hx => by kernel_rfl) ?_
          refine q_cell (by kernel_rfl) _ _ rfl ⟨bT, 5, none⟩ (by kernel_rfl) (.slice (some xa) t.ln t.lc) (fun y hy => ((A.since hy).cell 5).trans (by show some (.slice t.la t.ln t.lc : Value) = _; rw [exa.out])) (fun y => by kernel_rfl) ?_
          refine q_val (by kernel_rfl) (.int .i64 (k : Int)) (fun x hx => by kernel_rfl) ?_
          refine q_val (by kernel_rfl) (.pointer (some (xa.add (k * 41)))) (fun x hx => by simp [execOp, go_sem, hkt]) ?_
          refine q_val (by kernel_rfl) (.pointer (some ((xa.add (k * 41)).add 2))) (fun x hx => by kernel_rfl) ?_
          refine q_Q (by kernel_rfl) ad_big (cs := #[.int .u32 M.tH, .int .i64 M.tP]) rfl _ rfl (by kernel_rfl) (fun y hy => line_there (hM y hy)) ?_
          refine q_big ad_big rfl C (by kernel_rfl) _ rfl (by kernel_rfl) ?_
          refine q_val (by kernel_rfl) (.bool false) (fun x hx => by simp [execOp, go_sem]; exact e2') ?_
          refine q_val (by kernel_rfl) (.bool false) (fun x hx => by kernel_rfl) ?_
          refine q_frame (a' := { tmps := #[.agg (tbCells t),.agg #[.int .u32 m.hH, .int .i64 m.hP],.agg #[.int .u32 m.tH, .int .i64 m.tP],.pointer (some ⟨bT, 0, none⟩),.pointer (some ⟨bH, 0, none⟩),.pointer (some ⟨bE, 0, none⟩),u6,.int .i64 (k : Int),.int .i64 (k : Int),.pointer (some ⟨bT, 5, none⟩),.slice (some xa) t.ln t.lc,.int .i64 (t.ln : Int),.bool true,u13,u14,.pointer (some ⟨bT, 5, none⟩),.slice (some xa) t.ln t.lc,.int .i64 (k : Int),.pointer (some (xa.add (k * 41))),.pointer (some ((xa.add (k * 41)).add 0)),.agg #[.int .u32 M.hH, .int .i64 M.hP],.agg #[.int .u32 m.hH, .int .i64 m.hP],.bool true,.bool true,.pointer (some ⟨bT, 5, none⟩),.slice (some xa) t.ln t.lc,.int .i64 (k : Int),.pointer (some (xa.add (k * 41))),.pointer (some ((xa.add (k * 41)).add 2)),.agg #[.int .u32 M.tH, .int .i64 M.tP],.agg #[.int .u32 m.tH, .int .i64 m.tP],.bool false,.bool false,u33], defers := [] }) (by kernel_rfl) ?_
          refine q_nil ?_
          intro qw10 qh11
          replace A := A.since qh11
          replace B := B.since qh11
          replace C := C.since qh11
          replace G := G.trans qh11
          have qh11_s := qh11.size
          have A3 := A
          have B3 := B
          have C3 := C
          go_wp2_with (fail)
          go_roundw
          case rel => exact ⟨k + 1, by go_num, by omega, A3, B3, C3, G, hD3⟩
          case measure => simp [intOf]; omega
      case neg =>
        have hD3 := hD2.out (fun h => e1 (hsm.1 h).1)
        replace hD3 : Hid (∀ j, j < k + 1 → ¬ SameAd (lAt xs j) m) := hD3
        clear hF hD2
        have e1' : M.hH = m.hH → ¬ M.hP = m.hP := fun a b => e1 ⟨a, b⟩
        clear hsm
        refine wp_region_qs (wb := wr) (by kernel_rfl) (by kernel_rfl) (Since.refl _) ?_
        refine q_val (by kernel_rfl) (.pointer (some ⟨bT, 5, none⟩)) (fun x hx => by kernel_rfl) ?_
        refine q_cell (by kernel_rfl) _ _ rfl ⟨bT, 5, none⟩ (by kernel_rfl) (.slice (some xa) t.ln t.lc) (fun y hy => ((A.since hy).cell 5).trans (by show some (.slice t.la t.ln t.lc : Value) = _; rw [exa.out])) (fun y => by kernel_rfl) ?_
        refine q_val (by kernel_rfl) (.int .i64 (k : Int)) (fun x hx => by kernel_rfl) ?_
        refine q_val (by kernel_rfl) (.pointer (some (xa.add (k * 41)))) (fun x hx => by simp [execOp, go_sem, hkt]) ?_
        refine q_val (by kernel_rfl) (.pointer (some ((xa.add (k * 41)).add 0))) (fun x hx => by kernel_rfl) ?_
        refine q_Q (by kernel_rfl) ad_big (cs := #[.int .u32 M.hH, .int .i64 M.hP]) rfl _ rfl (by kernel_rfl) (fun y hy => line_here (hM y hy)) ?_
        refine q_big ad_big rfl B (by kernel_rfl) _ rfl (by kernel_rfl) ?_
        refine q_val (by kernel_rfl) (.bool false) (fun x hx => by simp [execOp, go_sem]; exact e1') ?_
        refine q_val (by kernel_rfl) (.bool false) (fun x hx => by kernel_rfl) ?_
        refine q_skip (by kernel_rfl) ?_
        refine q_skip (by kernel_rfl) ?_
        refine q_skip (by kernel_rfl) ?_
        refine q_skip (by kernel_rfl) ?_
        refine q_skip (by kernel_rfl) ?_
        refine q_skip (by kernel_rfl) ?_
        refine q_skip (by kernel_rfl) ?_
        refine q_skip (by kernel_rfl) ?_
        refine q_val (by kernel_rfl) (.bool false) (fun x hx => by kernel_rfl) ?_
        refine q_frame (a' := { tmps := #[.agg (tbCells t),.agg #[.int .u32 m.hH, .int .i64 m.hP],.agg #[.int .u32 m.tH, .int .i64 m.tP],.pointer (some ⟨bT, 0, none⟩),.pointer (some ⟨bH, 0, none⟩),.pointer (some ⟨bE, 0, none⟩),u6,.int .i64 (k : Int),.int .i64 (k : Int),.pointer (some ⟨bT, 5, none⟩),.slice (some xa) t.ln t.lc,.int .i64 (t.ln : Int),.bool true,u13,u14,.pointer (some ⟨bT, 5, none⟩),.slice (some xa) t.ln t.lc,.int .i64 (k : Int),.pointer (some (xa.add (k * 41))),.pointer (some ((xa.add (k * 41)).add 0)),.agg #[.int .u32 M.hH, .int .i64 M.hP],.agg #[.int .u32 m.hH, .int .i64 m.hP],.bool false,.bool false,U,U,U,U,U,U,U,U,.bool false,u33], defers := [] }) (by kernel_rfl) ?_
        refine q_nil ?_
        intro qw10 qh11
        replace A := A.since qh11
        replace B := B.since qh11
        replace C := C.since qh11
        replace G := G.trans qh11
        have qh11_s := qh11.size
        have A3 := A
        have B3 := B
        have C3 := C
        go_wp2_with (fail)
        go_roundw
        case rel => exact ⟨k + 1, by go_num, by omega, A3, B3, C3, G, hD3⟩
        case measure => simp [intOf]; omega
    case neg =>
      obtain rfl : k = t.ln := by omega
      have hf : Hid (FindR xs t.ln m (-1)) := (.inl ⟨rfl, hD.out⟩ : FindR xs t.ln m (-1))
      clear hD
      go_upto_region 2 with (fail)
      refine vR ?_
      refine vV (.int .i64 (t.ln : Int)) ?_
      refine vV (.pointer (some ⟨bT, 5, none⟩)) ?_
      refine vD (.slice t.la t.ln t.lc) (A.cell 5) ?_
      refine vV (.int .i64 (t.ln : Int)) ?_ (hrun := by simp [execOp, go_sem])
      refine vV (.bool false) ?_ (hrun := by simp [execOp, go_sem])
      refine vE #[.agg (tbCells t),.agg #[.int .u32 m.hH, .int .i64 m.hP],.agg #[.int .u32 m.tH, .int .i64 m.tP],.pointer (some ⟨bT, 0, none⟩),.pointer (some ⟨bH, 0, none⟩),.pointer (some ⟨bE, 0, none⟩),u6,.int .i64 (t.ln : Int),.int .i64 (t.ln : Int),.pointer (some ⟨bT, 5, none⟩),.slice t.la t.ln t.lc,.int .i64 (t.ln : Int),.bool false,u13,u14,u15,u16,u17,u18,u19,u20,u21,u22,u23,u24,u25,u26,u27,u28,u29,u30,u31,u32,u33] ?_
      go_upto_region 6 with (fail)
      refine vR ?_
      refine vV (.int .i64 (-1)) ?_
      refine vE #[.agg (tbCells t),.agg #[.int .u32 m.hH, .int .i64 m.hP],.agg #[.int .u32 m.tH, .int .i64 m.tP],.pointer (some ⟨bT, 0, none⟩),.pointer (some ⟨bH, 0, none⟩),.pointer (some ⟨bE, 0, none⟩),.int .i64 (-1),.int .i64 (t.ln : Int),.int .i64 (t.ln : Int),.pointer (some ⟨bT, 5, none⟩),.slice t.la t.ln t.lc,.int .i64 (t.ln : Int),.bool false,u13,u14,u15,u16,u17,u18,u19,u20,u21,u22,u23,u24,u25,u26,u27,u28,u29,u30,u31,u32,u33] ?_
      go_wp2_with (fail)
      go_ret
      exact ⟨-1, rfl, hf.out, G⟩

/-- What LineAt answers. -/
def AtR (t : Tb) (xs : List Ln) (pp : List (List (Int × ByteArray))) (m : Ln) (r : Int) : Prop := (¬ TableOk t xs pp ∧ r = -1) ∨ (TableOk t xs pp ∧ FindR xs t.ln m r)

theorem AtR.one {t : Tb} {xs : List Ln} {pp : List (List (Int × ByteArray))} {m : Ln} {r r' : Int} (h : AtR t xs pp m r) (h' : AtR t xs pp m r') : r = r' := by
  rcases h with ⟨a, rfl⟩ | ⟨a, b⟩ <;> rcases h' with ⟨a', rfl⟩ | ⟨a', b'⟩
  · rfl
  · exact absurd a' a
  · exact absurd a a'
  · exact b.one a.2 b'

set_option maxRecDepth 20000 in
set_option maxHeartbeats 8000000 in
theorem specLineAt (t : Tb) (xs : List Ln) (pp : List (List (Int × ByteArray))) (m : Ln) (hm : t.ln ≤ 1048576) (gc : ∀ i, i < t.ln → GoodC (lAt xs i).c (qAt pp i)) (w : World) (R : Rl w t.la t.ln xs pp) :
    Calls Try.prog 10 #[.agg (tbCells t), .agg #[.int .u32 m.hH, .int .i64 m.hP], .agg #[.int .u32 m.tH, .int .i64 m.tP]] w fun e w' => ∃ r, e = .returned (.int .i64 r) ∧ AtR t xs pp m r ∧ Since w w' := by
  go_enter Try.func10, Try.ntmps10
  have G := Since.refl w
  go_upto_region 0 with (fail)
  refine vR ?_
  refine vW (w.alloc (.cells (tbCells t) 30)) (.pointer (some ⟨w.heap.size, 0, none⟩)) ?_
  have qB2 := Blk.new w (tbCells t) 30
  have qg3 := (Since.refl w).alloc (.cells (tbCells t) 30)
  replace G := G.trans qg3
  generalize w.alloc (.cells (tbCells t) 30) = qw1 at  G qB2 qg3 ⊢
  have qB2_l := qB2.lt
  have qg3_s := qg3.size
  refine vW (qw1.alloc (.cells #[.int .u32 m.hH, .int .i64 m.hP] 37)) (.pointer (some ⟨qw1.heap.size, 0, none⟩)) ?_
  have qB5 := Blk.new qw1 #[.int .u32 m.hH, .int .i64 m.hP] 37
  have qg6 := (Since.refl qw1).alloc (.cells #[.int .u32 m.hH, .int .i64 m.hP] 37)
  replace qB2 := qB2.since qg6
  replace G := G.trans qg6
  generalize qw1.alloc (.cells #[.int .u32 m.hH, .int .i64 m.hP] 37) = qw4 at qB2 G qB5 qg6 ⊢
  have qB5_l := qB5.lt
  have qg6_s := qg6.size
  refine vW (qw4.alloc (.cells #[.int .u32 m.tH, .int .i64 m.tP] 37)) (.pointer (some ⟨qw4.heap.size, 0, none⟩)) ?_
  have qB8 := Blk.new qw4 #[.int .u32 m.tH, .int .i64 m.tP] 37
  have qg9 := (Since.refl qw4).alloc (.cells #[.int .u32 m.tH, .int .i64 m.tP] 37)
  replace qB2 := qB2.since qg9
  replace qB5 := qB5.since qg9
  replace G := G.trans qg9
  generalize qw4.alloc (.cells #[.int .u32 m.tH, .int .i64 m.tP] 37) = qw7 at qB2 qB5 G qB8 qg9 ⊢
  have qB8_l := qB8.lt
  have qg9_s := qg9.size
  refine vV (.int .i64 0) ?_
  refine vE #[.agg (tbCells t),.agg #[.int .u32 m.hH, .int .i64 m.hP],.agg #[.int .u32 m.tH, .int .i64 m.tP],.pointer (some ⟨w.heap.size, 0, none⟩),.pointer (some ⟨qw1.heap.size, 0, none⟩),.pointer (some ⟨qw4.heap.size, 0, none⟩),.int .i64 0,U,U,U,U,U,U,U] ?_
  go_upto_region 1 with (fail)
  obtain ⟨q, hq⟩ : ∃ q : Bool, q = true ↔ TableOk t xs pp := by
    by_cases h : TableOk t xs pp
    · exact ⟨true, by simp [h]⟩
    · exact ⟨false, by simp [h]⟩
  cases q
  · skip
    have hno : ¬ TableOk t xs pp := fun h => absurd (hq.2 h) (by decide)
    refine vR ?_
    refine vB tb_big qB2 rfl ?_
    refine vK (specTableOk t xs pp false hq (Nat.le_trans hm (by decide)) gc _ (R.since G)) ?_
    intro qw10 qg11
    replace qB2 := qB2.since qg11
    replace qB5 := qB5.since qg11
    replace qB8 := qB8.since qg11
    replace G := G.trans qg11
    have qg11_s := qg11.size
    refine vV (.bool true) ?_
    refine vE #[.agg (tbCells t),.agg #[.int .u32 m.hH, .int .i64 m.hP],.agg #[.int .u32 m.tH, .int .i64 m.tP],.pointer (some ⟨w.heap.size, 0, none⟩),.pointer (some ⟨qw1.heap.size, 0, none⟩),.pointer (some ⟨qw4.heap.size, 0, none⟩),.int .i64 0,.agg (tbCells t),.bool false,.bool true,U,U,U,U] ?_
    go_upto_region 2 with (fail)
    refine vR ?_
    refine vV (.int .i64 (-1)) ?_
    refine vE #[.agg (tbCells t),.agg #[.int .u32 m.hH, .int .i64 m.hP],.agg #[.int .u32 m.tH, .int .i64 m.tP],.pointer (some ⟨w.heap.size, 0, none⟩),.pointer (some ⟨qw1.heap.size, 0, none⟩),.pointer (some ⟨qw4.heap.size, 0, none⟩),.int .i64 (-1),.agg (tbCells t),.bool false,.bool true,U,U,U,U] ?_
    go_wp2_with (fail)
    go_ret
    exact ⟨-1, rfl, .inl ⟨hno, rfl⟩, G⟩
  · skip
    have hyes : TableOk t xs pp := hq.1 rfl
    refine vR ?_
    refine vB tb_big qB2 rfl ?_
    refine vK (specTableOk t xs pp true hq (Nat.le_trans hm (by decide)) gc _ (R.since G)) ?_
    intro qw10 qg11
    replace qB2 := qB2.since qg11
    replace qB5 := qB5.since qg11
    replace qB8 := qB8.since qg11
    replace G := G.trans qg11
    have qg11_s := qg11.size
    refine vV (.bool false) ?_
    refine vE #[.agg (tbCells t),.agg #[.int .u32 m.hH, .int .i64 m.hP],.agg #[.int .u32 m.tH, .int .i64 m.tP],.pointer (some ⟨w.heap.size, 0, none⟩),.pointer (some ⟨qw1.heap.size, 0, none⟩),.pointer (some ⟨qw4.heap.size, 0, none⟩),.int .i64 0,.agg (tbCells t),.bool true,.bool false,U,U,U,U] ?_
    go_upto_region 3 with (fail)
    refine vR ?_
    refine vB tb_big qB2 rfl ?_
    refine vB ad_big qB5 rfl ?_
    refine vB ad_big qB8 rfl ?_
    refine vC (specFind t xs m hm _ (R.since G).rd) ?_
    rintro _ qw12 ⟨r, rfl, hf, qg13⟩
    refine ⟨_, rfl, ?_⟩
    replace qB2 := qB2.since qg13
    replace qB5 := qB5.since qg13
    replace qB8 := qB8.since qg13
    replace G := G.trans qg13
    have qg13_s := qg13.size
    replace hf : Hid (FindR xs t.ln m r) := hf
    refine vV (.int .i64 r) ?_
    refine vE #[.agg (tbCells t),.agg #[.int .u32 m.hH, .int .i64 m.hP],.agg #[.int .u32 m.tH, .int .i64 m.tP],.pointer (some ⟨w.heap.size, 0, none⟩),.pointer (some ⟨qw1.heap.size, 0, none⟩),.pointer (some ⟨qw4.heap.size, 0, none⟩),.int .i64 r,.agg (tbCells t),.bool true,.bool false,.agg (tbCells t),.agg #[.int .u32 m.hH, .int .i64 m.hP],.agg #[.int .u32 m.tH, .int .i64 m.tP],.int .i64 r] ?_
    go_wp2_with (fail)
    go_ret
    exact ⟨r, rfl, .inr ⟨hyes, hf.out⟩, G⟩
end Go.Proofs.Ytpkenhcglnognaa
