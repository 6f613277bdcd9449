/-
  A line sought among lines by a method value; impl's TableOk by contract.
-/
import Derived.Test.YtpkenhcglnognaaTbOkI
import Derived.Test.YtpkenhcglnognaaLawTb
namespace Go.Proofs.Ytpkenhcglnognaa
open Go.ChangeShapes Go.WideShapes Go.ChangeAt Go.RowKit Go.Deep
set_option linter.unusedVariables false
set_option maxRecDepth 10000
set_option linter.unusedSimpArgs false

/-- The route of a line, asked as a function. -/
def thatOf (m : Ln) : Value := .func (.func 22) #[.agg #[.int .i64 m.hH, .int .i64 m.hP, .int .i64 m.tH, .int .i64 m.tP]] #[]

set_option maxRecDepth 20000 in
set_option maxHeartbeats 8000000 in
theorem idxSame (xa : Addr) (i cap n : Nat) (xs : List Ln) (m : Ln) (q : Bool) (hq : q = true ↔ ∃ k, k < i ∧ SameAd (lAt xs k) m) (hi : i ≤ n) (hn : n ≤ 1048576) (hw : ∀ k, k < i → WordL (lAt xs k)) (w : World) (R : Rd shL w (some xa) n xs) :
    Calls Try.prog 40 #[.slice (some xa) i cap, thatOf m] w fun e w' => ∃ r : Int, e = .returned (.int .i64 r) ∧ q = decide (0 ≤ r) ∧ Since w w' := by
  have G := Since.refl w
  go_enter Try.func40, Try.ntmps40
  go_upto_region 0 with (fail)
  refine vR ?_
  refine vV (.int .i64 0) ?_
  refine vE #[.slice (some xa) i cap,thatOf m,U,U,.int .i64 0,U,U,U,U,U,U,U,U,U,U,U,U,U,U] ?_
  go_upto_region 1 with (fail)
  refine vR ?_
  refine vV (.slice (some xa) i cap) ?_
  refine vV (.int .i64 (i : Int)) ?_ (hrun := by simp [execOp, go_sem])
  refine vV (.int .i64 0) ?_
  refine vE #[.slice (some xa) i cap,thatOf m,U,U,.int .i64 0,U,.slice (some xa) i cap,.int .i64 (i : Int),.int .i64 0,U,U,U,U,U,U,U,U,U,U] ?_
  go_wp2_with (fail)
  go_loopw [8] (fun kv wr => ∃ (k : Nat), kv = .int .i64 (k : Int) ∧ k ≤ i ∧ Since w wr ∧ Hid (∀ j, j < k → ¬ SameAd (lAt xs j) m)) (fun kv _ => i - (intOf kv).toNat)
  case atStart => exact ⟨0, rfl, by omega, G, (fun j hj => absurd hj (Nat.not_lt_zero j) : ∀ j, j < 0 → ¬ SameAd (lAt xs j) m)⟩
  case round =>
    clear G
    obtain ⟨k, rfl, hk, G, hD⟩ := hrel
    by_cases hkt : k < i
    case pos =>
      have hkt' : (k : Int) < (i : Int) := by omega
      have hL := (R.since G).lineX k (by omega)
      have hI := fun b hb wx => isThat m (lAt xs k) b hb (hw k hkt).1 (hw k hkt).2 wx
      have hS : Hid (SameAd (lAt xs k) m → q = true) := (fun h => hq.2 ⟨k, hkt, h⟩ : _ → _)
      have hD2 : Hid (¬ SameAd (lAt xs k) m → ∀ j, j < k + 1 → ¬ SameAd (lAt xs j) m) := (fun h j hj => by
        by_cases e : j = k
        · subst e; exact h
        · exact hD.out j (by omega) : _ → _)
      clear hD hq hw
      generalize lAt xs k = L at hL hI hS hD2
      go_upto_region 2 with (fail)
      refine vR ?_
      refine vV (.bool true) ?_ (hrun := by simp [execOp, go_sem, hkt'])
      refine vE #[.slice (some xa) i cap,thatOf m,U,U,u4,u5,.slice (some xa) i cap,.int .i64 (i : Int),.int .i64 (k : Int),.bool true,u10,u11,u12,u13,u14,u15,u16,u17,u18] ?_
      go_upto_region 3 with (fail)
      refine vR ?_
      refine vV (.int .i64 (k : Int)) ?_
      refine vV (.int .i64 (k : Int)) ?_
      refine vE #[.slice (some xa) i cap,thatOf m,U,U,u4,.int .i64 (k : Int),.slice (some xa) i cap,.int .i64 (i : Int),.int .i64 (k : Int),.bool true,.int .i64 (k : Int),u11,u12,u13,u14,u15,u16,u17,u18] ?_
      go_upto_region 4 with (fail)
      by_cases hsm : SameAd L m
      case pos =>
        have hqt : q = true := hS.out hsm
        have hsb : true = true ↔ SameAd L m := ⟨fun _ => hsm, fun _ => rfl⟩
        subst hqt
        clear hS hD2
        refine vR ?_
        refine vV (thatOf m) ?_
        refine vV (.slice (some xa) i cap) ?_
        refine vV (.int .i64 (k : Int)) ?_
        refine vV (.pointer (some (xa.add (k * 41)))) ?_ (hrun := by simp [execOp, go_sem, hkt])
        refine vQ ln_big (ln_size _) hL ?_
        refine vK (f := 22) (args := #[.agg #[.int .i64 m.hH, .int .i64 m.hP, .int .i64 m.tH, .int .i64 m.tP], .agg (lnCells L)]) (hI true hsb _) ?_
        intro w5 g5
        replace G := G.trans g5
        refine vE #[.slice (some xa) i cap,thatOf m,U,U,u4,.int .i64 (k : Int),.slice (some xa) i cap,.int .i64 (i : Int),.int .i64 (k : Int),.bool true,.int .i64 (k : Int),thatOf m,.slice (some xa) i cap,.int .i64 (k : Int),.pointer (some (xa.add (k * 41))),.agg (lnCells L),.bool true,u17,u18] ?_
        go_upto_region 5 with (fail)
        refine vR ?_
        refine vV (.int .i64 (k : Int)) ?_
        refine vV (.int .i64 (k : Int)) ?_
        refine vE #[.slice (some xa) i cap,thatOf m,U,U,.int .i64 (k : Int),.int .i64 (k : Int),.slice (some xa) i cap,.int .i64 (i : Int),.int .i64 (k : Int),.bool true,.int .i64 (k : Int),thatOf m,.slice (some xa) i cap,.int .i64 (k : Int),.pointer (some (xa.add (k * 41))),.agg (lnCells L),.bool true,.int .i64 (k : Int),u18] ?_
        go_wp2_with (fail)
        go_ret
        exact ⟨(k : Int), rfl, by simp, G⟩
      case neg =>
        have hsb : false = true ↔ SameAd L m := ⟨fun h => absurd h (by decide), fun h => absurd h hsm⟩
        clear hS
        refine vR ?_
        refine vV (thatOf m) ?_
        refine vV (.slice (some xa) i cap) ?_
        refine vV (.int .i64 (k : Int)) ?_
        refine vV (.pointer (some (xa.add (k * 41)))) ?_ (hrun := by simp [execOp, go_sem, hkt])
        refine vQ ln_big (ln_size _) hL ?_
        refine vK (f := 22) (args := #[.agg #[.int .i64 m.hH, .int .i64 m.hP, .int .i64 m.tH, .int .i64 m.tP], .agg (lnCells L)]) (hI false hsb _) ?_
        intro w5 g5
        replace G := G.trans g5
        refine vE #[.slice (some xa) i cap,thatOf m,U,U,u4,.int .i64 (k : Int),.slice (some xa) i cap,.int .i64 (i : Int),.int .i64 (k : Int),.bool true,.int .i64 (k : Int),thatOf m,.slice (some xa) i cap,.int .i64 (k : Int),.pointer (some (xa.add (k * 41))),.agg (lnCells L),.bool false,u17,u18] ?_
        have hD3 := hD2.out hsm
        go_wp2_with (fail)
        go_roundw
        case rel => exact ⟨k + 1, by go_num, by omega, G, (hD3 : ∀ j, j < k + 1 → ¬ SameAd (lAt xs j) m)⟩
        case measure => simp [intOf]; omega
    case neg =>
      obtain rfl : k = i := by omega
      have hqf : q = false := by
        cases q
        · rfl
        · obtain ⟨j, hj, h⟩ := hq.1 rfl
          exact absurd h (hD.out j hj)
      subst hqf
      go_upto_region 2 with (fail)
      refine vR ?_
      refine vV (.bool false) ?_ (hrun := by simp [execOp, go_sem])
      refine vE #[.slice (some xa) k cap,thatOf m,U,U,u4,u5,.slice (some xa) k cap,.int .i64 (k : Int),.int .i64 (k : Int),.bool false,u10,u11,u12,u13,u14,u15,u16,u17,u18] ?_
      go_upto_region 7 with (fail)
      refine vR ?_
      refine vV (.int .i64 (-1)) ?_
      refine vE #[.slice (some xa) k cap,thatOf m,U,U,.int .i64 (-1),u5,.slice (some xa) k cap,.int .i64 (k : Int),.int .i64 (k : Int),.bool false,u10,u11,u12,u13,u14,u15,u16,u17,u18] ?_
      go_wp2_with (fail)
      go_ret
      exact ⟨-1, rfl, by simp, G⟩

set_option maxRecDepth 20000 in
set_option maxHeartbeats 8000000 in
theorem hasSame (xa : Addr) (i cap n : Nat) (xs : List Ln) (m : Ln) (q : Bool) (hq : q = true ↔ ∃ k, k < i ∧ SameAd (lAt xs k) m) (hi : i ≤ n) (hn : n ≤ 1048576) (hw : ∀ k, k < i → WordL (lAt xs k)) (w : World) (R : Rd shL w (some xa) n xs) :
    Calls Try.prog 20 #[.slice (some xa) i cap, thatOf m] w fun e w' => e = .returned (.bool q) ∧ Since w w' := by
  have G := Since.refl w
  go_enter Try.func20, Try.ntmps20
  go_upto_region 0 with (fail)
  refine vR ?_
  refine vV (.bool false) ?_
  refine vE #[.slice (some xa) i cap,thatOf m,U,U,.bool false,U,U,U,U] ?_
  go_upto_region 1 with (fail)
  refine vR ?_
  refine vV (.slice (some xa) i cap) ?_
  refine vV (thatOf m) ?_
  refine vC (idxSame xa i cap n xs m q hq hi hn hw _ R) ?_
  rintro _ qw1 ⟨r, rfl, hr, qg2⟩
  refine ⟨_, rfl, ?_⟩
  replace G := G.trans qg2
  have qg2_s := qg2.size
  refine vV (.bool q) ?_ (hrun := by simp [execOp, go_sem, hr])
  refine vV (.bool q) ?_
  refine vE #[.slice (some xa) i cap,thatOf m,U,U,.bool q,.slice (some xa) i cap,thatOf m,.int .i64 r,.bool q] ?_
  go_wp2_with (fail)
  go_ret
  exact ⟨rfl, G⟩

set_option maxRecDepth 20000 in
set_option maxHeartbeats 8000000 in
theorem implTableOk (t : Tb) (xs : List Ln) (pp : List (List (Int × ByteArray))) (q : Bool) (hq : q = true ↔ TableOk t xs pp) (hm : t.ln ≤ 1048576) (hlc : t.ln ≤ t.lc) (gc : ∀ i, i < t.ln → GoodC (lAt xs i).c (qAt pp i)) (hw : ∀ i, i < t.ln → WordL (lAt xs i)) (w : World) (R : Rl w t.la t.ln xs pp) :
    Calls Try.prog 8 #[.agg (tbCells t)] w fun e w' => e = .returned (.bool q) ∧ Since w w' := by
  have G := Since.refl w
  go_enter Try.func8, Try.ntmps8
  go_upto_region 0 with (fail)
  refine vR ?_
  refine vW (w.alloc (.cells (tbCells t) 30)) (.pointer (some ⟨w.heap.size, 0, none⟩)) ?_
  have qB2 := Blk.new w (tbCells t) 30
  have qg3 := (Since.refl w).alloc (.cells (tbCells t) 30)
  replace G := G.trans qg3
  generalize w.alloc (.cells (tbCells t) 30) = qw1 at  G qB2 qg3 ⊢
  have qB2_l := qB2.lt
  have qg3_s := qg3.size
  refine vV (.bool false) ?_
  refine vE #[.agg (tbCells t),.pointer (some ⟨w.heap.size, 0, none⟩),.bool false,U,U,U,U,U,U,U,U,U,U,U,U,U,U,U,U,U,U,U,U,U,U,U,U,U,U,U,U,U,U,U,U,U,U,U,U] ?_
  go_upto_region 1 with (fail)
  by_cases c0 : (1 ≤ t.po ∧ t.po ≤ 65535) ∧ (1 ≤ t.rm ∧ t.rm ≤ 4096) ∧ (0 ≤ t.ep ∧ t.ep ≤ 1000000000) ∧ (0 ≤ t.nw ∧ t.nw ≤ 1000000000)
  case neg =>
    have hqf : q = false := by
      cases q
      · rfl
      · exact absurd (⟨(hq.1 rfl).1.po, (hq.1 rfl).1.rm, (hq.1 rfl).1.ep, (hq.1 rfl).1.nw⟩ : (1 ≤ t.po ∧ t.po ≤ 65535) ∧ (1 ≤ t.rm ∧ t.rm ≤ 4096) ∧ (0 ≤ t.ep ∧ t.ep ≤ 1000000000) ∧ (0 ≤ t.nw ∧ t.nw ≤ 1000000000)) c0
    subst hqf
    clear hq
    have hnb : false = true ↔ ((1 ≤ t.po ∧ t.po ≤ 65535) ∧ (1 ≤ t.rm ∧ t.rm ≤ 4096) ∧ (0 ≤ t.ep ∧ t.ep ≤ 1000000000) ∧ (0 ≤ t.nw ∧ t.nw ≤ 1000000000)) := ⟨fun h => absurd h (by decide), fun h => absurd h c0⟩
    refine vR ?_
    refine vB tb_big qB2 rfl ?_
    refine vK (numsOk t false hnb _) ?_
    intro qw4 qg5
    replace qB2 := qB2.since qg5
    replace G := G.trans qg5
    have qg5_s := qg5.size
    refine vV (.bool true) ?_
    refine vV (.bool true) ?_
    refine vS ?_
    refine vS ?_
    refine vS ?_
    refine vS ?_
    refine vV (.bool true) ?_
    refine vE #[.agg (tbCells t),.pointer (some ⟨w.heap.size, 0, none⟩),.bool false,U,U,.agg (tbCells t),.bool false,.bool true,.bool true,U,U,U,U,.bool true,U,U,U,U,U,U,U,U,U,U,U,U,U,U,U,U,U,U,U,U,U,U,U,U,U] ?_
    go_upto_region 2 with (fail)
    refine vR ?_
    refine vV (.bool false) ?_
    refine vE #[.agg (tbCells t),.pointer (some ⟨w.heap.size, 0, none⟩),.bool false,U,U,.agg (tbCells t),.bool false,.bool true,.bool true,U,U,U,U,.bool true,U,U,U,U,U,U,U,U,U,U,U,U,U,U,U,U,U,U,U,U,U,U,U,U,U] ?_
    go_wp2_with (fail)
    go_ret
    exact ⟨rfl, G⟩
  by_cases c1 : t.ln ≤ 12
  case neg =>
    have hqf : q = false := by
      cases q
      · rfl
      · exact absurd (hq.1 rfl).1.ln c1
    subst hqf
    clear hq
    have hnb : true = true ↔ ((1 ≤ t.po ∧ t.po ≤ 65535) ∧ (1 ≤ t.rm ∧ t.rm ≤ 4096) ∧ (0 ≤ t.ep ∧ t.ep ≤ 1000000000) ∧ (0 ≤ t.nw ∧ t.nw ≤ 1000000000)) := ⟨fun _ => c0, fun _ => rfl⟩
    refine vR ?_
    refine vB tb_big qB2 rfl ?_
    refine vK (numsOk t true hnb _) ?_
    intro qw4 qg5
    replace qB2 := qB2.since qg5
    replace G := G.trans qg5
    have qg5_s := qg5.size
    refine vV (.bool false) ?_
    refine vV (.bool false) ?_
    refine vV (.pointer (some ⟨w.heap.size, 5, none⟩)) ?_
    refine vD (.slice t.la t.ln t.lc) (qB2.cell 5) ?_
    refine vV (.int .i64 (t.ln : Int)) ?_ (hrun := by simp [execOp, go_sem])
    refine vV (.bool true) ?_ (hrun := by simp [execOp, go_sem]; omega)
    refine vV (.bool true) ?_
    refine vE #[.agg (tbCells t),.pointer (some ⟨w.heap.size, 0, none⟩),.bool false,U,U,.agg (tbCells t),.bool true,.bool false,.bool false,.pointer (some ⟨w.heap.size, 5, none⟩),.slice t.la t.ln t.lc,.int .i64 (t.ln : Int),.bool true,.bool true,U,U,U,U,U,U,U,U,U,U,U,U,U,U,U,U,U,U,U,U,U,U,U,U,U] ?_
    go_upto_region 2 with (fail)
    refine vR ?_
    refine vV (.bool false) ?_
    refine vE #[.agg (tbCells t),.pointer (some ⟨w.heap.size, 0, none⟩),.bool false,U,U,.agg (tbCells t),.bool true,.bool false,.bool false,.pointer (some ⟨w.heap.size, 5, none⟩),.slice t.la t.ln t.lc,.int .i64 (t.ln : Int),.bool true,.bool true,U,U,U,U,U,U,U,U,U,U,U,U,U,U,U,U,U,U,U,U,U,U,U,U,U] ?_
    go_wp2_with (fail)
    go_ret
    exact ⟨rfl, G⟩
  have hnb : true = true ↔ ((1 ≤ t.po ∧ t.po ≤ 65535) ∧ (1 ≤ t.rm ∧ t.rm ≤ 4096) ∧ (0 ≤ t.ep ∧ t.ep ≤ 1000000000) ∧ (0 ≤ t.nw ∧ t.nw ≤ 1000000000)) := ⟨fun _ => c0, fun _ => rfl⟩
  refine vR ?_
  refine vB tb_big qB2 rfl ?_
  refine vK (numsOk t true hnb _) ?_
  intro qw4 qg5
  replace qB2 := qB2.since qg5
  replace G := G.trans qg5
  have qg5_s := qg5.size
  refine vV (.bool false) ?_
  refine vV (.bool false) ?_
  refine vV (.pointer (some ⟨w.heap.size, 5, none⟩)) ?_
  refine vD (.slice t.la t.ln t.lc) (qB2.cell 5) ?_
  refine vV (.int .i64 (t.ln : Int)) ?_ (hrun := by simp [execOp, go_sem])
  refine vV (.bool false) ?_ (hrun := by simp [execOp, go_sem]; omega)
  refine vV (.bool false) ?_
  refine vE #[.agg (tbCells t),.pointer (some ⟨w.heap.size, 0, none⟩),.bool false,U,U,.agg (tbCells t),.bool true,.bool false,.bool false,.pointer (some ⟨w.heap.size, 5, none⟩),.slice t.la t.ln t.lc,.int .i64 (t.ln : Int),.bool false,.bool false,U,U,U,U,U,U,U,U,U,U,U,U,U,U,U,U,U,U,U,U,U,U,U,U,U] ?_
  go_upto_region 3 with (fail)
  refine vR ?_
  refine vV (.pointer (some ⟨w.heap.size, 5, none⟩)) ?_
  refine vD (.slice t.la t.ln t.lc) (qB2.cell 5) ?_
  refine vV (.int .i64 (t.ln : Int)) ?_ (hrun := by simp [execOp, go_sem])
  refine vV (.int .i64 0) ?_
  refine vE #[.agg (tbCells t),.pointer (some ⟨w.heap.size, 0, none⟩),.bool false,U,U,.agg (tbCells t),.bool true,.bool false,.bool false,.pointer (some ⟨w.heap.size, 5, none⟩),.slice t.la t.ln t.lc,.int .i64 (t.ln : Int),.bool false,.bool false,.pointer (some ⟨w.heap.size, 5, none⟩),.slice t.la t.ln t.lc,.int .i64 (t.ln : Int),.int .i64 0,U,U,U,U,U,U,U,U,U,U,U,U,U,U,U,U,U,U,U,U,U] ?_
  go_wp2_with (fail)
  have hT_l := qB2.lt
  obtain ⟨bT, hbT⟩ : ∃ b, b = w.heap.size := ⟨_, rfl⟩
  rw [← hbT] at qB2 ⊢
  have HT := qB2
  clear qB2
  have hb_0 : w.heap.size ≤ bT := by omega
  have hb_2 : bT < qw4.heap.size := by omega
  clear hbT
  go_loopw [17] (fun iv wr => ∃ (i : Nat), iv = .int .i64 (i : Int) ∧ i ≤ t.ln ∧ Blk bT wr (tbCells t) ∧ Since w wr ∧ bT < wr.heap.size ∧ Hid (LinesOk xs pp i)) (fun iv _ => t.ln - (intOf iv).toNat)
  case atStart => exact ⟨0, rfl, by omega, HT, G, by omega, (fun j hj => absurd hj (Nat.not_lt_zero j) : LinesOk xs pp 0)⟩
  case round =>
    clear G HT
    obtain ⟨i, rfl, hi, A, G, hbl, hO⟩ := hrel
    obtain ⟨wo, rfl⟩ : ∃ x, x = wr := ⟨_, rfl⟩
    by_cases hlt : i < t.ln
    case pos =>
      have hcap : i ≤ t.lc := by omega
      have hF : From wo wo := ⟨Since.refl wo⟩
      have hlt' : (i : Int) < (t.ln : Int) := by omega
      obtain ⟨xa, exa0, hxb, hL⟩ := (R.since G).rd.line i hlt
      have exa : Hid (t.la = some xa) := exa0
      have Rp := (R.since G).ps i hlt
      have hK := fun b hb wx Rx => lineIsOk (lAt xs i) (qAt pp i) b hb (gc i hlt) wx Rx
      have hS := fun b hb z (Sz : Since wo z) => hasSame xa i t.lc t.ln xs (lAt xs i) b hb (by omega) (by omega) (fun k hk => hw k (by omega)) z (show Rd shL z (some xa) t.ln xs from exa0 ▸ ((R.since G).since Sz).rd)
      have hw1 := hw i hlt
      clear exa0
      have hbad' : Hid (q = true → LineOk (lAt xs i) (qAt pp i) ∧ ∀ k, k < i → ¬ SameAd (lAt xs k) (lAt xs i)) := (fun e => (hq.1 e).2 i hlt : q = true → _)
      have hnx : Hid (LineOk (lAt xs i) (qAt pp i) → (∀ k, k < i → ¬ SameAd (lAt xs k) (lAt xs i)) → LinesOk xs pp (i + 1)) := (fun a b => hO.out.next a b : _ → _ → _)
      generalize qAt pp i = ps at hK hbad' hnx Rp
      generalize lAt xs i = L at hL Rp hK hS hbad' hnx hw1
      go_upto_region 4 with (fail)
      refine vR ?_
      refine vV (.bool true) ?_ (hrun := by simp [execOp, go_sem, hlt'])
      refine vE #[.agg (tbCells t),.pointer (some ⟨bT, 0, none⟩),u2,u3,u4,.agg (tbCells t),.bool true,.bool false,.bool false,.pointer (some ⟨bT, 5, none⟩),.slice t.la t.ln t.lc,.int .i64 (t.ln : Int),.bool false,.bool false,.pointer (some ⟨bT, 5, none⟩),.slice t.la t.ln t.lc,.int .i64 (t.ln : Int),.int .i64 (i : Int),.bool true,u19,u20,u21,u22,u23,u24,u25,u26,u27,u28,u29,u30,u31,u32,u33,u34,u35,u36,u37,u38] ?_
      go_upto_region 5 with (fail)
      refine vR ?_
      refine vV (.int .i64 (i : Int)) ?_
      refine vV (.pointer (some (xa.add (i * 41)))) ?_ (hrun := by rw [exa.out]; simp [execOp, go_sem, hlt])
      refine vQ ln_big (ln_size _) hL ?_
      refine vW (wo.alloc (.cells (lnCells lnZero) 55)) (.pointer (some ⟨wo.heap.size, 0, none⟩)) ?_
      have qB7 := Blk.new wo (lnCells lnZero) 55
      have qg8 := (Since.refl wo).alloc (.cells (lnCells lnZero) 55)
      replace A := A.since qg8
      replace hF := hF.since qg8
      replace G := G.trans qg8
      generalize wo.alloc (.cells (lnCells lnZero) 55) = qw6 at A hF G qB7 qg8 ⊢
      have qB7_l := qB7.lt
      have qg8_s := qg8.size
      refine vV (.int .i64 (i : Int)) ?_
      refine sB (lnCells L) ln_big qB7 (ln_size _) (ln_size _) (ln_one _) ?_
      intro qw9 qt10 qB11
      clear qB7
      replace A := A.touch qt10 (by omega)
      replace hF := hF.touch qt10 (by omega)
      replace G := since_touch G qt10 (by omega)
      have qt10_s := qt10.size
      refine vE #[.agg (tbCells t),.pointer (some ⟨bT, 0, none⟩),u2,.int .i64 (i : Int),.pointer (some ⟨wo.heap.size, 0, none⟩),.agg (tbCells t),.bool true,.bool false,.bool false,.pointer (some ⟨bT, 5, none⟩),.slice t.la t.ln t.lc,.int .i64 (t.ln : Int),.bool false,.bool false,.pointer (some ⟨bT, 5, none⟩),.slice t.la t.ln t.lc,.int .i64 (t.ln : Int),.int .i64 (i : Int),.bool true,.int .i64 (i : Int),.pointer (some (xa.add (i * 41))),.agg (lnCells L),u22,u23,u24,u25,u26,u27,u28,u29,u30,u31,u32,u33,u34,u35,u36,u37,u38] ?_
      go_upto_region 6 with (fail)
      by_cases d0 : LineOk L ps
      case neg =>
        have hqf : q = false := by
          cases q
          · rfl
          · exact absurd (hbad'.out rfl).1 d0
        subst hqf
        clear hbad' hnx hq
        have hkb : false = true ↔ LineOk L ps := ⟨fun h => absurd h (by decide), fun h => absurd h d0⟩
        have A' := A
        have hF2 := hF
        refine wp_region_qs (wb := qw9) (by kernel_rfl) (by kernel_rfl) (Since.refl _) ?_
        refine q_big ln_big (ln_size _) qB11 (by kernel_rfl) _ rfl (by kernel_rfl) ?_
        refine q_call (by kernel_rfl) 19 #[.agg (lnCells L)] (.bool false) (fun x => by kernel_rfl) (fun x hx => hK false hkb _ ((Rp.since hF2.out).since hx)) ?_
        refine q_val (by kernel_rfl) (.bool true) (fun x hx => by kernel_rfl) ?_
        refine q_val (by kernel_rfl) (.bool true) (fun x hx => by kernel_rfl) ?_
        refine q_skip (by kernel_rfl) ?_
        refine q_skip (by kernel_rfl) ?_
        refine q_skip (by kernel_rfl) ?_
        refine q_skip (by kernel_rfl) ?_
        refine q_skip (by kernel_rfl) ?_
        refine q_skip (by kernel_rfl) ?_
        refine q_skip (by kernel_rfl) ?_
        refine q_skip (by kernel_rfl) ?_
        refine q_skip (by kernel_rfl) ?_
        refine q_skip (by kernel_rfl) ?_
        refine q_skip (by kernel_rfl) ?_
        refine q_val (by kernel_rfl) (.bool true) (fun x hx => by kernel_rfl) ?_
        refine q_frame (a' := { tmps := #[.agg (tbCells t),.pointer (some ⟨bT, 0, none⟩),u2,.int .i64 (i : Int),.pointer (some ⟨wo.heap.size, 0, none⟩),.agg (tbCells t),.bool true,.bool false,.bool false,.pointer (some ⟨bT, 5, none⟩),.slice t.la t.ln t.lc,.int .i64 (t.ln : Int),.bool false,.bool false,.pointer (some ⟨bT, 5, none⟩),.slice t.la t.ln t.lc,.int .i64 (t.ln : Int),.int .i64 (i : Int),.bool true,.int .i64 (i : Int),.pointer (some (xa.add (i * 41))),.agg (lnCells L),.agg (lnCells L),.bool false,.bool true,.bool true,U,U,U,U,U,U,U,U,U,U,U,.bool true,u38], defers := [] }) (by kernel_rfl) ?_
        refine q_nil ?_
        intro qw12 qh13
        replace A := A.since qh13
        replace qB11 := qB11.since qh13
        replace hF := hF.since qh13
        replace G := G.trans qh13
        have qh13_s := qh13.size
        go_upto_region 7 with (fail)
        refine vR ?_
        refine vV (.bool false) ?_
        refine vE #[.agg (tbCells t),.pointer (some ⟨bT, 0, none⟩),.bool false,.int .i64 (i : Int),.pointer (some ⟨wo.heap.size, 0, none⟩),.agg (tbCells t),.bool true,.bool false,.bool false,.pointer (some ⟨bT, 5, none⟩),.slice t.la t.ln t.lc,.int .i64 (t.ln : Int),.bool false,.bool false,.pointer (some ⟨bT, 5, none⟩),.slice t.la t.ln t.lc,.int .i64 (t.ln : Int),.int .i64 (i : Int),.bool true,.int .i64 (i : Int),.pointer (some (xa.add (i * 41))),.agg (lnCells L),.agg (lnCells L),.bool false,.bool true,.bool true,U,U,U,U,U,U,U,U,U,U,U,.bool true,u38] ?_
        go_wp2_with (fail)
        go_ret
        exact ⟨rfl, G⟩
      by_cases d1 : ∃ k, k < i ∧ SameAd (lAt xs k) L
      case pos =>
        have hqf : q = false := by
          cases q
          · rfl
          · obtain ⟨k, hk, h⟩ := d1
            exact absurd h ((hbad'.out rfl).2 k hk)
        subst hqf
        clear hbad' hnx hq
        have hkb : true = true ↔ LineOk L ps := ⟨fun _ => d0, fun _ => rfl⟩
        have hsb : true = true ↔ ∃ k, k < i ∧ SameAd (lAt xs k) L := ⟨fun _ => d1, fun _ => rfl⟩
        have A' := A
        have hF2 := hF
        refine wp_region_qs (wb := qw9) (by kernel_rfl) (by kernel_rfl) (Since.refl _) ?_
        refine q_big ln_big (ln_size _) qB11 (by kernel_rfl) _ rfl (by kernel_rfl) ?_
        refine q_call (by kernel_rfl) 19 #[.agg (lnCells L)] (.bool true) (fun x => by kernel_rfl) (fun x hx => hK true hkb _ ((Rp.since hF2.out).since hx)) ?_
        refine q_val (by kernel_rfl) (.bool false) (fun x hx => by kernel_rfl) ?_
        refine q_val (by kernel_rfl) (.bool false) (fun x hx => by kernel_rfl) ?_
        refine q_val (by kernel_rfl) (.pointer (some ⟨bT, 5, none⟩)) (fun x hx => by kernel_rfl) ?_
        refine q_cell (by kernel_rfl) _ _ rfl ⟨bT, 5, none⟩ (by kernel_rfl) (.slice (some xa) t.ln t.lc) (fun y hy => ((A'.since hy).cell 5).trans (by show some (.slice t.la t.ln t.lc : Value) = _; rw [exa.out])) (fun y => by kernel_rfl) ?_
        refine q_val (by kernel_rfl) (.int .i64 (i : Int)) (fun x hx => by kernel_rfl) ?_
        refine q_val (by kernel_rfl) (.slice (some xa) i t.lc) (fun x hx => by simp [execOp, go_sem, hcap]) ?_
        refine q_val (by kernel_rfl) (.pointer (some ⟨wo.heap.size, 0, none⟩)) (fun x hx => by kernel_rfl) ?_
        refine q_part qB11 (by kernel_rfl) ad_big _ rfl 0 (by kernel_rfl) [.int .u32 L.hH, .int .i64 L.hP] rfl (fun j v hj => by match j, hj with | 0, h => exact h | 1, h => exact h | n + 2, h => exact absurd h (by simp)) ?_
        refine q_val (by kernel_rfl) (.pointer (some ⟨wo.heap.size, 2, none⟩)) (fun x hx => by kernel_rfl) ?_
        refine q_part qB11 (by kernel_rfl) ad_big _ rfl 2 (by kernel_rfl) [.int .u32 L.tH, .int .i64 L.tP] rfl (fun j v hj => by match j, hj with | 0, h => exact h | 1, h => exact h | n + 2, h => exact absurd h (by simp)) ?_
        refine q_call (by kernel_rfl) 21 #[.agg #[.int .u32 L.hH, .int .i64 L.hP], .agg #[.int .u32 L.tH, .int .i64 L.tP]] (.agg #[.int .i64 L.hH, .int .i64 L.hP, .int .i64 L.tH, .int .i64 L.tP]) (fun x => by kernel_rfl) (fun x hx => routeOf L.hH L.hP L.tH L.tP hw1.1 hw1.2 _) ?_
        refine q_val (by kernel_rfl) (.func (.func 22) #[.agg #[.int .i64 L.hH, .int .i64 L.hP, .int .i64 L.tH, .int .i64 L.tP]] #[]) (fun x hx => by kernel_rfl) ?_
        refine q_call (by kernel_rfl) 20 #[.slice (some xa) i t.lc, .func (.func 22) #[.agg #[.int .i64 L.hH, .int .i64 L.hP, .int .i64 L.tH, .int .i64 L.tP]] #[]] (.bool true) (fun x => by kernel_rfl) (fun x hx => hS true hsb _ (hF2.out.trans hx)) ?_
        refine q_val (by kernel_rfl) (.bool true) (fun x hx => by kernel_rfl) ?_
        refine q_frame (a' := { tmps := #[.agg (tbCells t),.pointer (some ⟨bT, 0, none⟩),u2,.int .i64 (i : Int),.pointer (some ⟨wo.heap.size, 0, none⟩),.agg (tbCells t),.bool true,.bool false,.bool false,.pointer (some ⟨bT, 5, none⟩),.slice t.la t.ln t.lc,.int .i64 (t.ln : Int),.bool false,.bool false,.pointer (some ⟨bT, 5, none⟩),.slice t.la t.ln t.lc,.int .i64 (t.ln : Int),.int .i64 (i : Int),.bool true,.int .i64 (i : Int),.pointer (some (xa.add (i * 41))),.agg (lnCells L),.agg (lnCells L),.bool true,.bool false,.bool false,.pointer (some ⟨bT, 5, none⟩),.slice (some xa) t.ln t.lc,.int .i64 (i : Int),.slice (some xa) i t.lc,.pointer (some ⟨wo.heap.size, 0, none⟩),.agg #[.int .u32 L.hH, .int .i64 L.hP],.pointer (some ⟨wo.heap.size, 2, none⟩),.agg #[.int .u32 L.tH, .int .i64 L.tP],.agg #[.int .i64 L.hH, .int .i64 L.hP, .int .i64 L.tH, .int .i64 L.tP],.func (.func 22) #[.agg #[.int .i64 L.hH, .int .i64 L.hP, .int .i64 L.tH, .int .i64 L.tP]] #[],.bool true,.bool true,u38], defers := [] }) (by kernel_rfl) ?_
        refine q_nil ?_
        intro qw12 qh13
        replace A := A.since qh13
        replace qB11 := qB11.since qh13
        replace hF := hF.since qh13
        replace G := G.trans qh13
        have qh13_s := qh13.size
        go_upto_region 7 with (fail)
        refine vR ?_
        refine vV (.bool false) ?_
        refine vE #[.agg (tbCells t),.pointer (some ⟨bT, 0, none⟩),.bool false,.int .i64 (i : Int),.pointer (some ⟨wo.heap.size, 0, none⟩),.agg (tbCells t),.bool true,.bool false,.bool false,.pointer (some ⟨bT, 5, none⟩),.slice t.la t.ln t.lc,.int .i64 (t.ln : Int),.bool false,.bool false,.pointer (some ⟨bT, 5, none⟩),.slice t.la t.ln t.lc,.int .i64 (t.ln : Int),.int .i64 (i : Int),.bool true,.int .i64 (i : Int),.pointer (some (xa.add (i * 41))),.agg (lnCells L),.agg (lnCells L),.bool true,.bool false,.bool false,.pointer (some ⟨bT, 5, none⟩),.slice (some xa) t.ln t.lc,.int .i64 (i : Int),.slice (some xa) i t.lc,.pointer (some ⟨wo.heap.size, 0, none⟩),.agg #[.int .u32 L.hH, .int .i64 L.hP],.pointer (some ⟨wo.heap.size, 2, none⟩),.agg #[.int .u32 L.tH, .int .i64 L.tP],.agg #[.int .i64 L.hH, .int .i64 L.hP, .int .i64 L.tH, .int .i64 L.tP],.func (.func 22) #[.agg #[.int .i64 L.hH, .int .i64 L.hP, .int .i64 L.tH, .int .i64 L.tP]] #[],.bool true,.bool true,u38] ?_
        go_wp2_with (fail)
        go_ret
        exact ⟨rfl, G⟩
      case neg =>
        have hO2 : Hid (LinesOk xs pp (i + 1)) := hnx.out d0 (fun k hk h => d1 ⟨k, hk, h⟩)
        clear hbad' hnx hO
        have hkb : true = true ↔ LineOk L ps := ⟨fun _ => d0, fun _ => rfl⟩
        have hsb : false = true ↔ ∃ k, k < i ∧ SameAd (lAt xs k) L := ⟨fun h => absurd h (by decide), fun h => absurd h d1⟩
        have A' := A
        have hF2 := hF
        refine wp_region_qs (wb := qw9) (by kernel_rfl) (by kernel_rfl) (Since.refl _) ?_
        refine q_big ln_big (ln_size _) qB11 (by kernel_rfl) _ rfl (by kernel_rfl) ?_
        refine q_call (by kernel_rfl) 19 #[.agg (lnCells L)] (.bool true) (fun x => by kernel_rfl) (fun x hx => hK true hkb _ ((Rp.since hF2.out).since hx)) ?_
        refine q_val (by kernel_rfl) (.bool false) (fun x hx => by kernel_rfl) ?_
        refine q_val (by kernel_rfl) (.bool false) (fun x hx => by kernel_rfl) ?_
        refine q_val (by kernel_rfl) (.pointer (some ⟨bT, 5, none⟩)) (fun x hx => by kernel_rfl) ?_
        refine q_cell (by kernel_rfl) _ _ rfl ⟨bT, 5, none⟩ (by kernel_rfl) (.slice (some xa) t.ln t.lc) (fun y hy => ((A'.since hy).cell 5).trans (by show some (.slice t.la t.ln t.lc : Value) = _; rw [exa.out])) (fun y => by kernel_rfl) ?_
        refine q_val (by kernel_rfl) (.int .i64 (i : Int)) (fun x hx => by kernel_rfl) ?_
        refine q_val (by kernel_rfl) (.slice (some xa) i t.lc) (fun x hx => by simp [execOp, go_sem, hcap]) ?_
        refine q_val (by kernel_rfl) (.pointer (some ⟨wo.heap.size, 0, none⟩)) (fun x hx => by kernel_rfl) ?_
        refine q_part qB11 (by kernel_rfl) ad_big _ rfl 0 (by kernel_rfl) [.int .u32 L.hH, .int .i64 L.hP] rfl (fun j v hj => by match j, hj with | 0, h => exact h | 1, h => exact h | n + 2, h => exact absurd h (by simp)) ?_
        refine q_val (by kernel_rfl) (.pointer (some ⟨wo.heap.size, 2, none⟩)) (fun x hx => by kernel_rfl) ?_
        refine q_part qB11 (by kernel_rfl) ad_big _ rfl 2 (by kernel_rfl) [.int .u32 L.tH, .int .i64 L.tP] rfl (fun j v hj => by match j, hj with | 0, h => exact h | 1, h => exact h | n + 2, h => exact absurd h (by simp)) ?_
        refine q_call (by kernel_rfl) 21 #[.agg #[.int .u32 L.hH, .int .i64 L.hP], .agg #[.int .u32 L.tH, .int .i64 L.tP]] (.agg #[.int .i64 L.hH, .int .i64 L.hP, .int .i64 L.tH, .int .i64 L.tP]) (fun x => by kernel_rfl) (fun x hx => routeOf L.hH L.hP L.tH L.tP hw1.1 hw1.2 _) ?_
        refine q_val (by kernel_rfl) (.func (.func 22) #[.agg #[.int .i64 L.hH, .int .i64 L.hP, .int .i64 L.tH, .int .i64 L.tP]] #[]) (fun x hx => by kernel_rfl) ?_
        refine q_call (by kernel_rfl) 20 #[.slice (some xa) i t.lc, .func (.func 22) #[.agg #[.int .i64 L.hH, .int .i64 L.hP, .int .i64 L.tH, .int .i64 L.tP]] #[]] (.bool false) (fun x => by kernel_rfl) (fun x hx => hS false hsb _ (hF2.out.trans hx)) ?_
        refine q_val (by kernel_rfl) (.bool false) (fun x hx => by kernel_rfl) ?_
        refine q_frame (a' := { tmps := #[.agg (tbCells t),.pointer (some ⟨bT, 0, none⟩),u2,.int .i64 (i : Int),.pointer (some ⟨wo.heap.size, 0, none⟩),.agg (tbCells t),.bool true,.bool false,.bool false,.pointer (some ⟨bT, 5, none⟩),.slice t.la t.ln t.lc,.int .i64 (t.ln : Int),.bool false,.bool false,.pointer (some ⟨bT, 5, none⟩),.slice t.la t.ln t.lc,.int .i64 (t.ln : Int),.int .i64 (i : Int),.bool true,.int .i64 (i : Int),.pointer (some (xa.add (i * 41))),.agg (lnCells L),.agg (lnCells L),.bool true,.bool false,.bool false,.pointer (some ⟨bT, 5, none⟩),.slice (some xa) t.ln t.lc,.int .i64 (i : Int),.slice (some xa) i t.lc,.pointer (some ⟨wo.heap.size, 0, none⟩),.agg #[.int .u32 L.hH, .int .i64 L.hP],.pointer (some ⟨wo.heap.size, 2, none⟩),.agg #[.int .u32 L.tH, .int .i64 L.tP],.agg #[.int .i64 L.hH, .int .i64 L.hP, .int .i64 L.tH, .int .i64 L.tP],.func (.func 22) #[.agg #[.int .i64 L.hH, .int .i64 L.hP, .int .i64 L.tH, .int .i64 L.tP]] #[],.bool false,.bool false,u38], defers := [] }) (by kernel_rfl) ?_
        refine q_nil ?_
        intro qw12 qh13
        replace A := A.since qh13
        replace qB11 := qB11.since qh13
        replace hF := hF.since qh13
        replace G := G.trans qh13
        have qh13_s := qh13.size
        have A3 := A
        go_wp2_with (fail)
        go_roundw
        case rel => exact ⟨i + 1, by go_num, by omega, A3, G, by omega, hO2⟩
        case measure => simp [intOf]; omega
    case neg =>
      obtain rfl : i = t.ln := by omega
      have hqt : q = true := hq.2 ⟨⟨c0.1, c0.2.1, c0.2.2.1, c0.2.2.2, c1⟩, hO.out⟩
      subst hqt
      go_upto_region 4 with (fail)
      refine vR ?_
      refine vV (.bool false) ?_ (hrun := by simp [execOp, go_sem])
      refine vE #[.agg (tbCells t),.pointer (some ⟨bT, 0, none⟩),u2,u3,u4,.agg (tbCells t),.bool true,.bool false,.bool false,.pointer (some ⟨bT, 5, none⟩),.slice t.la t.ln t.lc,.int .i64 (t.ln : Int),.bool false,.bool false,.pointer (some ⟨bT, 5, none⟩),.slice t.la t.ln t.lc,.int .i64 (t.ln : Int),.int .i64 (t.ln : Int),.bool false,u19,u20,u21,u22,u23,u24,u25,u26,u27,u28,u29,u30,u31,u32,u33,u34,u35,u36,u37,u38] ?_
      go_upto_region 9 with (fail)
      refine vR ?_
      refine vV (.bool true) ?_
      refine vE #[.agg (tbCells t),.pointer (some ⟨bT, 0, none⟩),.bool true,u3,u4,.agg (tbCells t),.bool true,.bool false,.bool false,.pointer (some ⟨bT, 5, none⟩),.slice t.la t.ln t.lc,.int .i64 (t.ln : Int),.bool false,.bool false,.pointer (some ⟨bT, 5, none⟩),.slice t.la t.ln t.lc,.int .i64 (t.ln : Int),.int .i64 (t.ln : Int),.bool false,u19,u20,u21,u22,u23,u24,u25,u26,u27,u28,u29,u30,u31,u32,u33,u34,u35,u36,u37,u38] ?_
      go_wp2_with (fail)
      go_ret
      exact ⟨rfl, G⟩
end Go.Proofs.Ytpkenhcglnognaa
