/-
  FnOutBuf's walk.
-/
import Derived.Test.YtpegfiogfcjofaaDrawOut
import Derived.Test.YtpegfiogfcjofaaCode
import Derived.Test.YtpegfiogfcjofaaOutImpl2
import Derived.Test.YtpegfiogfcjofaaOutImpl3
import Derived.Test.YtpegfiogfcjofaaOutImpl4
import Derived.Test.YtpegfiogfcjofaaCalm
namespace Go.Proofs.Ytpegfiogfcjofaa
open Go.ChangeShapes Go.WideShapes Go.ChangeAt Go.RowKit Go.Deep
set_option linter.unusedVariables false

theorem big7 (a : Option Addr) (len cap : Nat) (w : World) :
    Calls Try.prog 9 #[.slice a len cap] w fun e w' => e = .returned (.bool (decide ((1048576 : Int) < (len : Int)))) ∧ w = w' := by
  go_enter Try.func9, Try.ntmps9
  go_wp2
  go_ret
  exact ⟨rfl, rfl⟩

theorem outFacts (f : Int) (D : ByteArray) (ra : Nat) (qv : Int) (hf : IsWord f) (hkD : outOk D (ra : Int) = true) :
    ∃ (k : Nat) (pl : Int) (E X : ByteArray), qv % ((D.size : Int) + 1) = (k : Int) ∧ k ≤ D.size ∧ IntKind.u32.wrap (k : Int) = (k : Int) ∧ IntKind.u32.wrap (f + (k : Int)) = pl ∧ (E.toList == (D.extract k D.size).toList) = true ∧
      (∀ wx, Calls Try.prog 15 #[.agg #[.int .u32 f, .string D, .int .i64 (ra : Int)], .int .u32 pl, .int .i64 4096] wx fun e w' => e = .returned (.string E) ∧ Since wx w') ∧
      (∀ wx, Calls Try.prog 16 #[.agg #[.int .u32 f, .string D, .int .i64 (ra : Int)], .int .u32 pl] wx fun e w' => e = .returned (.tuple #[.agg #[.int .u32 pl, .string E, .int .i64 (ra : Int)], .int .i64 (k : Int)]) ∧ Since wx w') ∧
      (∀ wx, Calls Try.prog 15 #[.agg #[.int .u32 pl, .string E, .int .i64 (ra : Int)], .int .u32 pl, .int .i64 3] wx fun e w' => e = .returned (.string X) ∧ Since wx w') ∧
      (∀ wx, Calls Try.prog 15 #[.agg #[.int .u32 f, .string D, .int .i64 (ra : Int)], .int .u32 pl, .int .i64 3] wx fun e w' => e = .returned (.string X) ∧ Since wx w') := by
  obtain ⟨h1, h2, h3⟩ := (outOk_iff D _).1 hkD
  obtain ⟨k, hkq⟩ := Int.eq_ofNat_of_zero_le (show 0 ≤ qv % ((D.size : Int) + 1) from Int.emod_nonneg _ (by omega))
  have hkle : k ≤ D.size := by
    have := Int.emod_lt_of_pos qv (show (0 : Int) < (D.size : Int) + 1 by omega)
    omega
  have hw1 : IntKind.u32.wrap (k : Int) = (k : Int) := by simp [IntKind.wrap, IntKind.bits, IntKind.signed]; omega
  have hw2 : IntKind.u32.wrap (f + (k : Int)) = (f + (k : Int)) % 4294967296 := by simp [IntKind.wrap, IntKind.bits, IntKind.signed]
  obtain ⟨pl, hpl⟩ : ∃ pl, (f + (k : Int)) % 4294967296 = pl := ⟨_, rfl⟩
  rw [hpl] at hw2
  have hpw : IsWord pl := by unfold IsWord; omega
  have hds : IsDist f pl k := by unfold IsDist; omega
  have hds0 : IsDist pl pl 0 := by unfold IsDist; omega
  have hEs : (D.extract k D.size).size = D.size - k := by rw [ByteArray.size_extract]; omega
  have hkE : outOk (D.extract k D.size) (ra : Int) = true := (outOk_iff _ _).2 ⟨h1, h2, by omega⟩
  have hdk : doneOk D (ra : Int) k := ⟨hkD, by omega, by omega⟩
  have e1 : takeT f D (ra : Int) pl 4096 k = D.extract k D.size := by
    unfold takeT
    rw [if_pos ⟨hkD, by omega, by omega⟩, show ((k : Nat) : Int).toNat = k by omega, show k + min (4096 : Int).toNat (D.size - k) = D.size by omega]
  have e2 : doneF f D (ra : Int) pl k = pl := by unfold doneF; rw [if_pos hdk]
  have e3 : doneD D (ra : Int) k = D.extract k D.size := by unfold doneD; rw [if_pos hdk]; rfl
  have e4 : doneN D (ra : Int) k = k := by unfold doneN; rw [if_pos hdk]
  have e5 : takeT f D (ra : Int) pl 3 k = D.extract k (k + min 3 (D.size - k)) := by
    unfold takeT
    rw [if_pos ⟨hkD, by omega, by omega⟩]
    rfl
  have e6 : takeT pl (D.extract k D.size) (ra : Int) pl 3 0 = D.extract k (k + min 3 (D.size - k)) := by
    unfold takeT
    rw [if_pos ⟨hkE, by omega, by omega⟩, ByteArray.extract_extract, hEs, show k + (0 : Int).toNat = k by simp, show min (k + ((0 : Int).toNat + min (3 : Int).toNat (D.size - k - (0 : Int).toNat))) D.size = k + min 3 (D.size - k) by simp; omega]
  have t1 := fun wx => implOutTake f D (ra : Int) pl 4096 k hf hpw hds (by omega) (by unfold IsInt; omega) wx
  have t2 := fun wx => implOutDone f D (ra : Int) pl k hf hpw hds (by omega) wx
  have t3 := fun wx => implOutTake pl (D.extract k D.size) (ra : Int) pl 3 0 hpw hpw hds0 (by omega) (by unfold IsInt; omega) wx
  have t4 := fun wx => implOutTake f D (ra : Int) pl 3 k hf hpw hds (by omega) (by unfold IsInt; omega) wx
  rw [e1] at t1
  rw [e2, e3, e4] at t2
  rw [e6] at t3
  rw [e5] at t4
  unfold outVal at t1 t2 t3 t4
  exact ⟨k, pl, D.extract k D.size, D.extract k (k + min 3 (D.size - k)), hkq, hkle, hw1, hw2, by simp, t1, t2, t3, t4⟩

set_option maxHeartbeats 8000000 in
set_option maxRecDepth 20000 in
theorem walkOut (a0 : Option Addr) (len0 cap0 : Nat) (z0 : List Int) (w : World) (hb : Bytes w a0 len0 z0) :
    Calls Try.prog 3 #[.slice a0 len0 cap0] w fun e w' => e = .returned (.bool true) ∧ Below w.heap.size w w' := by
  have hbig := fun wx => big7 a0 len0 cap0 wx
  by_cases hm : ¬ len0 ≤ 1048576
  · rw [show decide ((1048576 : Int) < (len0 : Int)) = true by simp; omega] at hbig
    clear hb
    go_enter Try.func3, Try.ntmps3
    go_wp2_with (go_at_call 9; refine (hbig _).mono ?_; rintro _ _ ⟨rfl, rfl⟩)
    go_ret
    exact ⟨rfl, Since.refl _⟩
  replace hm := Decidable.not_not.1 hm
  rw [show decide ((1048576 : Int) < (len0 : Int)) = false by simp; omega] at hbig
  have hat := fun wx hw => at_ a0 len0 cap0 z0 1 (by omega) w hb hm wx hw
  have hq : 0 ≤ (if 1 < len0 then z0.getD 1 0 else (((1 : Nat) : Int) * 7 + len0) % 256) ∧ (if 1 < len0 then z0.getD 1 0 else (((1 : Nat) : Int) * 7 + len0) % 256) ≤ 255 := by
    split
    · rename_i h
      rcases hb with h0 | ⟨b, off, rfl, hl, hz⟩
      · omega
      · obtain ⟨_, h2, h3⟩ := hz 1 h
        exact ⟨h2, h3⟩
    · omega
  generalize (if 1 < len0 then z0.getD 1 0 else (((1 : Nat) : Int) * 7 + len0) % 256) = qv at hat hq
  go_enter Try.func3, Try.ntmps3
  go_wp2_with (go_at_call 9; refine (hbig _).mono ?_; rintro _ _ ⟨rfl, rfl⟩)
  clear hbig
  refine (drawOutPut a0 len0 cap0 z0 w hb hm).mono ?_
  rintro _ w1 ⟨f, d, r, s, rfl, hf, hd, hr, hs, k1⟩
  clear hb
  have A := Blk.new w1 #[.int .u32 f, .string d, .int .i64 r] 26
  have G : Since w _ := k1.alloc (.cells #[.int .u32 f, .string d, .int .i64 r] 26)
  have x0 := A.cell 0
  have x1 := A.cell 1
  have x2 := A.cell 2
  simp at x0 x1 x2
  go_wp2_with (fail)
  have hput := fun wx => implOutPut f d r s hf (by omega) (by omega) wx
  unfold outVal at hput
  refine (hput _).mono ?_
  clear hput x0 x1 x2
  rintro _ w2 ⟨rfl, k2⟩
  replace A := A.since (k2.alloc (.cells #[.int .u32 f, .string (putD d r s), .int .i64 r] 26))
  replace G := G.trans (k2.alloc (.cells #[.int .u32 f, .string (putD d r s), .int .i64 r] 26))
  have B := Blk.new w2 #[.int .u32 f, .string (putD d r s), .int .i64 r] 26
  clear k2
  have x0 := A.cell 0
  have x1 := A.cell 1
  have x2 := A.cell 2
  simp at x0 x1 x2
  go_wp2_with (fail)
  have hok := fun wx => specOutOk f d r wx
  unfold outVal at hok
  refine (hok _).mono ?_
  clear hok x0 x1 x2
  rintro _ w3 ⟨rfl, k3⟩
  replace A := A.since k3
  replace B := B.since k3
  replace G := G.trans k3
  clear k3
  have x0 := A.cell 0
  have x1 := A.cell 1
  have x2 := A.cell 2
  have y0 := B.cell 0
  have y1 := B.cell 1
  have y2 := B.cell 2
  simp at x0 x1 x2 y0 y1 y2
  cases hk : outOk d r
  · have e1 : putN d r s = 0 := by unfold putN; rw [hk]; rfl
    have e2 : putD d r s = d := by unfold putD; rw [hk]; rfl
    rw [e2] at y1
    rw [e1]
    clear A B hk e1 e2 hat
    go_wp2
    go_ret
    exact ⟨rfl, G⟩
  obtain ⟨h1, h2, h3⟩ := (outOk_iff d r).1 hk
  have hN : putN d r s = min (r.toNat - d.size) s.size := by unfold putN; rw [hk]; rfl
  have hD : putD d r s = d ++ s.extract 0 (putN d r s) := by unfold putD; rw [hk]; rfl
  generalize putN d r s = N at *
  generalize putD d r s = D at *
  have hDs : D.size = d.size + N := by rw [hD, ByteArray.size_append, ByteArray.size_extract]; omega
  have hkD : outOk D r = true := (outOk_iff D r).2 ⟨h1, h2, by omega⟩
  obtain ⟨ra, rfl⟩ := Int.eq_ofNat_of_zero_le (show 0 ≤ r by omega)
  have cA1 : ∀ z : Later w3, z.val.cell? ⟨w1.heap.size, 1, none⟩ = some (.string d) := fun z => by simpa using (A.since z.ok).cell 1
  have cA2 : ∀ z : Later w3, z.val.cell? ⟨w1.heap.size, 2, none⟩ = some (.int .i64 (ra : Int)) := fun z => by simpa using (A.since z.ok).cell 2
  have cB0 : ∀ z : Later w3, z.val.cell? ⟨w2.heap.size, 0, none⟩ = some (.int .u32 f) := fun z => by simpa using (B.since z.ok).cell 0
  have cB1 : ∀ z : Later w3, z.val.cell? ⟨w2.heap.size, 1, none⟩ = some (.string D) := fun z => by simpa using (B.since z.ok).cell 1
  have cB2 : ∀ z : Later w3, z.val.cell? ⟨w2.heap.size, 2, none⟩ = some (.int .i64 (ra : Int)) := fun z => by simpa using (B.since z.ok).cell 2
  have hcall : ∀ z : Later w3, Calls Try.prog 13 #[.agg #[.int .u32 f, .string D, .int .i64 (ra : Int)]] z.val fun e w'' => e = .returned (.bool true) ∧ ∃ y : Later w3, w'' = y.val := fun z => calm_call (by have := implOutOk f D (ra : Int) z.val; rw [hkD] at this; exact this)
  have hadd : ∀ z : Later w3, (Op.stringOp .add d (s.extract 0 N)).run Try.prog z.val = .ok (.string D) z.val := fun z => by
    rw [hD]
    exact run_string_add_sum (P := Try.prog) z.val d (s.extract 0 N) (by rw [ByteArray.size_extract]; omega)
  have hcat : (D.toList == (d ++ s.extract 0 N).toList) = true := by rw [hD]; simp
  have hne : Nonempty (Later w3) := ⟨⟨w3, Since.refl _⟩⟩
  have hn2 : decide (s.size < N) = false := decide_eq_false (by omega)
  have hn3 : decide (ra < d.size + N) = false := decide_eq_false (by omega)
  have hl1 : decide ((N : Int) < 0) = false := decide_eq_false (by omega)
  have hl2 : decide ((s.size : Int) < (N : Int)) = false := decide_eq_false (by omega)
  have hNs : N ≤ s.size := by omega
  have hwr : wrap64 ((d.size : Int) + (N : Int)) = (d.size : Int) + (N : Int) := IntWalk.wrap64_in _ ⟨by omega, by omega⟩
  have hl3 : decide ((ra : Int) < (d.size : Int) + (N : Int)) = false := decide_eq_false (by omega)
  have hl4 : N < s.size → (d.size : Int) + (N : Int) = (ra : Int) := fun h => by omega
  have hat2 : ∀ z : Later w3, Calls Try.prog 14 #[.slice a0 len0 cap0, .int .i64 1] z.val fun e w'' => e = .returned (.int .i64 qv) ∧ ∃ y : Later w3, w'' = y.val := fun z => (hat z.val (G.trans z.ok)).mono (by rintro _ _ ⟨h1, _, _, rfl⟩; exact ⟨h1, z, rfl⟩)
  have hDr : D.size ≤ ra := by omega
  clear x0 x1 x2 y0 y1 y2 hN hD hk hat
  obtain ⟨k, pl, E, X, hkq, hkle, hw1, hw2, hcE, htake, hdone, ht1, ht2⟩ := outFacts f D ra qv hf hkD
  have hra : ra ≤ 4096 := by omega
  rw [← Int.tmod_eq_emod_of_nonneg hq.1] at hkq
  clear hkD hq hf
  by_cases hlt : (N : Int) < (s.size : Int)
  · have hl5 : decide ((N : Int) < (s.size : Int)) = true := decide_eq_true hlt
    have hl6 := hl4 (by omega)
    have hn5 : decide (N < s.size) = true := decide_eq_true (by omega)
    have hn6 : (d.size + N == ra) = true := by simp; omega
    have hn7 : ((d.size : Int) + (N : Int) == (ra : Int)) = true := by simp; omega
    clear hl4
    go_wp2
    refine wp_region_calm (wb := w3) (by kernel_rfl) (by kernel_rfl) (Since.refl _) ?_
    repeat (go_big_quiet_step (exact hcall _))
    refine wpQuiet_nil ?_
    rintro _ ⟨y, rfl⟩
    clear hcall hadd hcat hl1 hl2 hl3 hn2 hn3 cA1 cA2 hl5 hl6 hn5 hn6 hn7 hDs hlt hNs hwr
    go_wp2
    refine wp_region_calm (wb := w3) (by kernel_rfl) (by kernel_rfl) y.ok ?_
    repeat (go_big_quiet_step (exact hat2 _))
    refine wpQuiet_nil ?_
    rintro _ ⟨y2, rfl⟩
    have b0 := cB0 y2
    have b1 := cB1 y2
    have b2 := cB2 y2
    replace B := B.since y2.ok
    replace G := G.trans y2.ok
    clear cB0 cB1 cB2 hat2 hne hkq
    generalize y2.val = w4 at *
    go_wp2_with (fail)
    refine (htake _).mono ?_
    rintro _ w5 ⟨rfl, k5⟩
    replace B := B.since k5
    replace G := G.trans k5
    clear b0 b1 b2 k5 htake
    have b0 := B.cell 0
    have b1 := B.cell 1
    have b2 := B.cell 2
    simp at b0 b1 b2
    go_wp2_with (fail)
    refine (hdone _).mono ?_
    rintro _ w6 ⟨rfl, k6⟩
    replace B := B.since (k6.alloc (.cells #[.int .u32 pl, .string E, .int .i64 (ra : Int)] 26))
    replace G := G.trans (k6.alloc (.cells #[.int .u32 pl, .string E, .int .i64 (ra : Int)] 26))
    have C := Blk.new w6 #[.int .u32 pl, .string E, .int .i64 (ra : Int)] 26
    clear b0 b1 b2 k6 hdone
    go_wp2_with (fail)
    obtain ⟨w7, hw7⟩ : ∃ w7, w7 = w6.alloc (.cells #[.int .u32 pl, .string E, .int .i64 (ra : Int)] 26) := ⟨_, rfl⟩
    rw [← hw7] at B G C
    rw [← hw7]
    have cB0 : ∀ z : Later w7, z.val.cell? ⟨w2.heap.size, 0, none⟩ = some (.int .u32 f) := fun z => by simpa using (B.since z.ok).cell 0
    have cB1 : ∀ z : Later w7, z.val.cell? ⟨w2.heap.size, 1, none⟩ = some (.string D) := fun z => by simpa using (B.since z.ok).cell 1
    have cB2 : ∀ z : Later w7, z.val.cell? ⟨w2.heap.size, 2, none⟩ = some (.int .i64 (ra : Int)) := fun z => by simpa using (B.since z.ok).cell 2
    have cC0 : ∀ z : Later w7, z.val.cell? ⟨w6.heap.size, 0, none⟩ = some (.int .u32 pl) := fun z => by simpa using (C.since z.ok).cell 0
    have cC1 : ∀ z : Later w7, z.val.cell? ⟨w6.heap.size, 1, none⟩ = some (.string E) := fun z => by simpa using (C.since z.ok).cell 1
    have cC2 : ∀ z : Later w7, z.val.cell? ⟨w6.heap.size, 2, none⟩ = some (.int .i64 (ra : Int)) := fun z => by simpa using (C.since z.ok).cell 2
    have hc1 : ∀ z : Later w7, Calls Try.prog 15 #[.agg #[.int .u32 pl, .string E, .int .i64 (ra : Int)], .int .u32 pl, .int .i64 3] z.val fun e w'' => e = .returned (.string X) ∧ ∃ y : Later w7, w'' = y.val := fun z => calm_call (ht1 z.val)
    have hc2 : ∀ z : Later w7, Calls Try.prog 15 #[.agg #[.int .u32 f, .string D, .int .i64 (ra : Int)], .int .u32 pl, .int .i64 3] z.val fun e w'' => e = .returned (.string X) ∧ ∃ y : Later w7, w'' = y.val := fun z => calm_call (ht2 z.val)
    have hne : Nonempty (Later w7) := ⟨⟨w7, Since.refl _⟩⟩
    clear hw7
    refine wp_region_calm (wb := w7) (by kernel_rfl) (by kernel_rfl) (Since.refl _) ?_
    iterate 35 (go_big_quiet_step (exact hc1 _))
    repeat (go_big_quiet_step (exact hc2 _))
    refine wpQuiet_nil ?_
    rintro _ ⟨y, rfl⟩
    clear cB0 cB1 cB2 cC0 cC1 cC2 hc1 hc2
    go_wp2
    go_ret
    exact ⟨rfl, G.trans y.ok⟩
  · have hl5 : decide ((N : Int) < (s.size : Int)) = false := decide_eq_false hlt
    have hn5 : decide (N < s.size) = false := decide_eq_false (by omega)
    clear hl4
    go_wp2
    refine wp_region_calm (wb := w3) (by kernel_rfl) (by kernel_rfl) (Since.refl _) ?_
    repeat (go_big_quiet_step (exact hcall _))
    refine wpQuiet_nil ?_
    rintro _ ⟨y, rfl⟩
    clear hcall hadd hcat hl1 hl2 hl3 hn2 hn3 cA1 cA2 hl5 hn5 hDs hlt hNs hwr
    go_wp2
    refine wp_region_calm (wb := w3) (by kernel_rfl) (by kernel_rfl) y.ok ?_
    repeat (go_big_quiet_step (exact hat2 _))
    refine wpQuiet_nil ?_
    rintro _ ⟨y2, rfl⟩
    have b0 := cB0 y2
    have b1 := cB1 y2
    have b2 := cB2 y2
    replace B := B.since y2.ok
    replace G := G.trans y2.ok
    clear cB0 cB1 cB2 hat2 hne hkq
    generalize y2.val = w4 at *
    go_wp2_with (fail)
    refine (htake _).mono ?_
    rintro _ w5 ⟨rfl, k5⟩
    replace B := B.since k5
    replace G := G.trans k5
    clear b0 b1 b2 k5 htake
    have b0 := B.cell 0
    have b1 := B.cell 1
    have b2 := B.cell 2
    simp at b0 b1 b2
    go_wp2_with (fail)
    refine (hdone _).mono ?_
    rintro _ w6 ⟨rfl, k6⟩
    replace B := B.since (k6.alloc (.cells #[.int .u32 pl, .string E, .int .i64 (ra : Int)] 26))
    replace G := G.trans (k6.alloc (.cells #[.int .u32 pl, .string E, .int .i64 (ra : Int)] 26))
    have C := Blk.new w6 #[.int .u32 pl, .string E, .int .i64 (ra : Int)] 26
    clear b0 b1 b2 k6 hdone
    go_wp2_with (fail)
    obtain ⟨w7, hw7⟩ : ∃ w7, w7 = w6.alloc (.cells #[.int .u32 pl, .string E, .int .i64 (ra : Int)] 26) := ⟨_, rfl⟩
    rw [← hw7] at B G C
    rw [← hw7]
    have cB0 : ∀ z : Later w7, z.val.cell? ⟨w2.heap.size, 0, none⟩ = some (.int .u32 f) := fun z => by simpa using (B.since z.ok).cell 0
    have cB1 : ∀ z : Later w7, z.val.cell? ⟨w2.heap.size, 1, none⟩ = some (.string D) := fun z => by simpa using (B.since z.ok).cell 1
    have cB2 : ∀ z : Later w7, z.val.cell? ⟨w2.heap.size, 2, none⟩ = some (.int .i64 (ra : Int)) := fun z => by simpa using (B.since z.ok).cell 2
    have cC0 : ∀ z : Later w7, z.val.cell? ⟨w6.heap.size, 0, none⟩ = some (.int .u32 pl) := fun z => by simpa using (C.since z.ok).cell 0
    have cC1 : ∀ z : Later w7, z.val.cell? ⟨w6.heap.size, 1, none⟩ = some (.string E) := fun z => by simpa using (C.since z.ok).cell 1
    have cC2 : ∀ z : Later w7, z.val.cell? ⟨w6.heap.size, 2, none⟩ = some (.int .i64 (ra : Int)) := fun z => by simpa using (C.since z.ok).cell 2
    have hc1 : ∀ z : Later w7, Calls Try.prog 15 #[.agg #[.int .u32 pl, .string E, .int .i64 (ra : Int)], .int .u32 pl, .int .i64 3] z.val fun e w'' => e = .returned (.string X) ∧ ∃ y : Later w7, w'' = y.val := fun z => calm_call (ht1 z.val)
    have hc2 : ∀ z : Later w7, Calls Try.prog 15 #[.agg #[.int .u32 f, .string D, .int .i64 (ra : Int)], .int .u32 pl, .int .i64 3] z.val fun e w'' => e = .returned (.string X) ∧ ∃ y : Later w7, w'' = y.val := fun z => calm_call (ht2 z.val)
    have hne : Nonempty (Later w7) := ⟨⟨w7, Since.refl _⟩⟩
    clear hw7
    refine wp_region_calm (wb := w7) (by kernel_rfl) (by kernel_rfl) (Since.refl _) ?_
    iterate 35 (go_big_quiet_step (exact hc1 _))
    repeat (go_big_quiet_step (exact hc2 _))
    refine wpQuiet_nil ?_
    rintro _ ⟨y, rfl⟩
    clear cB0 cB1 cB2 cC0 cC1 cC2 hc1 hc2
    go_wp2
    go_ret
    exact ⟨rfl, G.trans y.ok⟩
end Go.Proofs.Ytpegfiogfcjofaa
