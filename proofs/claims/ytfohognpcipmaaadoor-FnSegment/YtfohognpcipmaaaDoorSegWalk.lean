/-
  The walk of FnSegment: for every code.
-/
import Derived.Test.YtfohognpcipmaaaDoorDrawPS
import Derived.Test.YtfohognpcipmaaaDoorSegSpoil
import Derived.Test.YtfohognpcipmaaaDoorImplText
import Derived.Test.YtfohognpcipmaaaDoorCode
namespace Go.Proofs.YtfohognpcipmaaaDoor
open Go.ChangeShapes Go.WideShapes Go.ChangeAt Go.RowKit
set_option linter.unusedVariables false

theorem big_ (a : Option Addr) (len cap : Nat) (w : World) :
    Calls Tryd.prog 4 #[.slice a len cap] w fun e w' => e = .returned (.bool (decide ((1048576 : Int) < (len : Int)))) ∧ w = w' := by
  go_enter Tryd.func4, Tryd.ntmps4
  go_wp2
  go_ret
  exact ⟨rfl, rfl⟩

theorem at_in (a : Option Addr) (len : Nat) (zs : List Int) (k : Nat) (w0 : World) (hb : Bytes w0 a len zs) : 0 ≤ (if k < len then zs.getD k 0 else ((k : Int) * 7 + len) % 256) ∧ (if k < len then zs.getD k 0 else ((k : Int) * 7 + len) % 256) ≤ 255 := by
  by_cases h : k < len
  · rw [if_pos h]
    rcases hb with h0 | ⟨b, off, rfl, hl, hz⟩
    · omega
    · exact (hz k h).2
  · rw [if_neg h]
    omega

theorem span_in (fl n : Int) : n ≤ spanOf fl n ∧ spanOf fl n ≤ n + 2 := by
  unfold spanOf
  split <;> split <;> omega

set_option maxHeartbeats 1600000 in
theorem walkSeg (a0 : Option Addr) (len0 cap0 : Nat) (z0 : List Int) (w : World) (hb : Bytes w a0 len0 z0) (ht : Tab w) (hL : Letters w) (hg : 1 < w.heap.size) :
    Calls Tryd.prog 3 #[.slice a0 len0 cap0] w fun e w' => e = .returned (.bool true) ∧ Below w.heap.size w w' := by
  have hbig := fun wx => big_ a0 len0 cap0 wx
  have hn : ∀ (x : Bool) (w : World), (Op.unary .not (.bool x)).run Tryd.prog w = .ok (.bool (!x)) w := fun _ _ => rfl
  by_cases hm : len0 ≤ 1048576
  case neg =>
    rw [show decide ((1048576 : Int) < (len0 : Int)) = true by simp; omega] at hbig
    clear hb ht hL
    go_enter Tryd.func3, Tryd.ntmps3
    go_wp2_with (go_at_call 4; refine (hbig _).mono ?_; rintro _ _ ⟨rfl, rfl⟩)
    go_ret
    exact ⟨rfl, Below.refl _ _⟩
  rw [show decide ((1048576 : Int) < (len0 : Int)) = false by simp; omega] at hbig
  have hdr := drawPS a0 len0 cap0 z0 w hb hm
  obtain ⟨v3, h30, h31, hat3⟩ : ∃ v : Int, 0 ≤ v ∧ v ≤ 255 ∧ ∀ wx, Since w wx → Calls Tryd.prog 12 #[.slice a0 len0 cap0, .int .i64 3] wx fun e w' => e = .returned (.int .i64 v) ∧ Since wx w' := ⟨_, (at_in a0 len0 z0 3 w hb).1, (at_in a0 len0 z0 3 w hb).2, fun wx h => (at_ a0 len0 cap0 z0 3 (by omega) w hb hm wx h).mono fun e w' ⟨h1, _, _, h4⟩ => ⟨h1, h4 ▸ Since.refl _⟩⟩
  obtain ⟨v4, h40, h41, hat4⟩ : ∃ v : Int, 0 ≤ v ∧ v ≤ 255 ∧ ∀ wx, Since w wx → Calls Tryd.prog 12 #[.slice a0 len0 cap0, .int .i64 4] wx fun e w' => e = .returned (.int .i64 v) ∧ Since wx w' := ⟨_, (at_in a0 len0 z0 4 w hb).1, (at_in a0 len0 z0 4 w hb).2, fun wx h => (at_ a0 len0 cap0 z0 4 (by omega) w hb hm wx h).mono fun e w' ⟨h1, _, _, h4⟩ => ⟨h1, h4 ▸ Since.refl _⟩⟩
  clear hb
  go_enter Tryd.func3, Tryd.ntmps3
  go_wp2_with (first | (go_at_call 4; refine (hbig _).mono ?_; rintro _ _ ⟨rfl, rfl⟩) | (go_at_call 5; refine hdr.mono ?_; clear hdr; rintro _ w1 ⟨src, dst, fr, to, sq, ak, fl, wn, ms, d, rfl, ⟨hsrc, hdst, hsq, hak, hfl⟩, G⟩; unfold segVal))
  have hput := fun wx => implPutSeg src dst fr to sq ak fl wn ms d hsrc hdst hsq hak hfl wx
  have hok := fun wx => specSegOk fr to sq ak fl wn ms d hfl wx
  have hoi := fun wx => implSegOk fr to sq ak fl wn ms d hfl wx
  have hti : ∀ wx, Since w wx → Calls Tryd.prog 9 #[segVal fr to sq ak fl wn ms d] wx fun e w' => e = .returned (.string (segText fr to sq ak fl wn ms d)) ∧ Since wx w' := fun wx hx => implSegText fr to sq ak fl wn ms d hsq hak hfl wx (tab_kept ht (hx.block _ hg)) (letters_kept hL (hx.block _ (by omega))) (by have := Below.size hx; omega)
  have hts := fun wx => specSegText fr to sq ak fl wn ms d hsq hak hfl wx
  have K := Rec8.new w1 (.int .i64 fr) (.int .i64 to) (.int .u32 sq) (.int .u32 ak) (.int .i64 fl) (.int .i64 wn) (.int .i64 ms) (.string d) 26
  replace G := G.alloc (.cells #[.int .i64 fr, .int .i64 to, .int .u32 sq, .int .u32 ak, .int .i64 fl, .int .i64 wn, .int .i64 ms, .string d] 26)
  unfold segVal at hput hok hoi hti hts
  clear hbig ht hL
  by_cases hk : segOk fr to fl wn ms d = true
  case neg =>
    rw [show segOk fr to fl wn ms d = false by simpa using hk] at hok hoi
    rw [putSeg, if_neg hk] at hput
    simp only [segText, if_neg hk] at hti
    clear hk hat3 hat4 hts
    refine (hput _).mono ?_
    rintro _ z1 ⟨rfl, g1⟩
    replace K := K.since g1
    replace G := G.trans g1
    have K2 := K
    obtain ⟨k0, k1, k2, k3, k4, k5, k6, k7, k8, k9⟩ := K2
    go_wp2_with (first | (go_at_call 7; refine (hok _).mono ?_; rintro _ z2 ⟨rfl, g2⟩; replace K := K.since g2; replace G := G.trans g2; have K2 := K; obtain ⟨k0, k1, k2, k3, k4, k5, k6, k7, k8, k9⟩ := K2) | (go_at_call 8; refine (hoi _).mono ?_; rintro _ z3 ⟨rfl, g3⟩; replace K := K.since g3; replace G := G.trans g3; have K2 := K; obtain ⟨k0, k1, k2, k3, k4, k5, k6, k7, k8, k9⟩ := K2) | (go_at_call 9; refine (hti _ G).mono ?_; rintro _ z4 ⟨rfl, g4⟩; replace G := G.trans g4))
    go_ret
    exact ⟨rfl, G⟩
  rw [hk] at hok
  clear hoi
  obtain ⟨p1, p2, p3, p4, p5, p6⟩ := seg_reads src dst fr to sq ak fl wn ms d hsq hak hk
  have hkk := hk
  simp only [segOk, mssFits, Bool.and_eq_true, Bool.or_eq_true, decide_eq_true_eq] at hkk
  obtain ⟨⟨f0, f1⟩, ⟨o0, o1⟩, ⟨l0, l1⟩, ⟨n0, n1⟩, hmm, hz⟩ := hkk
  have G1 : ∀ wx, Calls Tryd.prog 10 #[.int .u32 src, .int .u32 dst, .string (putSeg src dst fr to sq ak fl wn ms d)] wx fun e w' => e = .returned (.tuple #[.agg #[.int .i64 fr, .int .i64 to, .int .u32 sq, .int .u32 ak, .int .i64 fl, .int .i64 wn, .int .i64 ms, .string d], .bool true]) ∧ Since wx w' := fun wx => by
    have h := implGetSeg src dst (putSeg src dst fr to sq ak fl wn ms d) hsrc hdst (by omega) true (by simp [p6]) wx
    rw [getSegVal, if_pos rfl, p3] at h
    exact h
  have hsp := fun wx => implSpan fr to sq ak fl wn ms d hfl (by omega) wx
  have hsh := fun k x wx => implShows (putSeg src dst fr to sq ak fl wn ms d) k x (by omega) wx
  have htu := fun k x wx => implTurned (putSeg src dst fr to sq ak fl wn ms d) k x (by omega) wx
  have G2 : ∀ k x, shows (putSeg src dst fr to sq ak fl wn ms d) k x = true → ∀ wx, Calls Tryd.prog 10 #[.int .u32 src, .int .u32 dst, .string (turnOf (putSeg src dst fr to sq ak fl wn ms d) k x)] wx fun e w' => e = .returned (.tuple #[.agg #[.int .i64 0, .int .i64 0, .int .u32 0, .int .u32 0, .int .i64 0, .int .i64 0, .int .i64 0, .string ⟨#[]⟩], .bool false]) ∧ Since wx w' := fun k x h wx =>
    implGetSeg src dst (turnOf (putSeg src dst fr to sq ak fl wn ms d) k x) hsrc hdst (by rw [turnOf_size]; omega) false (by simp [seg_turned_not src dst (putSeg src dst fr to sq ak fl wn ms d) k x p6 (by omega) h]) wx
  have si := span_in fl (d.size : Int)
  unfold segVal at hsp
  generalize spanOf fl (d.size : Int) = sp at hsp si
  generalize segText fr to sq ak fl wn ms d = T at hti hts
  clear p3 p4 p5 p6 hk hmm
  generalize putSeg src dst fr to sq ak fl wn ms d = S at hput G1 hsh htu G2 p1 p2
  have hq2 : Int.tdiv (S.size : Int) 2 = (S.size : Int) / 2 := Int.tdiv_eq_ediv_of_nonneg (by omega)
  obtain ⟨n2, hn2⟩ : ∃ n2 : Int, (S.size : Int) / 2 = n2 := ⟨_, rfl⟩
  have hn20 : 10 ≤ n2 ∧ n2 ≤ 300 := by omega
  have hw2 : IntKind.i64.wrap n2 = n2 := by rw [IntWalk.i64_left]; exact IntWalk.wrap64_in _ ⟨by omega, by omega⟩
  have hr3 : Int.tmod v3 n2 = v3 % n2 := Int.tmod_eq_emod_of_nonneg h30
  have hr0 := Int.emod_nonneg v3 (show n2 ≠ 0 by omega)
  have hr1 := Int.emod_lt_of_pos v3 (show 0 < n2 by omega)
  obtain ⟨kk, hkk⟩ : ∃ kk : Int, v3 % n2 = kk := ⟨_, rfl⟩
  rw [hkk] at hr3 hr0 hr1
  rw [hn2] at hq2
  have hwk : IntKind.i64.wrap kk = kk := by rw [IntWalk.i64_left]; exact IntWalk.wrap64_in _ ⟨by omega, by omega⟩
  have hw4 : IntKind.i64.wrap (v4 * 250) = v4 * 250 := by rw [IntWalk.i64_left]; exact IntWalk.wrap64_in _ ⟨by omega, by omega⟩
  have hw5 : IntKind.i64.wrap (1 + v4 * 250) = 1 + v4 * 250 := by rw [IntWalk.i64_left]; exact IntWalk.wrap64_in _ ⟨by omega, by omega⟩
  have hwd : IntKind.i64.wrap ((d.size : Int) + 2) = (d.size : Int) + 2 := by rw [IntWalk.i64_left]; exact IntWalk.wrap64_in _ ⟨by omega, by omega⟩
  have hnz : n2 ≠ 0 := by omega
  refine (hput _).mono ?_
  clear hput
  rintro _ z1 ⟨rfl, g1⟩
  replace K := K.since g1
  replace G := G.trans g1
  have K2 := K
  obtain ⟨k0, k1, k2, k3, k4, k5, k6, k7, k8, k9⟩ := K2
  go_wp2_with (first | (go_at_call 7; refine (hok _).mono ?_; clear hok; rintro _ z2 ⟨rfl, g2⟩; replace K := K.since g2; replace G := G.trans g2; have K2 := K; obtain ⟨k0, k1, k2, k3, k4, k5, k6, k7, k8, k9⟩ := K2) | (go_at_call 10; refine (G1 _).mono ?_; clear G1; rintro _ z3 ⟨rfl, g3⟩; replace K := K.since g3; replace G := G.trans g3; have K2 := K; obtain ⟨k0, k1, k2, k3, k4, k5, k6, k7, k8, k9⟩ := K2))
  obtain ⟨wb, hwb⟩ : ∃ wb, z3.alloc (.cells #[.int .i64 fr, .int .i64 to, .int .u32 sq, .int .u32 ak, .int .i64 fl, .int .i64 wn, .int .i64 ms, .string d] 26) = wb := ⟨_, rfl⟩
  have R := Rec8.new z3 (.int .i64 fr) (.int .i64 to) (.int .u32 sq) (.int .u32 ak) (.int .i64 fl) (.int .i64 wn) (.int .i64 ms) (.string d) 26
  replace K := K.since ((Since.refl z3).alloc (.cells #[.int .i64 fr, .int .i64 to, .int .u32 sq, .int .u32 ak, .int .i64 fl, .int .i64 wn, .int .i64 ms, .string d] 26))
  replace G := G.alloc (.cells #[.int .i64 fr, .int .i64 to, .int .u32 sq, .int .u32 ak, .int .i64 fl, .int .i64 wn, .int .i64 ms, .string d] 26)
  rw [hwb] at R K G ⊢
  clear k0 k1 k2 k3 k4 k5 k6 k7 k8 k9 hwb g1 g2 g3
  have hne : Nonempty (Later wb) := ⟨⟨wb, Since.refl _⟩⟩
  have C0 : ∀ x : Later wb, x.val.cell? ⟨w1.heap.size, 0, none⟩ = some (.int .i64 fr) := fun x => (K.since x.ok).c0
  have C1 : ∀ x : Later wb, x.val.cell? ⟨w1.heap.size, 1, none⟩ = some (.int .i64 to) := fun x => (K.since x.ok).c1
  have C2 : ∀ x : Later wb, x.val.cell? ⟨w1.heap.size, 2, none⟩ = some (.int .u32 sq) := fun x => (K.since x.ok).c2
  have C3 : ∀ x : Later wb, x.val.cell? ⟨w1.heap.size, 3, none⟩ = some (.int .u32 ak) := fun x => (K.since x.ok).c3
  have C4 : ∀ x : Later wb, x.val.cell? ⟨w1.heap.size, 4, none⟩ = some (.int .i64 fl) := fun x => (K.since x.ok).c4
  have C5 : ∀ x : Later wb, x.val.cell? ⟨w1.heap.size, 5, none⟩ = some (.int .i64 wn) := fun x => (K.since x.ok).c5
  have C6 : ∀ x : Later wb, x.val.cell? ⟨w1.heap.size, 6, none⟩ = some (.int .i64 ms) := fun x => (K.since x.ok).c6
  have C7 : ∀ x : Later wb, x.val.cell? ⟨w1.heap.size, 7, none⟩ = some (.string d) := fun x => (K.since x.ok).c7
  have D0 : ∀ x : Later wb, x.val.cell? ⟨z3.heap.size, 0, none⟩ = some (.int .i64 fr) := fun x => (R.since x.ok).c0
  have D1 : ∀ x : Later wb, x.val.cell? ⟨z3.heap.size, 1, none⟩ = some (.int .i64 to) := fun x => (R.since x.ok).c1
  have D2 : ∀ x : Later wb, x.val.cell? ⟨z3.heap.size, 2, none⟩ = some (.int .u32 sq) := fun x => (R.since x.ok).c2
  have D3 : ∀ x : Later wb, x.val.cell? ⟨z3.heap.size, 3, none⟩ = some (.int .u32 ak) := fun x => (R.since x.ok).c3
  have D4 : ∀ x : Later wb, x.val.cell? ⟨z3.heap.size, 4, none⟩ = some (.int .i64 fl) := fun x => (R.since x.ok).c4
  have D5 : ∀ x : Later wb, x.val.cell? ⟨z3.heap.size, 5, none⟩ = some (.int .i64 wn) := fun x => (R.since x.ok).c5
  have D6 : ∀ x : Later wb, x.val.cell? ⟨z3.heap.size, 6, none⟩ = some (.int .i64 ms) := fun x => (R.since x.ok).c6
  have D7 : ∀ x : Later wb, x.val.cell? ⟨z3.heap.size, 7, none⟩ = some (.string d) := fun x => (R.since x.ok).c7
  have hti2 : ∀ x : Later wb, Calls Tryd.prog 9 #[.agg #[.int .i64 fr, .int .i64 to, .int .u32 sq, .int .u32 ak, .int .i64 fl, .int .i64 wn, .int .i64 ms, .string d]] x.val fun e w'' => e = .returned (.string T) ∧ ∃ y : Later wb, w'' = y.val := fun x => calm_call (hti x.val (G.trans x.ok))
  have hts2 : ∀ x : Later wb, Calls Tryd.prog 11 #[.agg #[.int .i64 fr, .int .i64 to, .int .u32 sq, .int .u32 ak, .int .i64 fl, .int .i64 wn, .int .i64 ms, .string d]] x.val fun e w'' => e = .returned (.string T) ∧ ∃ y : Later wb, w'' = y.val := fun x => calm_call (hts x.val)
  have hA3 : ∀ x : Later wb, Calls Tryd.prog 12 #[.slice a0 len0 cap0, .int .i64 3] x.val fun e w'' => e = .returned (.int .i64 v3) ∧ ∃ y : Later wb, w'' = y.val := fun x => calm_call (hat3 x.val (G.trans x.ok))
  have hA4 : ∀ x : Later wb, Calls Tryd.prog 12 #[.slice a0 len0 cap0, .int .i64 4] x.val fun e w'' => e = .returned (.int .i64 v4) ∧ ∃ y : Later wb, w'' = y.val := fun x => calm_call (hat4 x.val (G.trans x.ok))
  have hSP : ∀ x : Later wb, Calls Tryd.prog 15 #[.agg #[.int .i64 fr, .int .i64 to, .int .u32 sq, .int .u32 ak, .int .i64 fl, .int .i64 wn, .int .i64 ms, .string d]] x.val fun e w'' => e = .returned (.int .i64 sp) ∧ ∃ y : Later wb, w'' = y.val := fun x => calm_call (hsp x.val)
  clear hti hts hat3 hat4 hsp
  refine wp_region_calm (wb := wb) (by kernel_rfl) (by kernel_rfl) (Since.refl _) ?_
  iterate 10 (go_big_quiet_step (exact hti2 _))
  repeat (go_big_quiet_step (exact hts2 _))
  refine wpQuiet_nil ?_
  rintro _ ⟨x1, rfl⟩
  clear hti2 hts2
  go_wp2
  refine wp_region_calm (wb := wb) (by kernel_rfl) (by kernel_rfl) x1.ok ?_
  iterate 6 (go_big_quiet_step (exact hA3 _))
  repeat (go_big_quiet_step (exact hA4 _))
  refine wpQuiet_nil ?_
  rintro _ ⟨x2, rfl⟩
  clear hA3 hA4
  have HS := x2.ok
  obtain ⟨s1, s2⟩ := si
  clear h30 h31 h40 h41 hq2 hn2 hn20 hw2 hr3 hr0 hr1 hkk hwk hw4 hw5 hnz
  by_cases hsw : shows S kk (1 + v4 * 250) = true
  · have hsh2 := fun wx => hsh kk (1 + v4 * 250) wx
    rw [hsw] at hsh2
    have htu2 := fun wx => htu kk (1 + v4 * 250) wx
    have G22 := G2 kk (1 + v4 * 250) hsw
    clear hsh htu G2 hsw
    generalize turnOf S kk (1 + v4 * 250) = S2 at htu2 G22
    go_wp2_with (first | (go_at_call 13; refine (hsh2 _).mono ?_; rintro _ y1 ⟨rfl, e1⟩; replace HS := HS.trans e1) | (go_at_call 14; refine (htu2 _).mono ?_; rintro _ y2 ⟨rfl, e2⟩; replace HS := HS.trans e2) | (go_at_call 10; refine (G22 _).mono ?_; rintro _ y3 ⟨rfl, e3⟩; replace HS := HS.trans e3))
    refine wp_region_calm (wb := wb) (by kernel_rfl) (by kernel_rfl) (HS.alloc _) ?_
    repeat (go_big_quiet_step (exact hSP _))
    refine wpQuiet_nil ?_
    rintro _ ⟨x3, rfl⟩
    clear hSP
    go_wp2
    go_ret
    exact ⟨rfl, G.trans x3.ok⟩
  · have hsh2 := fun wx => hsh kk (1 + v4 * 250) wx
    rw [show shows S kk (1 + v4 * 250) = false by simpa using hsw] at hsh2
    clear hsh htu G2 hsw
    go_wp2_with (go_at_call 13; refine (hsh2 _).mono ?_; rintro _ y1 ⟨rfl, e1⟩; replace HS := HS.trans e1)
    refine wp_region_calm (wb := wb) (by kernel_rfl) (by kernel_rfl) HS ?_
    repeat (go_big_quiet_step (exact hSP _))
    refine wpQuiet_nil ?_
    rintro _ ⟨x3, rfl⟩
    clear hSP
    go_wp2
    go_ret
    exact ⟨rfl, G.trans x3.ok⟩
end Go.Proofs.YtfohognpcipmaaaDoor
