/-
  The draw of FnDatagram: two addresses, an Id and a segment.
-/
import Derived.Test.YtigjppamjfnmcaaDrawSeg
namespace Go.Proofs.Ytigjppamjfnmcaa
open Go.ChangeShapes Go.WideShapes Go.ChangeAt Go.RowKit
set_option linter.unusedVariables false
set_option maxRecDepth 10000

theorem dgStartN (w : World) : Since w (((w.alloc (.cells #[.int .u32 0, .int .i64 0] 26)).alloc (.cells #[.int .u32 0, .int .i64 0] 26)).alloc (.cells #[.int .i64 0, .int .i64 0, .int .u32 0, .int .u32 0, .int .i64 0, .int .i64 0, .int .i64 0, .string ⟨#[]⟩] 28)) ∧ Rec2 w.heap.size (((w.alloc (.cells #[.int .u32 0, .int .i64 0] 26)).alloc (.cells #[.int .u32 0, .int .i64 0] 26)).alloc (.cells #[.int .i64 0, .int .i64 0, .int .u32 0, .int .u32 0, .int .i64 0, .int .i64 0, .int .i64 0, .string ⟨#[]⟩] 28)) (.int .u32 0) (.int .i64 0) ∧ Rec2 (w.heap.size + 1) (((w.alloc (.cells #[.int .u32 0, .int .i64 0] 26)).alloc (.cells #[.int .u32 0, .int .i64 0] 26)).alloc (.cells #[.int .i64 0, .int .i64 0, .int .u32 0, .int .u32 0, .int .i64 0, .int .i64 0, .int .i64 0, .string ⟨#[]⟩] 28)) (.int .u32 0) (.int .i64 0) ∧ Rec8 (w.heap.size + 1 + 1) (((w.alloc (.cells #[.int .u32 0, .int .i64 0] 26)).alloc (.cells #[.int .u32 0, .int .i64 0] 26)).alloc (.cells #[.int .i64 0, .int .i64 0, .int .u32 0, .int .u32 0, .int .i64 0, .int .i64 0, .int .i64 0, .string ⟨#[]⟩] 28)) (.int .i64 0) (.int .i64 0) (.int .u32 0) (.int .u32 0) (.int .i64 0) (.int .i64 0) (.int .i64 0) (.string ⟨#[]⟩) := by
  refine ⟨(((Since.refl _).alloc _).alloc _).alloc _, (Rec2.new w _ _ _).since (((Since.refl _).alloc _).alloc _), ?_, ?_⟩
  · have h := (Rec2.new (w.alloc (.cells #[.int .u32 0, .int .i64 0] 26)) (.int .u32 0) (.int .i64 0) 26).since ((Since.refl _).alloc (.cells #[.int .i64 0, .int .i64 0, .int .u32 0, .int .u32 0, .int .i64 0, .int .i64 0, .int .i64 0, .string ⟨#[]⟩] 28))
    rwa [World.size_alloc] at h
  · have h := Rec8.new ((w.alloc (.cells #[.int .u32 0, .int .i64 0] 26)).alloc (.cells #[.int .u32 0, .int .i64 0] 26)) (.int .i64 0) (.int .i64 0) (.int .u32 0) (.int .u32 0) (.int .i64 0) (.int .i64 0) (.int .i64 0) (.string ⟨#[]⟩) 28
    rwa [World.size_alloc, World.size_alloc] at h

set_option maxHeartbeats 4000000 in
theorem drawDg (a : Option Addr) (len cap : Nat) (zs : List Int) (w : World) (hb : Bytes w a len zs) (hm : len ≤ 1048576) :
    Calls Try.prog 5 #[.slice a len cap] w fun e w' => ∃ (sh sp dh dp id fr to sq ak fl wn ms : Int) (d : ByteArray), e = .returned (.tuple #[addrVal sh sp, addrVal dh dp, .int .i64 id, segVal fr to sq ak fl wn ms d]) ∧ (IsWord sh ∧ IsWord dh ∧ IsWord sq ∧ IsWord ak ∧ IsInt fl) ∧ Since w w' := by
  obtain ⟨S0, kA, kB, kS⟩ := dgStartN w
  have hnew := fun wx h => drawNew a len cap zs w hb hm wx h
  clear hb
  unfold addrVal segVal
  go_enter Try.func5, Try.ntmps5
  go_wp2_with (first | (go_at_call 12; refine (hnew _ S0).mono ?_; rintro _ w1 ⟨g, rfl, hg, hb1, HC⟩; replace kA := kA.since hb1; replace kB := kB.since hb1; replace kS := kS.since hb1; simp only [World.size_alloc] at hg; have hAg : w.heap.size ≠ g := (by omega); have hBg : w.heap.size + 1 ≠ g := (by omega); have hSg : w.heap.size + 1 + 1 ≠ g := (by omega); have D1 := fun x h => drawAddr (w0 := w) (wb := w1) (g := g) (a := a) (len := len) (cap := cap) (zs := zs) x h; have D2 := D1) | (go_at_call 13; refine (D1 _ (by assumption)).mono ?_; clear D1; rintro _ w2 ⟨sh, sp, rfl, hsh, HC, T2⟩; replace kA := kA.touch hAg T2; replace kB := kB.touch hBg T2; replace kS := kS.touch hSg T2; unfold addrVal; have hPg : w2.heap.size ≠ g := (Nat.ne_of_gt HC.here); have l1 := kS.lt; replace HC := HC.alloc (.cells #[.int .u32 sh, .int .i64 sp] 26); have kP := Rec2.new w2 (.int .u32 sh) (.int .i64 sp) 26; replace kA := kA.since ((Since.refl _).alloc (.cells #[.int .u32 sh, .int .i64 sp] 26)); replace kB := kB.since ((Since.refl _).alloc (.cells #[.int .u32 sh, .int .i64 sp] 26)); replace kS := kS.since ((Since.refl _).alloc (.cells #[.int .u32 sh, .int .i64 sp] 26))) | (go_at_call 13; refine (D2 _ (by assumption)).mono ?_; clear D2; rintro _ w3 ⟨dh, dp, rfl, hdh, HC, T3⟩; replace kA := kA.touch hAg T3; replace kB := kB.touch hBg T3; replace kS := kS.touch hSg T3; replace kP := kP.touch hPg T3; unfold addrVal; have hQg : w3.heap.size ≠ g := (Nat.ne_of_gt HC.here); have l2 := kP.lt; replace HC := HC.alloc (.cells #[.int .u32 dh, .int .i64 dp] 26); have kQ := Rec2.new w3 (.int .u32 dh) (.int .i64 dp) 26; replace kA := kA.since ((Since.refl _).alloc (.cells #[.int .u32 dh, .int .i64 dp] 26)); replace kB := kB.since ((Since.refl _).alloc (.cells #[.int .u32 dh, .int .i64 dp] 26)); replace kS := kS.since ((Since.refl _).alloc (.cells #[.int .u32 dh, .int .i64 dp] 26)); replace kP := kP.since ((Since.refl _).alloc (.cells #[.int .u32 dh, .int .i64 dp] 26))) | (go_at_call 14; refine (belowT 65536 (by omega) _ (by assumption)).mono ?_; rintro _ w4 ⟨i, rfl, hi0, hi1, HC, T4⟩; replace kA := kA.touch hAg T4; replace kB := kB.touch hBg T4; replace kS := kS.touch hSg T4; replace kP := kP.touch hPg T4; replace kQ := kQ.touch hQg T4) | (go_at_call 15; refine (onceT _ _ (by assumption)).mono ?_; rintro _ w5 ⟨o, rfl, HC, T5⟩; replace kA := kA.touch hAg T5; replace kB := kB.touch hBg T5; replace kS := kS.touch hSg T5; replace kP := kP.touch hPg T5; replace kQ := kQ.touch hQg T5))
  all_goals have l3 := kQ.lt
  all_goals have l4 := kS.lt
  all_goals have q1 : ¬ w2.heap.size = w.heap.size := by omega
  all_goals have q2 : ¬ w2.heap.size = w.heap.size + 1 := by omega
  all_goals have q3 : ¬ w2.heap.size = w.heap.size + 1 + 1 := by omega
  all_goals have q4 : ¬ w3.heap.size = w.heap.size := by omega
  all_goals have q5 : ¬ w3.heap.size = w.heap.size + 1 := by omega
  all_goals have q6 : ¬ w3.heap.size = w.heap.size + 1 + 1 := by omega
  all_goals have q7 : ¬ w2.heap.size = w3.heap.size := by omega
  all_goals have p2 := kP
  all_goals have p3 := kQ
  all_goals obtain ⟨p0, p1, p4, p5⟩ := p2
  all_goals obtain ⟨t0, t1, t4, t5⟩ := p3
  all_goals replace HC := HC.moved (g' := g) (Since.drew (Since.refl w5))
  all_goals replace kA := kA.since ((Since.refl w5).drew)
  all_goals replace kB := kB.since ((Since.refl w5).drew)
  all_goals replace kS := kS.since ((Since.refl w5).drew)
  all_goals replace kP := kP.since ((Since.refl w5).drew)
  all_goals replace kQ := kQ.since ((Since.refl w5).drew)
  all_goals go_region_with (go_at_call 16; refine (drawSeg _ HC).mono ?_; rintro _ w6 ⟨fr, to, sq, ak, fl, wn, ms, d, rfl, hq, HC6, T6⟩; replace kA := kA.touch hAg T6; replace kB := kB.touch hBg T6; replace kS := kS.touch hSg T6; replace kP := kP.touch hPg T6; replace kQ := kQ.touch hQg T6; unfold segVal; have kA2 := kA; have kB2 := kB; have kS2 := kS; have kP2 := kP; have kQ2 := kQ; obtain ⟨a0, a1, a2, a3⟩ := kA2; obtain ⟨b0, b1, b2, b3⟩ := kB2; obtain ⟨s0, s1, s2, s3, s4, s5, s6, s7, s8, s9⟩ := kS2; obtain ⟨p0, p1, p4, p5⟩ := kP2; obtain ⟨t0, t1, t4, t5⟩ := kQ2)
  all_goals have F := answered_ok kA kB kS (by omega) (by omega) (by omega) (.int .u32 sh) (.int .i64 sp) (.int .u32 dh) (.int .i64 dp) (.int .i64 fr) (.int .i64 to) (.int .u32 sq) (.int .u32 ak) (.int .i64 fl) (.int .i64 wn) (.int .i64 ms) (.string d)
  all_goals unfold answered stored8 stored2 at F
  all_goals go_wp2
  all_goals first
    | (refine bodyPost_ret (v := .tuple #[.agg #[.int .u32 sh, .int .i64 sp], .agg #[.int .u32 dh, .int .i64 dp], .int .i64 65536, .agg #[.int .i64 fr, .int .i64 to, .int .u32 sq, .int .u32 ak, .int .i64 fl, .int .i64 wn, .int .i64 ms, .string d]]) ?_ rfl ⟨sh, sp, dh, dp, 65536, fr, to, sq, ak, fl, wn, ms, d, rfl, ⟨hsh, hdh, hq.1, hq.2.1, hq.2.2.1⟩, since_answered HC6.bel (Nat.le_refl _) (by omega) (by omega) (.int .u32 sh) (.int .i64 sp) (.int .u32 dh) (.int .i64 dp) (.int .i64 fr) (.int .i64 to) (.int .u32 sq) (.int .u32 ak) (.int .i64 fl) (.int .i64 wn) (.int .i64 ms) (.string d)⟩; (simp [results, go_sem, F.1.c0, F.1.c1, F.2.1.c0, F.2.1.c1, F.2.2.c0, F.2.2.c1, F.2.2.c2, F.2.2.c3, F.2.2.c4, F.2.2.c5, F.2.2.c6, F.2.2.c7]; done))
    | (refine bodyPost_ret (v := .tuple #[.agg #[.int .u32 sh, .int .i64 sp], .agg #[.int .u32 dh, .int .i64 dp], .int .i64 i, .agg #[.int .i64 fr, .int .i64 to, .int .u32 sq, .int .u32 ak, .int .i64 fl, .int .i64 wn, .int .i64 ms, .string d]]) ?_ rfl ⟨sh, sp, dh, dp, i, fr, to, sq, ak, fl, wn, ms, d, rfl, ⟨hsh, hdh, hq.1, hq.2.1, hq.2.2.1⟩, since_answered HC6.bel (Nat.le_refl _) (by omega) (by omega) (.int .u32 sh) (.int .i64 sp) (.int .u32 dh) (.int .i64 dp) (.int .i64 fr) (.int .i64 to) (.int .u32 sq) (.int .u32 ak) (.int .i64 fl) (.int .i64 wn) (.int .i64 ms) (.string d)⟩; (simp [results, go_sem, F.1.c0, F.1.c1, F.2.1.c0, F.2.1.c1, F.2.2.c0, F.2.2.c1, F.2.2.c2, F.2.2.c3, F.2.2.c4, F.2.2.c5, F.2.2.c6, F.2.2.c7]; done))
end Go.Proofs.Ytigjppamjfnmcaa
