/-
  The draw of FnSegment: two hosts and a segment.
-/
import Derived.Test.YtfohognpcipmaaaDoorDrawSeg
namespace Go.Proofs.YtfohognpcipmaaaDoor
open Go.ChangeShapes Go.WideShapes Go.ChangeAt Go.RowKit
set_option linter.unusedVariables false

set_option maxHeartbeats 2000000 in
theorem drawPS (a : Option Addr) (len cap : Nat) (zs : List Int) (w : World) (hb : Bytes w a len zs) (hm : len ≤ 1048576) :
    Calls Tryd.prog 5 #[.slice a len cap] w fun e w' => ∃ (src dst fr to sq ak fl wn ms : Int) (d : ByteArray), e = .returned (.tuple #[.int .u32 src, .int .u32 dst, segVal fr to sq ak fl wn ms d]) ∧ (IsWord src ∧ IsWord dst ∧ IsWord sq ∧ IsWord ak ∧ IsInt fl) ∧ Since w w' := by
  have S0 : Since w (w.alloc (.cells #[.int .i64 0, .int .i64 0, .int .u32 0, .int .u32 0, .int .i64 0, .int .i64 0, .int .i64 0, .string ⟨#[]⟩] 26)) := (Since.refl _).alloc _
  have kS := Rec8.new w (.int .i64 0) (.int .i64 0) (.int .u32 0) (.int .u32 0) (.int .i64 0) (.int .i64 0) (.int .i64 0) (.string ⟨#[]⟩) 26
  have hnew := fun wx h => drawNew a len cap zs w hb hm wx h
  clear hb
  unfold segVal
  go_enter Tryd.func5, Tryd.ntmps5
  go_wp2_with (first | (go_at_call 16; refine (hnew _ S0).mono ?_; rintro _ w1 ⟨g, rfl, hg, hb1, HC⟩; replace kS := kS.since hb1; simp only [World.size_alloc] at hg; have hSg : w.heap.size ≠ g := (by omega); have D1 := fun x h => drawWordT (w0 := w) (wb := w1) (g := g) (a := a) (len := len) (cap := cap) (zs := zs) x h; have D2 := D1) | (go_at_call 17; refine (D1 _ (by assumption)).mono ?_; clear D1 HC; rintro _ w2 ⟨src, rfl, hsrc, HC, T2⟩; replace kS := kS.touch hSg T2) | (go_at_call 17; refine (D2 _ (by assumption)).mono ?_; clear D2 HC; rintro _ w3 ⟨dst, rfl, hdst, HC, T3⟩; replace kS := kS.touch hSg T3) | (go_at_call 18; refine (drawSeg _ HC).mono ?_; clear HC; rintro _ w6 ⟨fr, to, sq, ak, fl, wn, ms, d, rfl, hq, HC, T6⟩; replace kS := kS.touch hSg T6; unfold segVal; have kS2 := kS; obtain ⟨s0, s1, s2, s3, s4, s5, s6, s7, s8, s9⟩ := kS2))
  have F := kS.stored (.int .i64 fr) (.int .i64 to) (.int .u32 sq) (.int .u32 ak) (.int .i64 fl) (.int .i64 wn) (.int .i64 ms) (.string d)
  unfold stored8 at F
  refine bodyPost_ret (v := .tuple #[.int .u32 src, .int .u32 dst, .agg #[.int .i64 fr, .int .i64 to, .int .u32 sq, .int .u32 ak, .int .i64 fl, .int .i64 wn, .int .i64 ms, .string d]]) ?_ rfl ⟨src, dst, fr, to, sq, ak, fl, wn, ms, d, rfl, ⟨hsrc, hdst, hq.1, hq.2.1, hq.2.2.1⟩, since_stored HC.bel (Nat.le_refl _) (.int .i64 fr) (.int .i64 to) (.int .u32 sq) (.int .u32 ak) (.int .i64 fl) (.int .i64 wn) (.int .i64 ms) (.string d)⟩
  simp [results, go_sem, F.c0, F.c1, F.c2, F.c3, F.c4, F.c5, F.c6, F.c7]
end Go.Proofs.YtfohognpcipmaaaDoor
