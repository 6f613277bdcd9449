/-
  Contract of spec's PutPacket, at every packet.
-/
import Derived.Test.YtigjppamjfnmcaaPutPkt
import Derived.Test.YtigjppamjfnmcaaM4
import Derived.Test.YtigjppamjfnmcaaBytes
namespace Go.Proofs.Ytigjppamjfnmcaa
open Go.ChangeShapes Go.WideShapes Go.ChangeAt Go.RowKit
set_option linter.unusedVariables false
set_option maxRecDepth 10000

theorem two_pair (ttl proto : Int) (h : 0 ≤ ttl ∧ ttl ≤ 255) (k : 0 ≤ proto ∧ proto ≤ 255) : strOfNums [64, 0, ttl, proto] = two 16384 ++ two (ttl * 256 + proto) := by
  have e1 : (ttl * 256 + proto) / 256 % 256 = ttl := by omega
  have e2 : (ttl * 256 + proto) % 256 = proto := by omega
  unfold two
  rw [e1, e2]
  rfl

theorem checksum_range (s : ByteArray) (h : s.size ≤ 2000) : 0 ≤ checksum s ∧ checksum s ≤ 65535 := by
  have h1 := ones_range s
  have h2 := ones_neg s
  rw [checksum, if_neg (by omega)]
  omega

set_option maxHeartbeats 2000000 in
theorem specPutPacket (src dst id ttl proto : Int) (d : ByteArray) (hs : IsWord src) (hd : IsWord dst) (w : World) :
    Calls Try.prog 18 #[pktVal src dst id ttl proto d] w fun e w' => e = .returned (.string (putOf src dst id ttl proto d)) ∧ Since w w' := by
  have hok := fun wx => specPacketOk src dst id ttl proto d wx
  have hn : ∀ (x : Bool) (w : World), (Op.unary .not (.bool x)).run Try.prog w = .ok (.bool (!x)) w := fun _ _ => rfl
  unfold pktVal at hok ⊢
  have G := Since.refl (w.alloc (.cells #[.int .u32 src, .int .u32 dst, .int .i64 id, .int .i64 ttl, .int .i64 proto, .string d] 52))
  by_cases h : pktOk id ttl proto d = true
  · rw [putOf, if_pos h]
    rw [h] at hok
    simp only [pktOk, Bool.and_eq_true, decide_eq_true_eq] at h
    obtain ⟨⟨i0, i1⟩, ⟨l0, l1⟩, ⟨p0, p1⟩, hz⟩ := h
    go_enter Try.func18, Try.ntmps18
    go_wp2_with (first | (go_at_call 39; refine (hok _).mono ?_; rintro _ w1 ⟨rfl, g1⟩; replace G := Since.trans G g1))
    obtain ⟨wb, hwb⟩ : ∃ wb, w.alloc (.cells #[.int .u32 src, .int .u32 dst, .int .i64 id, .int .i64 ttl, .int .i64 proto, .string d] 52) = wb := ⟨_, rfl⟩
    have HB : Since w wb := by rw [← hwb]; exact (Since.refl _).alloc _
    have hk : ∀ x, Since wb x → Since (w.alloc (.cells #[.int .u32 src, .int .u32 dst, .int .i64 id, .int .i64 ttl, .int .i64 proto, .string d] 52)) x := fun x h => by rw [hwb]; exact h
    rw [hwb] at G
    clear hok hwb
    have C : ∀ x, Since wb x → x.cell? ⟨w.heap.size, 2, none⟩ = some (.int .i64 id) ∧ x.cell? ⟨w.heap.size, 3, none⟩ = some (.int .i64 ttl) ∧ x.cell? ⟨w.heap.size, 4, none⟩ = some (.int .i64 proto) ∧ x.cell? ⟨w.heap.size, 5, none⟩ = some (.string d) := fun x h => (kept6 (w := w) (hk x h)).2.2
    have a1 := fun wx => addS (strOfNums [69, 0]) (two (20 + (d.size : Int))) (by simp only [strOfNums_size, two_size]; simp) wx
    have a2 := fun wx => addS (strOfNums [69, 0] ++ two (20 + (d.size : Int))) (two id) (by simp only [ByteArray.size_append, strOfNums_size, two_size]; simp) wx
    have a3 := fun wx => addS (strOfNums [69, 0] ++ two (20 + (d.size : Int)) ++ two id) (strOfNums [64, 0, ttl, proto]) (by simp only [ByteArray.size_append, strOfNums_size, two_size]; simp) wx
    have m3 : IntKind.i64.wrap (20 + (d.size : Int)) = 20 + (d.size : Int) := by rw [IntWalk.i64_left]; exact IntWalk.wrap64_in _ ⟨by omega, by omega⟩
    have m4 : IntKind.u8.wrap ttl = ttl := by rw [IntKind.wrap_u8]; omega
    have m5 : IntKind.u8.wrap proto = proto := by rw [IntKind.wrap_u8]; omega
    refine wp_region_each (wb := wb) (fun i x v => match i with
      | 0 => bytesAt x [69, 0] v
      | 1 => v = .string (strOfNums [69, 0])
      | 2 => v = .pointer (some ⟨w.heap.size, 5, none⟩)
      | 3 => v = .string d
      | 4 => v = .int .i64 (d.size : Int)
      | 5 => v = .int .i64 (20 + (d.size : Int))
      | 6 => v = .string (two (20 + (d.size : Int)))
      | 7 => v = .string (strOfNums [69, 0] ++ two (20 + (d.size : Int)))
      | 8 => v = .pointer (some ⟨w.heap.size, 2, none⟩)
      | 9 => v = .int .i64 id
      | 10 => v = .string (two id)
      | 11 => v = .string (strOfNums [69, 0] ++ two (20 + (d.size : Int)) ++ two id)
      | 12 => v = .pointer (some ⟨w.heap.size, 3, none⟩)
      | 13 => v = .int .i64 ttl
      | 14 => v = .int .u8 ttl
      | 15 => v = .pointer (some ⟨w.heap.size, 4, none⟩)
      | 16 => v = .int .i64 proto
      | 17 => v = .int .u8 proto
      | 18 => bytesAt x [64, 0, ttl, proto] v
      | 19 => v = .string (strOfNums [64, 0, ttl, proto])
      | 20 => v = .string (strOfNums [69, 0] ++ two (20 + (d.size : Int)) ++ two id ++ strOfNums [64, 0, ttl, proto])
      | 21 => v = .string (strOfNums [69, 0] ++ two (20 + (d.size : Int)) ++ two id ++ strOfNums [64, 0, ttl, proto])
      | _ => True) (fun v => { tmps := #[.agg #[.int .u32 src, .int .u32 dst, .int .i64 id, .int .i64 ttl, .int .i64 proto, .string d], .pointer (some ⟨w.heap.size, 0, none⟩), .string ⟨#[]⟩, v 21, undef, undef, .agg #[.int .u32 src, .int .u32 dst, .int .i64 id, .int .i64 ttl, .int .i64 proto, .string d], .bool true, .bool false, v 0, v 1, v 2, v 3, v 4, v 5, v 6, v 7, v 8, v 9, v 10, v 11, v 12, v 13, v 14, v 15, v 16, v 17, v 18, v 19, v 20, undef, undef, undef, undef, undef, undef, undef, undef, undef, undef, undef, undef, undef, undef, undef, undef, undef, undef, undef, undef, undef, undef], defers := [] }) (by kernel_rfl) (by kernel_rfl) G ?_ (fun vals => by kernel_rfl) ?_ ?_
    case refine_1 =>
      intro j x x' v h1 h2
      match j, h2 with
      | 0, h2 => exact bytesAt_since h1 h2
      | 18, h2 => exact bytesAt_since h1 h2
      | 1, h2 | 2, h2 | 3, h2 | 4, h2 | 5, h2 | 6, h2 | 7, h2 | 8, h2 | 9, h2 | 10, h2 | 11, h2 | 12, h2 | 13, h2 | 14, h2 | 15, h2 | 16, h2 | 17, h2 | 19, h2 | 20, h2 | 21, h2 => exact h2
      | n + 22, _ => trivial
    case refine_2 =>
      repeat (first | exact eachDoes_nil | refine eachDoes_cons ?_ ?_)
      all_goals intro vals x hx hv
      all_goals obtain ⟨C2, C3, C4, C5⟩ := C x hx
      all_goals simp [Region.binds] at hv
      all_goals first
        | (simp [does, doesUpon, go_sem, hv, C2, C3, C4, C5, Since.refl, a1, a2, a3, m3, m4, m5]; done)
        | (have ht := bytesAt_text hv; simp [does, doesUpon, go_sem, ht, Since.refl]; done)
        | (simp [does, doesUpon, go_sem, hv]; exact ⟨(Since.refl _).alloc _, by first | exact bytesAt_new2 _ _ _ _ | exact bytesAt_new4 _ _ _ _ _ _⟩)
        | (simp [does, doesUpon, go_sem, hv]; refine (specTwo _ (by omega) (by omega) _).mono ?_; rintro _ x' ⟨rfl, h1⟩; simp [h1]; done)
    case refine_3 =>
      intro vals x hx hv
      clear C a1 a2 a3 m3 m4 m5
      have h1 : vals 1 = _ := hv 1 (by decide)
      have h2 : vals 2 = _ := hv 2 (by decide)
      have h3 : vals 3 = _ := hv 3 (by decide)
      have h4 : vals 4 = _ := hv 4 (by decide)
      have h5 : vals 5 = _ := hv 5 (by decide)
      have h6 : vals 6 = _ := hv 6 (by decide)
      have h7 : vals 7 = _ := hv 7 (by decide)
      have h8 : vals 8 = _ := hv 8 (by decide)
      have h9 : vals 9 = _ := hv 9 (by decide)
      have h10 : vals 10 = _ := hv 10 (by decide)
      have h11 : vals 11 = _ := hv 11 (by decide)
      have h12 : vals 12 = _ := hv 12 (by decide)
      have h13 : vals 13 = _ := hv 13 (by decide)
      have h14 : vals 14 = _ := hv 14 (by decide)
      have h15 : vals 15 = _ := hv 15 (by decide)
      have h16 : vals 16 = _ := hv 16 (by decide)
      have h17 : vals 17 = _ := hv 17 (by decide)
      have h19 : vals 19 = _ := hv 19 (by decide)
      have h20 : vals 20 = _ := hv 20 (by decide)
      have h21 : vals 21 = _ := hv 21 (by decide)
      clear hv
      dsimp only
      simp only [h1, h2, h3, h4, h5, h6, h7, h8, h9, h10, h11, h12, h13, h14, h15, h16, h17, h19, h20, h21]
      clear h1 h2 h3 h4 h5 h6 h7 h8 h9 h10 h11 h12 h13 h14 h15 h16 h17 h19 h20 h21
      have eH : strOfNums [69, 0] ++ two (20 + (d.size : Int)) ++ two id ++ strOfNums [64, 0, ttl, proto] = aheadOf id ttl proto (d.size : Int) := by
        rw [two_pair ttl proto ⟨l0, l1⟩ ⟨p0, p1⟩, ← ByteArray.append_assoc]
        rfl
      rw [eH]
      clear eH
      go_wp2
      have hne : Nonempty (Later wb) := ⟨⟨wb, Since.refl _⟩⟩
      have C0 : ∀ x : Later wb, x.val.cell? ⟨w.heap.size, 0, none⟩ = some (.int .u32 src) := fun x => (kept6 (w := w) (hk _ x.ok)).1
      have C1 : ∀ x : Later wb, x.val.cell? ⟨w.heap.size, 1, none⟩ = some (.int .u32 dst) := fun x => (kept6 (w := w) (hk _ x.ok)).2.1
      have C5 : ∀ x : Later wb, x.val.cell? ⟨w.heap.size, 5, none⟩ = some (.string d) := fun x => (kept6 (w := w) (hk _ x.ok)).2.2.2.2.2
      have hq : ∀ n (x : Later wb), IsWord n → Calls Try.prog 35 #[.int .u32 n] x.val fun e w'' => e = .returned (.string (wordT n)) ∧ ∃ y : Later wb, w'' = y.val := fun n x hn => calm_call ((specPutWord n hn.1 hn.2 x.val).mono fun _ _ ⟨h1, h2⟩ => ⟨h1, Since.of h2⟩)
      have a5 := fun wx => addS (wordT src) (wordT dst) (by simp only [wordT_size]; omega) wx
      clear hk
      refine wp_region_calm (wb := wb) (by kernel_rfl) (by kernel_rfl) hx ?_
      repeat (go_big_quiet_step ((refine hq _ _ ?_; assumption)))
      refine wpQuiet_nil ?_
      rintro _ ⟨x2, rfl⟩
      clear hq a5
      have e1 := aheadOf_size id ttl proto (d.size : Int)
      have e2 := behindOf_size src dst
      rw [show wordT src ++ wordT dst = behindOf src dst from rfl]
      generalize hA : aheadOf id ttl proto (d.size : Int) = A at e1 ⊢
      generalize hB : behindOf src dst = B at e2 ⊢
      have t0 := fun wx => specTwo 0 (by omega) (by omega) wx
      have b1 := fun wx => addS A (two 0) (by simp only [two_size]; omega) wx
      have b2 := fun wx => addS (A ++ two 0) B (by simp only [ByteArray.size_append, two_size]; omega) wx
      have hck := fun wx => specChecksum (A ++ two 0 ++ B) (by simp only [ByteArray.size_append, two_size]; omega) wx
      have hr : 0 ≤ checksum (A ++ two 0 ++ B) ∧ checksum (A ++ two 0 ++ B) ≤ 65535 := checksum_range _ (by simp only [ByteArray.size_append, two_size]; omega)
      generalize hk : checksum (A ++ two 0 ++ B) = k at hck hr ⊢
      go_wp2_with (first | (go_at_call 34; refine (t0 _).mono ?_; clear t0; rintro _ x3 ⟨rfl, g3⟩) | (go_at_call 40; refine (hck _).mono ?_; clear hck; rintro _ _ ⟨rfl, rfl⟩))
      have hc : ∀ (x : Later wb), Calls Try.prog 34 #[.int .i64 k] x.val fun e w'' => e = .returned (.string (two k)) ∧ ∃ y : Later wb, w'' = y.val := fun x => calm_call (specTwo k hr.1 hr.2 x.val)
      have b3 := fun wx => addS A (two k) (by simp only [two_size]; omega) wx
      have b4 := fun wx => addS (A ++ two k) B (by simp only [ByteArray.size_append, two_size]; omega) wx
      have b5 := fun wx => addS (A ++ two k ++ B) d (by simp only [ByteArray.size_append, two_size]; omega) wx
      refine wp_region_calm (wb := wb) (by kernel_rfl) (by kernel_rfl) (x2.ok.trans g3) ?_
      repeat (go_big_quiet_step (exact hc _))
      refine wpQuiet_nil ?_
      rintro _ ⟨x4, rfl⟩
      go_wp2
      go_ret
      refine ⟨?_, HB.trans x4.ok⟩
      subst hk hA hB
      rfl
  · rw [putOf, if_neg h]
    rw [show pktOk id ttl proto d = false by simpa using h] at hok
    clear h
    go_enter Try.func18, Try.ntmps18
    go_wp2_with (first | (go_at_call 39; refine (hok _).mono ?_; rintro _ w1 ⟨rfl, g1⟩; replace G := Since.trans G g1))
    go_ret
    exact ⟨rfl, ((Since.refl _).alloc _).trans G⟩
end Go.Proofs.Ytigjppamjfnmcaa
