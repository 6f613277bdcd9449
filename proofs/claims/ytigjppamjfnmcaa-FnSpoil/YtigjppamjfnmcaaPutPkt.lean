/-
  Contracts of impl's PutPacket, at every packet.
-/
import Derived.Test.YtigjppamjfnmcaaM3
import Derived.Test.YtigjppamjfnmcaaCalm
namespace Go.Proofs.Ytigjppamjfnmcaa
open Go.ChangeShapes Go.WideShapes Go.ChangeAt Go.RowKit
set_option linter.unusedVariables false
set_option maxRecDepth 10000

theorem sumOfHeader (a b : ByteArray) (ha : a.size ≤ 1000) (hb : b.size ≤ 1000) (w : World) :
    Calls Try.prog 46 #[.string a, .string b] w fun e w' => e = .returned (.int .i64 (checksum (a ++ two 0 ++ b))) ∧ Since w w' := by
  have t1 := fun wx => halfText 0 wx
  have z1 := two_size 0
  generalize two 0 = z at t1 z1 ⊢
  have a1 := fun wx => addS a z (by omega) wx
  have a2 := fun wx => addS (a ++ z) b (by simp only [ByteArray.size_append]; omega) wx
  have ho := fun wx => implChecksum (a ++ z ++ b) wx
  generalize checksum (a ++ z ++ b) = o at ho ⊢
  go_enter Try.func46, Try.ntmps46
  go_wp2_with (first | (go_at_call 42; refine (t1 _).mono ?_; rintro _ w1 ⟨rfl, g1⟩) | (go_at_call 66; refine (ho _).mono ?_; rintro _ w2 ⟨rfl, g2⟩))
  go_ret
  exact ⟨rfl, Since.trans g1 g2⟩

/-- The first ten bytes of a header. -/
def aheadOf (id ttl proto : Int) (n : Int) : ByteArray := two 17664 ++ two (20 + n) ++ two id ++ two 16384 ++ two (ttl * 256 + proto)

theorem aheadOf_size (id ttl proto n : Int) : (aheadOf id ttl proto n).size = 10 := by
  simp only [aheadOf, ByteArray.size_append, two_size]

/-- Its last eight. -/
def behindOf (src dst : Int) : ByteArray := wordT src ++ wordT dst

theorem behindOf_size (src dst : Int) : (behindOf src dst).size = 8 := by
  simp only [behindOf, ByteArray.size_append, wordT_size]

/-- The bytes of a packet. -/
def putOf (src dst id ttl proto : Int) (d : ByteArray) : ByteArray :=
  if pktOk id ttl proto d = true then aheadOf id ttl proto d.size ++ two (checksum (aheadOf id ttl proto d.size ++ two 0 ++ behindOf src dst)) ++ behindOf src dst ++ d else ⟨#[]⟩

theorem or_ttl (x y : Int) (hx : 0 ≤ x ∧ x ≤ 255) (hy : 0 ≤ y ∧ y ≤ 255) : bits .or .i64 (x * 256) y = x * 256 + y := by
  exact bits_join .i64 32 (by decide) (fun n h2 h3 => by rw [IntWalk.i64_left]; exact IntWalk.wrap64_in _ ⟨by omega, by omega⟩) 8 (x * 256) y (by omega) (by omega) (by omega) (by omega) (by omega) (by omega)

set_option maxHeartbeats 2000000 in
theorem implPutPacket (src dst id ttl proto : Int) (d : ByteArray) (hs : IsWord src) (hd : IsWord dst) (w : World) :
    Calls Try.prog 20 #[pktVal src dst id ttl proto d] w fun e w' => e = .returned (.string (putOf src dst id ttl proto d)) ∧ Since w w' := by
  have hok := fun wx => implPacketOk src dst id ttl proto d wx
  have hn : ∀ (x : Bool) (w : World), (Op.unary .not (.bool x)).run Try.prog w = .ok (.bool (!x)) w := fun _ _ => rfl
  unfold pktVal at hok ⊢
  have G := Since.refl (w.alloc (.cells #[.int .u32 src, .int .u32 dst, .int .i64 id, .int .i64 ttl, .int .i64 proto, .string d] 52))
  by_cases h : pktOk id ttl proto d = true
  · rw [putOf, if_pos h]
    rw [h] at hok
    simp only [pktOk, Bool.and_eq_true, decide_eq_true_eq] at h
    obtain ⟨⟨i0, i1⟩, ⟨l0, l1⟩, ⟨p0, p1⟩, hz⟩ := h
    have z1 := wordT_size src
    have z2 := wordT_size dst
    have q1 : ∀ wx, Calls Try.prog 43 #[.int .u32 src] wx fun e w' => e = .returned (.string (wordT src)) ∧ Since wx w' := fun wx => (implPutWord src hs.1 hs.2 wx).mono fun _ _ ⟨h1, h2⟩ => ⟨h1, Since.of h2⟩
    have q2 : ∀ wx, Calls Try.prog 43 #[.int .u32 dst] wx fun e w' => e = .returned (.string (wordT dst)) ∧ Since wx w' := fun wx => (implPutWord dst hd.1 hd.2 wx).mono fun _ _ ⟨h1, h2⟩ => ⟨h1, Since.of h2⟩
    have hor := or_ttl ttl proto ⟨l0, l1⟩ ⟨p0, p1⟩
    have a1 := fun wx => addS (two 17664) (two (20 + (d.size : Int))) (by simp only [two_size]; omega) wx
    have a2 := fun wx => addS (two 17664 ++ two (20 + (d.size : Int))) (two id) (by simp only [ByteArray.size_append, two_size]; omega) wx
    have a3 := fun wx => addS (two 17664 ++ two (20 + (d.size : Int)) ++ two id) (two 16384) (by simp only [ByteArray.size_append, two_size]; omega) wx
    have a4 := fun wx => addS (two 17664 ++ two (20 + (d.size : Int)) ++ two id ++ two 16384) (two (ttl * 256 + proto)) (by simp only [ByteArray.size_append, two_size]; omega) wx
    have a5 := fun wx => addS (wordT src) (wordT dst) (by omega) wx
    go_enter Try.func20, Try.ntmps20
    go_wp2_with (first | (go_at_call 45; refine (hok _).mono ?_; rintro _ w1 ⟨rfl, g1⟩; replace G := Since.trans G g1))
    obtain ⟨wb, hwb⟩ : ∃ wb, w.alloc (.cells #[.int .u32 src, .int .u32 dst, .int .i64 id, .int .i64 ttl, .int .i64 proto, .string d] 52) = wb := ⟨_, rfl⟩
    have hk : ∀ x : Later wb, Since (w.alloc (.cells #[.int .u32 src, .int .u32 dst, .int .i64 id, .int .i64 ttl, .int .i64 proto, .string d] 52)) x.val := fun x => by rw [hwb]; exact x.ok
    rw [hwb] at G
    have C0 : ∀ x : Later wb, x.val.cell? ⟨w.heap.size, 0, none⟩ = some (.int .u32 src) := fun x => (kept6 (w := w) (hk x)).1
    have C1 : ∀ x : Later wb, x.val.cell? ⟨w.heap.size, 1, none⟩ = some (.int .u32 dst) := fun x => (kept6 (w := w) (hk x)).2.1
    have C2 : ∀ x : Later wb, x.val.cell? ⟨w.heap.size, 2, none⟩ = some (.int .i64 id) := fun x => (kept6 (w := w) (hk x)).2.2.1
    have C3 : ∀ x : Later wb, x.val.cell? ⟨w.heap.size, 3, none⟩ = some (.int .i64 ttl) := fun x => (kept6 (w := w) (hk x)).2.2.2.1
    have C4 : ∀ x : Later wb, x.val.cell? ⟨w.heap.size, 4, none⟩ = some (.int .i64 proto) := fun x => (kept6 (w := w) (hk x)).2.2.2.2.1
    have C5 : ∀ x : Later wb, x.val.cell? ⟨w.heap.size, 5, none⟩ = some (.string d) := fun x => (kept6 (w := w) (hk x)).2.2.2.2.2
    have HB : Since w wb := by rw [← hwb]; exact (Since.refl _).alloc _
    clear hok hwb hk
    refine wp_region_calm (wb := wb) (by kernel_rfl) (by kernel_rfl) G ?_
    have hc : ∀ n (x : Later wb), Calls Try.prog 42 #[.int .i64 n] x.val fun e w'' => e = .returned (.string (two n)) ∧ ∃ y : Later wb, w'' = y.val := fun n x => calm_call (halfText n x.val)
    have hne : Nonempty (Later wb) := ⟨⟨wb, Since.refl _⟩⟩
    repeat (go_big_quiet_step (exact hc _ _))
    refine wpQuiet_nil ?_
    rintro _ ⟨x1, rfl⟩
    go_wp2
    have hq1 : ∀ (x : Later wb), Calls Try.prog 43 #[.int .u32 src] x.val fun e w'' => e = .returned (.string (wordT src)) ∧ ∃ y : Later wb, w'' = y.val := fun x => calm_call (q1 x.val)
    have hq2 : ∀ (x : Later wb), Calls Try.prog 43 #[.int .u32 dst] x.val fun e w'' => e = .returned (.string (wordT dst)) ∧ ∃ y : Later wb, w'' = y.val := fun x => calm_call (q2 x.val)
    refine wp_region_calm (wb := wb) (by kernel_rfl) (by kernel_rfl) x1.ok ?_
    repeat (go_big_quiet_step (first | exact hq1 _ | exact hq2 _))
    refine wpQuiet_nil ?_
    rintro _ ⟨x2, rfl⟩
    go_wp2
    have e1 := aheadOf_size id ttl proto (d.size : Int)
    have e2 := behindOf_size src dst
    rw [show two 17664 ++ two (20 + (d.size : Int)) ++ two id ++ two 16384 ++ two (ttl * 256 + proto) = aheadOf id ttl proto (d.size : Int) from rfl, show wordT src ++ wordT dst = behindOf src dst from rfl]
    generalize hA : aheadOf id ttl proto (d.size : Int) = A at e1 ⊢
    generalize hB : behindOf src dst = B at e2 ⊢
    have hs1 : ∀ (x : Later wb), Calls Try.prog 46 #[.string A, .string B] x.val fun e w'' => e = .returned (.int .i64 (checksum (A ++ two 0 ++ B))) ∧ ∃ y : Later wb, w'' = y.val := fun x => calm_call (sumOfHeader A B (by omega) (by omega) x.val)
    generalize hk : checksum (A ++ two 0 ++ B) = k at hs1 ⊢
    have b1 := fun wx => addS A (two k) (by simp only [two_size]; omega) wx
    have b2 := fun wx => addS (A ++ two k) B (by simp only [ByteArray.size_append, two_size]; omega) wx
    have b3 := fun wx => addS (A ++ two k ++ B) d (by simp only [ByteArray.size_append, two_size]; omega) wx
    refine wp_region_calm (wb := wb) (by kernel_rfl) (by kernel_rfl) x2.ok ?_
    repeat (go_big_quiet_step (first | exact hs1 _ | exact hc _ _))
    refine wpQuiet_nil ?_
    rintro _ ⟨x3, rfl⟩
    go_wp2
    go_ret
    refine ⟨?_, HB.trans x3.ok⟩
    subst hk hA hB
    rfl
  · rw [putOf, if_neg h]
    rw [show pktOk id ttl proto d = false by simpa using h] at hok
    clear h
    go_enter Try.func20, Try.ntmps20
    go_wp2_with (first | (go_at_call 45; refine (hok _).mono ?_; rintro _ w1 ⟨rfl, g1⟩; replace G := Since.trans G g1))
    go_ret
    exact ⟨rfl, ((Since.refl _).alloc _).trans G⟩
end Go.Proofs.Ytigjppamjfnmcaa
