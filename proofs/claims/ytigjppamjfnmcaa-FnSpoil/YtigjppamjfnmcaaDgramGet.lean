/-
  Two addresses and a segment as answers; contracts of impl's and spec's GetDatagram, at every text of at most 1048576 bytes.
-/
import Derived.Test.YtigjppamjfnmcaaDgram
import Derived.Test.YtigjppamjfnmcaaSegLaw
import Derived.Test.YtigjppamjfnmcaaPktLaw
namespace Go.Proofs.Ytigjppamjfnmcaa
open Go.ChangeShapes Go.WideShapes Go.ChangeAt Go.RowKit
set_option linter.unusedVariables false
set_option maxRecDepth 10000

/-- The zero answers. -/
def dgZero : Value := .tuple #[addrVal 0 0, addrVal 0 0, segZero, .bool false]

/-- The answers of a datagram that is one. -/
def dgGood (s : ByteArray) : Value := .tuple #[addrVal (wordAt s 12) (halfAt (s.extract 20 s.size) 0), addrVal (wordAt s 16) (halfAt (s.extract 20 s.size) 2), segRead (s.extract 20 s.size), .bool true]

/-- Whether a text is a datagram. -/
def isDg (s : ByteArray) : Prop := isPkt s ∧ byteAt s 9 = 6 ∧ isSeg (wordAt s 12) (wordAt s 16) (s.extract 20 s.size)

/-- What GetDatagram answers. -/
def getDgVal (ok : Bool) (s : ByteArray) : Value := if ok then dgGood s else dgZero

theorem dgStart (w : World) : Since w (((w.alloc (.cells #[.int .u32 0, .int .i64 0] 26)).alloc (.cells #[.int .u32 0, .int .i64 0] 26)).alloc (.cells #[.int .i64 0, .int .i64 0, .int .u32 0, .int .u32 0, .int .i64 0, .int .i64 0, .int .i64 0, .string ⟨#[]⟩] 28)) ∧ Rec2 w.heap.size (((w.alloc (.cells #[.int .u32 0, .int .i64 0] 26)).alloc (.cells #[.int .u32 0, .int .i64 0] 26)).alloc (.cells #[.int .i64 0, .int .i64 0, .int .u32 0, .int .u32 0, .int .i64 0, .int .i64 0, .int .i64 0, .string ⟨#[]⟩] 28)) (.int .u32 0) (.int .i64 0) ∧ Rec2 (w.heap.size + 1) (((w.alloc (.cells #[.int .u32 0, .int .i64 0] 26)).alloc (.cells #[.int .u32 0, .int .i64 0] 26)).alloc (.cells #[.int .i64 0, .int .i64 0, .int .u32 0, .int .u32 0, .int .i64 0, .int .i64 0, .int .i64 0, .string ⟨#[]⟩] 28)) (.int .u32 0) (.int .i64 0) ∧ Rec8 (w.heap.size + 1 + 1) (((w.alloc (.cells #[.int .u32 0, .int .i64 0] 26)).alloc (.cells #[.int .u32 0, .int .i64 0] 26)).alloc (.cells #[.int .i64 0, .int .i64 0, .int .u32 0, .int .u32 0, .int .i64 0, .int .i64 0, .int .i64 0, .string ⟨#[]⟩] 28)) (.int .i64 0) (.int .i64 0) (.int .u32 0) (.int .u32 0) (.int .i64 0) (.int .i64 0) (.int .i64 0) (.string ⟨#[]⟩) := by
  refine ⟨(((Since.refl _).alloc _).alloc _).alloc _, (Rec2.new w _ _ _).since (((Since.refl _).alloc _).alloc _), ?_, ?_⟩
  · have h := (Rec2.new (w.alloc (.cells #[.int .u32 0, .int .i64 0] 26)) (.int .u32 0) (.int .i64 0) 26).since ((Since.refl _).alloc (.cells #[.int .i64 0, .int .i64 0, .int .u32 0, .int .u32 0, .int .i64 0, .int .i64 0, .int .i64 0, .string ⟨#[]⟩] 28))
    rwa [World.size_alloc] at h
  · have h := Rec8.new ((w.alloc (.cells #[.int .u32 0, .int .i64 0] 26)).alloc (.cells #[.int .u32 0, .int .i64 0] 26)) (.int .i64 0) (.int .i64 0) (.int .u32 0) (.int .u32 0) (.int .i64 0) (.int .i64 0) (.int .i64 0) (.string ⟨#[]⟩) 28
    rwa [World.size_alloc, World.size_alloc] at h

set_option maxHeartbeats 4000000 in
theorem implGetDgAns (s : ByteArray) (hm : s.size ≤ 1048576) (ans : Value)
    (hans : (¬ isPkt s ∧ ans = dgZero) ∨ (isPkt s ∧ byteAt s 9 ≠ 6 ∧ ans = dgZero) ∨ (isPkt s ∧ byteAt s 9 = 6 ∧ ¬ isSeg (wordAt s 12) (wordAt s 16) (s.extract 20 s.size) ∧ ans = dgZero) ∨ (isPkt s ∧ byteAt s 9 = 6 ∧ isSeg (wordAt s 12) (wordAt s 16) (s.extract 20 s.size) ∧ ans = dgGood s)) (w : World) :
    Calls Try.prog 11 #[.string s] w fun e w' => e = .returned ans ∧ Since w w' := by
  have hn : ∀ (x : Bool) (w : World), (Op.unary .not (.bool x)).run Try.prog w = .ok (.bool (!x)) w := fun _ _ => rfl
  obtain ⟨HB, kA, kB, kS⟩ := dgStart w
  have hAB : w.heap.size ≠ w.heap.size + 1 := by omega
  have hAS : w.heap.size ≠ w.heap.size + 1 + 1 := by omega
  have hBS : w.heap.size + 1 ≠ w.heap.size + 1 + 1 := by omega
  have hl1 : w.heap.size ≤ w.heap.size + 1 := by omega
  have hl2 : w.heap.size ≤ w.heap.size + 1 + 1 := by omega
  rcases hans with ⟨h1, rfl⟩ | ⟨h1, h2, rfl⟩ | ⟨h1, h2, h3, rfl⟩ | ⟨h1, h2, h3, rfl⟩
  · have hp := fun wx => implGet s false (by simp [h1]) wx
    rw [show getVal false s = .tuple #[.agg #[.int .u32 0, .int .u32 0, .int .i64 0, .int .i64 0, .int .i64 0, .string ⟨#[]⟩], .bool false] from rfl] at hp
    clear h1 hm
    go_enter Try.func11, Try.ntmps11
    go_wp2_with (go_at_call 25; refine (hp _).mono ?_; rintro _ z ⟨rfl, g⟩; replace kA := kA.since g; replace kB := kB.since g; replace kS := kS.since g; replace HB := HB.trans g; have F := answered_ok kA kB kS hAB hAS hBS (.int .u32 0) (.int .i64 0) (.int .u32 0) (.int .i64 0) (.int .i64 0) (.int .i64 0) (.int .u32 0) (.int .u32 0) (.int .i64 0) (.int .i64 0) (.int .i64 0) (.string ⟨#[]⟩); have F := And.intro (F.1.since ((Since.refl _).alloc (.cells #[.int .u32 0, .int .u32 0, .int .i64 0, .int .i64 0, .int .i64 0, .string ⟨#[]⟩] 52))) (And.intro (F.2.1.since ((Since.refl _).alloc (.cells #[.int .u32 0, .int .u32 0, .int .i64 0, .int .i64 0, .int .i64 0, .string ⟨#[]⟩] 52))) (F.2.2.since ((Since.refl _).alloc (.cells #[.int .u32 0, .int .u32 0, .int .i64 0, .int .i64 0, .int .i64 0, .string ⟨#[]⟩] 52)))); obtain ⟨a0, a1, a2, a3⟩ := kA; obtain ⟨b0, b1, b2, b3⟩ := kB; obtain ⟨s0, s1, s2, s3, s4, s5, s6, s7, s8, s9⟩ := kS)
    unfold answered stored8 stored2 at F
    refine bodyPost_ret (v := dgZero) ?_ rfl ⟨rfl, (since_answered HB (Nat.le_refl _) hl1 hl2 (.int .u32 0) (.int .i64 0) (.int .u32 0) (.int .i64 0) (.int .i64 0) (.int .i64 0) (.int .u32 0) (.int .u32 0) (.int .i64 0) (.int .i64 0) (.int .i64 0) (.string ⟨#[]⟩)).alloc _⟩
    simp [results, go_sem, dgZero, addrVal, segZero, segVal, F.1.c0, F.1.c1, F.2.1.c0, F.2.1.c1, F.2.2.c0, F.2.2.c1, F.2.2.c2, F.2.2.c3, F.2.2.c4, F.2.2.c5, F.2.2.c6, F.2.2.c7]
  · have hp := fun wx => implGet s true (by simp [h1]) wx
    rw [show getVal true s = .tuple #[.agg #[.int .u32 (wordAt s 12), .int .u32 (wordAt s 16), .int .i64 (halfAt s 4), .int .i64 (byteAt s 8), .int .i64 (byteAt s 9), .string (s.extract 20 s.size)], .bool true] from rfl] at hp
    have h2b : (byteAt s 9 == 6) = false := by simp [h2]
    generalize wordAt s 12 = p0 at hp
    generalize wordAt s 16 = p1 at hp
    generalize halfAt s 4 = p2 at hp
    generalize byteAt s 8 = p3 at hp
    generalize s.extract 20 s.size = p5 at hp
    generalize byteAt s 9 = p4 at hp h2b
    clear h1 h2 hm
    go_enter Try.func11, Try.ntmps11
    go_wp2_with (go_at_call 25; refine (hp _).mono ?_; rintro _ z ⟨rfl, g⟩; replace kA := kA.since g; replace kB := kB.since g; replace kS := kS.since g; replace HB := HB.trans g; have F := answered_ok kA kB kS hAB hAS hBS (.int .u32 0) (.int .i64 0) (.int .u32 0) (.int .i64 0) (.int .i64 0) (.int .i64 0) (.int .u32 0) (.int .u32 0) (.int .i64 0) (.int .i64 0) (.int .i64 0) (.string ⟨#[]⟩); have F := And.intro (F.1.since ((Since.refl _).alloc (.cells #[.int .u32 p0, .int .u32 p1, .int .i64 p2, .int .i64 p3, .int .i64 p4, .string p5] 52))) (And.intro (F.2.1.since ((Since.refl _).alloc (.cells #[.int .u32 p0, .int .u32 p1, .int .i64 p2, .int .i64 p3, .int .i64 p4, .string p5] 52))) (F.2.2.since ((Since.refl _).alloc (.cells #[.int .u32 p0, .int .u32 p1, .int .i64 p2, .int .i64 p3, .int .i64 p4, .string p5] 52)))); obtain ⟨a0, a1, a2, a3⟩ := kA; obtain ⟨b0, b1, b2, b3⟩ := kB; obtain ⟨s0, s1, s2, s3, s4, s5, s6, s7, s8, s9⟩ := kS)
    unfold answered stored8 stored2 at F
    refine bodyPost_ret (v := dgZero) ?_ rfl ⟨rfl, (since_answered HB (Nat.le_refl _) hl1 hl2 (.int .u32 0) (.int .i64 0) (.int .u32 0) (.int .i64 0) (.int .i64 0) (.int .i64 0) (.int .u32 0) (.int .u32 0) (.int .i64 0) (.int .i64 0) (.int .i64 0) (.string ⟨#[]⟩)).alloc _⟩
    simp [results, go_sem, dgZero, addrVal, segZero, segVal, F.1.c0, F.1.c1, F.2.1.c0, F.2.1.c1, F.2.2.c0, F.2.2.c1, F.2.2.c2, F.2.2.c3, F.2.2.c4, F.2.2.c5, F.2.2.c6, F.2.2.c7]
  · have hp := fun wx => implGet s true (by simp [h1]) wx
    rw [show getVal true s = .tuple #[.agg #[.int .u32 (wordAt s 12), .int .u32 (wordAt s 16), .int .i64 (halfAt s 4), .int .i64 (byteAt s 8), .int .i64 (byteAt s 9), .string (s.extract 20 s.size)], .bool true] from rfl] at hp
    rw [h2] at hp
    have hg := fun wx => implGetSeg (wordAt s 12) (wordAt s 16) (s.extract 20 s.size) (word_range s 12) (word_range s 16) (by simp; omega) false (by simp [h3]) wx
    rw [show getSegVal false (s.extract 20 s.size) = .tuple #[.agg #[.int .i64 0, .int .i64 0, .int .u32 0, .int .u32 0, .int .i64 0, .int .i64 0, .int .i64 0, .string ⟨#[]⟩], .bool false] from rfl] at hg
    clear h3 h2
    generalize wordAt s 12 = p0 at hp hg
    generalize wordAt s 16 = p1 at hp hg
    generalize halfAt s 4 = p2 at hp
    generalize byteAt s 8 = p3 at hp
    generalize s.extract 20 s.size = p5 at hp hg
    clear h1 hm
    go_enter Try.func11, Try.ntmps11
    go_wp2_with (first | (go_at_call 25; refine (hp _).mono ?_; rintro _ z ⟨rfl, g⟩; replace kA := kA.since g; replace kB := kB.since g; replace kS := kS.since g; replace HB := HB.trans g) | (go_at_call 26; refine (hg _).mono ?_; rintro _ z2 ⟨rfl, g2⟩; replace kA := (kA.since ((Since.refl _).alloc _)).since g2; replace kB := (kB.since ((Since.refl _).alloc _)).since g2; replace kS := (kS.since ((Since.refl _).alloc _)).since g2; replace HB := (HB.alloc _).trans g2; have F := answered_ok kA kB kS hAB hAS hBS (.int .u32 0) (.int .i64 0) (.int .u32 0) (.int .i64 0) (.int .i64 0) (.int .i64 0) (.int .u32 0) (.int .u32 0) (.int .i64 0) (.int .i64 0) (.int .i64 0) (.string ⟨#[]⟩); have F := And.intro (F.1.since ((Since.refl _).alloc (.cells #[.int .i64 0, .int .i64 0, .int .u32 0, .int .u32 0, .int .i64 0, .int .i64 0, .int .i64 0, .string ⟨#[]⟩] 28))) (And.intro (F.2.1.since ((Since.refl _).alloc (.cells #[.int .i64 0, .int .i64 0, .int .u32 0, .int .u32 0, .int .i64 0, .int .i64 0, .int .i64 0, .string ⟨#[]⟩] 28))) (F.2.2.since ((Since.refl _).alloc (.cells #[.int .i64 0, .int .i64 0, .int .u32 0, .int .u32 0, .int .i64 0, .int .i64 0, .int .i64 0, .string ⟨#[]⟩] 28)))); obtain ⟨a0, a1, a2, a3⟩ := kA; obtain ⟨b0, b1, b2, b3⟩ := kB; obtain ⟨s0, s1, s2, s3, s4, s5, s6, s7, s8, s9⟩ := kS))
    unfold answered stored8 stored2 at F
    refine bodyPost_ret (v := dgZero) ?_ rfl ⟨rfl, (since_answered HB (Nat.le_refl _) hl1 hl2 (.int .u32 0) (.int .i64 0) (.int .u32 0) (.int .i64 0) (.int .i64 0) (.int .i64 0) (.int .u32 0) (.int .u32 0) (.int .i64 0) (.int .i64 0) (.int .i64 0) (.string ⟨#[]⟩)).alloc _⟩
    simp [results, go_sem, dgZero, addrVal, segZero, segVal, F.1.c0, F.1.c1, F.2.1.c0, F.2.1.c1, F.2.2.c0, F.2.2.c1, F.2.2.c2, F.2.2.c3, F.2.2.c4, F.2.2.c5, F.2.2.c6, F.2.2.c7]
  · have hp := fun wx => implGet s true (by simp [h1]) wx
    rw [show getVal true s = .tuple #[.agg #[.int .u32 (wordAt s 12), .int .u32 (wordAt s 16), .int .i64 (halfAt s 4), .int .i64 (byteAt s 8), .int .i64 (byteAt s 9), .string (s.extract 20 s.size)], .bool true] from rfl] at hp
    rw [h2] at hp
    have hg := fun wx => implGetSeg (wordAt s 12) (wordAt s 16) (s.extract 20 s.size) (word_range s 12) (word_range s 16) (by simp; omega) true (by simp [h3]) wx
    unfold dgGood
    rw [show getSegVal true (s.extract 20 s.size) = .tuple #[segRead (s.extract 20 s.size), .bool true] from rfl] at hg
    unfold segRead at hg ⊢
    clear h3 h2
    generalize wordAt s 12 = p0 at hp hg ⊢
    generalize wordAt s 16 = p1 at hp hg ⊢
    generalize halfAt s 4 = p2 at hp
    generalize byteAt s 8 = p3 at hp
    generalize s.extract 20 s.size = p5 at hp hg ⊢
    unfold segVal at hg ⊢
    generalize halfAt p5 0 = g0 at hg ⊢
    generalize halfAt p5 2 = g1 at hg ⊢
    generalize wordAt p5 4 = g2 at hg ⊢
    generalize wordAt p5 8 = g3 at hg ⊢
    generalize byteAt p5 13 = g4 at hg ⊢
    generalize halfAt p5 14 = g5 at hg ⊢
    generalize segMs p5 = g6 at hg ⊢
    generalize p5.extract (segAt p5) p5.size = g7 at hg ⊢
    unfold addrVal
    clear h1 hm
    go_enter Try.func11, Try.ntmps11
    go_wp2_with (first | (go_at_call 25; refine (hp _).mono ?_; rintro _ z ⟨rfl, g⟩; replace kA := kA.since g; replace kB := kB.since g; replace kS := kS.since g; replace HB := HB.trans g; have l1 := kA.lt; have l2 := kB.lt; have l3 := kS.lt; have gp := Since.refl (z.alloc (.cells #[.int .u32 p0, .int .u32 p1, .int .i64 p2, .int .i64 p3, .int .i64 6, .string p5] 52))) | (go_at_call 26; refine (hg _).mono ?_; rintro _ z2 ⟨rfl, g9⟩; replace gp := gp.trans g9; replace kA := (kA.since ((Since.refl _).alloc _)).since g9; replace kB := (kB.since ((Since.refl _).alloc _)).since g9; replace kS := (kS.since ((Since.refl _).alloc _)).since g9; replace HB := (HB.alloc _).trans g9; obtain ⟨P0, P1, P2, P3, P4, P5⟩ := kept6 gp))
    have l4 := gp.le
    rw [World.size_alloc] at l4
    have F := answered_ok kA kB kS hAB hAS hBS (.int .u32 p0) (.int .i64 g0) (.int .u32 p1) (.int .i64 g1) (.int .i64 g0) (.int .i64 g1) (.int .u32 g2) (.int .u32 g3) (.int .i64 g4) (.int .i64 g5) (.int .i64 g6) (.string g7)
    have F := And.intro (F.1.since (((Since.refl _).alloc (.cells #[.int .i64 g0, .int .i64 g1, .int .u32 g2, .int .u32 g3, .int .i64 g4, .int .i64 g5, .int .i64 g6, .string g7] 28)).drew)) (And.intro (F.2.1.since (((Since.refl _).alloc (.cells #[.int .i64 g0, .int .i64 g1, .int .u32 g2, .int .u32 g3, .int .i64 g4, .int .i64 g5, .int .i64 g6, .string g7] 28)).drew)) (F.2.2.since (((Since.refl _).alloc (.cells #[.int .i64 g0, .int .i64 g1, .int .u32 g2, .int .u32 g3, .int .i64 g4, .int .i64 g5, .int .i64 g6, .string g7] 28)).drew)))
    unfold answered stored8 stored2 at F
    obtain ⟨a0, a1, a2, a3⟩ := kA
    obtain ⟨b0, b1, b2, b3⟩ := kB
    obtain ⟨s0, s1, s2, s3, s4, s5, s6, s7, s8, s9⟩ := kS
    have q1 : ¬ z.heap.size = w.heap.size := by omega
    have q2 : ¬ z.heap.size = w.heap.size + 1 := by omega
    have q3 : ¬ z.heap.size = w.heap.size + 1 + 1 := by omega
    have q4 : ¬ z2.heap.size = w.heap.size := by omega
    have q5 : ¬ z2.heap.size = w.heap.size + 1 := by omega
    have q6 : ¬ z2.heap.size = w.heap.size + 1 + 1 := by omega
    have q7 : z.heap.size < z2.heap.size := by omega
    have q8 : ¬ z.heap.size = z2.heap.size := by omega
    have F' := F
    clear F gp l1 l2 l3 l4
    go_region
    go_wp2
    refine bodyPost_ret (v := .tuple #[.agg #[.int .u32 p0, .int .i64 g0], .agg #[.int .u32 p1, .int .i64 g1], .agg #[.int .i64 g0, .int .i64 g1, .int .u32 g2, .int .u32 g3, .int .i64 g4, .int .i64 g5, .int .i64 g6, .string g7], .bool true]) ?_ rfl ⟨rfl, ((since_answered HB (Nat.le_refl _) hl1 hl2 (.int .u32 p0) (.int .i64 g0) (.int .u32 p1) (.int .i64 g1) (.int .i64 g0) (.int .i64 g1) (.int .u32 g2) (.int .u32 g3) (.int .i64 g4) (.int .i64 g5) (.int .i64 g6) (.string g7)).alloc _).drew⟩
    simp [results, go_sem, F'.1.c0, F'.1.c1, F'.2.1.c0, F'.2.1.c1, F'.2.2.c0, F'.2.2.c1, F'.2.2.c2, F'.2.2.c3, F'.2.2.c4, F'.2.2.c5, F'.2.2.c6, F'.2.2.c7]

end Go.Proofs.Ytigjppamjfnmcaa
