/-
  Contract of impl's GetSeg, at every text of at most 1048576 bytes.
-/
import Derived.Test.YtigjppamjfnmcaaReadSeg
import Derived.Test.YtigjppamjfnmcaaPutSegI
import Derived.Test.YtigjppamjfnmcaaPktFacts
import Derived.Test.YtigjppamjfnmcaaShows
namespace Go.Proofs.Ytigjppamjfnmcaa
open Go.ChangeShapes Go.WideShapes Go.ChangeAt Go.RowKit
set_option linter.unusedVariables false
set_option maxRecDepth 10000

/-- The bytes of the segment that a text's fields tell. -/
def segBack (src dst : Int) (s : ByteArray) : ByteArray := putSeg src dst (halfAt s 0) (halfAt s 2) (wordAt s 4) (wordAt s 8) (byteAt s 13) (halfAt s 14) (segMs s) (s.extract (segAt s) s.size)

/-- Whether a text is a segment between two hosts. -/
def isSeg (src dst : Int) (s : ByteArray) : Prop := (20 ≤ s.size ∧ segAt s ≤ s.size) ∧ segBack src dst s = s

/-- What GetSeg answers. -/
def getSegVal (ok : Bool) (s : ByteArray) : Value := .tuple #[if ok then segRead s else segZero, .bool ok]

theorem byte_int (s : ByteArray) (i : Nat) : IsInt (byteAt s i) := by
  have := byteAt_range s i
  unfold IsInt
  omega

set_option maxHeartbeats 2000000 in
theorem implGetSegAns (src dst : Int) (s : ByteArray) (hs : IsWord src) (hd : IsWord dst) (hm : s.size ≤ 1048576) (ans : Value)
    (hans : (¬ segAt s ≤ s.size ∧ ans = .tuple #[segZero, .bool false]) ∨ (segAt s ≤ s.size ∧ segBack src dst s ≠ s ∧ ans = .tuple #[segZero, .bool false]) ∨ (segAt s ≤ s.size ∧ segBack src dst s = s ∧ ans = .tuple #[segRead s, .bool true])) (w : World) :
    Calls Try.prog 26 #[.int .u32 src, .int .u32 dst, .string s] w fun e w' => e = .returned ans ∧ Since w w' := by
  have hn : ∀ (x : Bool) (w : World), (Op.unary .not (.bool x)).run Try.prog w = .ok (.bool (!x)) w := fun _ _ => rfl
  have hrd := fun wx => readSeg s hm wx
  have R := Rec8.new w (.int .i64 0) (.int .i64 0) (.int .u32 0) (.int .u32 0) (.int .i64 0) (.int .i64 0) (.int .i64 0) (.string ⟨#[]⟩) 28
  have HB : Since w (w.alloc (.cells #[.int .i64 0, .int .i64 0, .int .u32 0, .int .u32 0, .int .i64 0, .int .i64 0, .int .i64 0, .string ⟨#[]⟩] 28)) := (Since.refl _).alloc _
  rcases hans with ⟨h1, rfl⟩ | ⟨h1, h2, rfl⟩ | ⟨h1, h2, rfl⟩
  · rw [readSegAns, if_neg h1, decide_eq_false h1] at hrd
    unfold segZero segVal at hrd
    go_enter Try.func26, Try.ntmps26
    go_wp2_with (go_at_call 55; refine (hrd _).mono ?_; rintro _ z ⟨rfl, g⟩; replace R := R.since g; replace HB := HB.trans g; have R' := R; obtain ⟨r0, r1, r2, r3, r4, r5, r6, r7, r8, r9⟩ := R)
    refine bodyPost_ret (v := .tuple #[segZero, .bool false]) ?_ rfl ⟨rfl, (since_stored HB (Nat.le_refl _) _ _ _ _ _ _ _ _).alloc _⟩
    have F := (R'.stored (.int .i64 0) (.int .i64 0) (.int .u32 0) (.int .u32 0) (.int .i64 0) (.int .i64 0) (.int .i64 0) (.string ⟨#[]⟩)).since ((Since.refl _).alloc (.cells #[.int .i64 0, .int .i64 0, .int .u32 0, .int .u32 0, .int .i64 0, .int .i64 0, .int .i64 0, .string ⟨#[]⟩] 28))
    unfold stored8 at F
    simp [results, go_sem, segZero, segVal, F.c0, F.c1, F.c2, F.c3, F.c4, F.c5, F.c6, F.c7]
  · rw [readSegAns, if_pos h1, decide_eq_true h1] at hrd
    have hput := fun wx => implPutSeg src dst (halfAt s 0) (halfAt s 2) (wordAt s 4) (wordAt s 8) (byteAt s 13) (halfAt s 14) (segMs s) (s.extract (segAt s) s.size) hs hd (word_range s 4) (word_range s 8) (byte_int s 13) wx
    unfold segRead segVal at hrd
    unfold segVal at hput
    rw [show putSeg src dst (halfAt s 0) (halfAt s 2) (wordAt s 4) (wordAt s 8) (byteAt s 13) (halfAt s 14) (segMs s) (s.extract (segAt s) s.size) = segBack src dst s from rfl] at hput
    have hts : ((segBack src dst s).toList == s.toList) = false := texts_differ h2
    generalize segBack src dst s = t at hput hts
    clear h1 h2
    generalize halfAt s 0 = f0 at hrd hput
    generalize halfAt s 2 = f1 at hrd hput
    generalize wordAt s 4 = f2 at hrd hput
    generalize wordAt s 8 = f3 at hrd hput
    generalize byteAt s 13 = f4 at hrd hput
    generalize halfAt s 14 = f5 at hrd hput
    generalize segMs s = f6 at hrd hput
    generalize s.extract (segAt s) s.size = f7 at hrd hput
    go_enter Try.func26, Try.ntmps26
    go_wp2_with (first | (go_at_call 55; refine (hrd _).mono ?_; rintro _ z ⟨rfl, g⟩; replace R := R.since g; replace HB := HB.trans g; have K := Rec8.new z (.int .i64 f0) (.int .i64 f1) (.int .u32 f2) (.int .u32 f3) (.int .i64 f4) (.int .i64 f5) (.int .i64 f6) (.string f7) 28) | (go_at_call 19; refine (hput _).mono ?_; rintro _ z2 ⟨rfl, g2⟩; replace R := (R.since ((Since.refl _).alloc _)).since g2; replace HB := (HB.alloc _).trans g2; replace K := K.since g2; obtain ⟨r0, r1, r2, r3, r4, r5, r6, r7, r8, r9⟩ := R; obtain ⟨k0, k1, k2, k3, k4, k5, k6, k7, k8, k9⟩ := K))
    refine bodyPost_ret (v := .tuple #[segZero, .bool false]) ?_ rfl ⟨rfl, since_stored HB (Nat.le_refl _) _ _ _ _ _ _ _ _⟩
    simp [results, go_sem, segZero, segVal, World.cell?_setCell_same', World.cell?_setCell_other, r2, r3, r4, r5, r6, r7, r8, r9]
  · rw [readSegAns, if_pos h1, decide_eq_true h1] at hrd
    have hput := fun wx => implPutSeg src dst (halfAt s 0) (halfAt s 2) (wordAt s 4) (wordAt s 8) (byteAt s 13) (halfAt s 14) (segMs s) (s.extract (segAt s) s.size) hs hd (word_range s 4) (word_range s 8) (byte_int s 13) wx
    unfold segRead segVal at hrd
    unfold segVal at hput
    rw [show putSeg src dst (halfAt s 0) (halfAt s 2) (wordAt s 4) (wordAt s 8) (byteAt s 13) (halfAt s 14) (segMs s) (s.extract (segAt s) s.size) = segBack src dst s from rfl] at hput
    rw [h2] at hput
    rw [show segRead s = segVal (halfAt s 0) (halfAt s 2) (wordAt s 4) (wordAt s 8) (byteAt s 13) (halfAt s 14) (segMs s) (s.extract (segAt s) s.size) from rfl]
    clear h1 h2
    generalize halfAt s 0 = f0 at hrd hput ⊢
    generalize halfAt s 2 = f1 at hrd hput ⊢
    generalize wordAt s 4 = f2 at hrd hput ⊢
    generalize wordAt s 8 = f3 at hrd hput ⊢
    generalize byteAt s 13 = f4 at hrd hput ⊢
    generalize halfAt s 14 = f5 at hrd hput ⊢
    generalize segMs s = f6 at hrd hput ⊢
    generalize s.extract (segAt s) s.size = f7 at hrd hput ⊢
    go_enter Try.func26, Try.ntmps26
    go_wp2_with (first | (go_at_call 55; refine (hrd _).mono ?_; rintro _ z ⟨rfl, g⟩; replace R := R.since g; replace HB := HB.trans g; have K := Rec8.new z (.int .i64 f0) (.int .i64 f1) (.int .u32 f2) (.int .u32 f3) (.int .i64 f4) (.int .i64 f5) (.int .i64 f6) (.string f7) 28) | (go_at_call 19; refine (hput _).mono ?_; rintro _ z2 ⟨rfl, g2⟩; replace R := (R.since ((Since.refl _).alloc _)).since g2; replace HB := (HB.alloc _).trans g2; replace K := K.since g2; obtain ⟨r0, r1, r2, r3, r4, r5, r6, r7, r8, r9⟩ := R; obtain ⟨k0, k1, k2, k3, k4, k5, k6, k7, k8, k9⟩ := K))
    refine bodyPost_ret (v := .tuple #[.agg #[.int .i64 f0, .int .i64 f1, .int .u32 f2, .int .u32 f3, .int .i64 f4, .int .i64 f5, .int .i64 f6, .string f7], .bool true]) ?_ rfl ⟨rfl, since_stored HB (Nat.le_refl _) _ _ _ _ _ _ _ _⟩
    simp [results, go_sem, World.cell?_setCell_same', World.cell?_setCell_other, r2, r3, r4, r5, r6, r7, r8, r9]

theorem implGetSeg (src dst : Int) (s : ByteArray) (hs : IsWord src) (hd : IsWord dst) (hm : s.size ≤ 1048576) (ok : Bool) (hok : isSeg src dst s ↔ ok = true) (w : World) :
    Calls Try.prog 26 #[.int .u32 src, .int .u32 dst, .string s] w fun e w' => e = .returned (getSegVal ok s) ∧ Since w w' := by
  have h20 : segAt s ≤ s.size → 20 ≤ s.size := by
    unfold segAt
    split <;> omega
  refine implGetSegAns src dst s hs hd hm _ ?_ w
  by_cases h1 : segAt s ≤ s.size
  · by_cases h2 : segBack src dst s = s
    · refine .inr (.inr ⟨h1, h2, ?_⟩)
      obtain rfl : ok = true := hok.1 ⟨⟨h20 h1, h1⟩, h2⟩
      rfl
    · refine .inr (.inl ⟨h1, h2, ?_⟩)
      obtain rfl : ok = false := by
        cases ok
        · rfl
        · exact absurd (hok.2 rfl).2 h2
      rfl
  · refine .inl ⟨h1, ?_⟩
    obtain rfl : ok = false := by
      cases ok
      · rfl
      · exact absurd (hok.2 rfl).1.2 h1
    rfl
end Go.Proofs.Ytigjppamjfnmcaa
