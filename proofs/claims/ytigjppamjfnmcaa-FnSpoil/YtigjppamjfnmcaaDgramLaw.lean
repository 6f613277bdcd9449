/-
  GetDatagram of both, as one answer; an address held against itself.
-/
import Derived.Test.YtigjppamjfnmcaaDgramGet
namespace Go.Proofs.Ytigjppamjfnmcaa
open Go.ChangeShapes Go.WideShapes Go.ChangeAt Go.RowKit
set_option linter.unusedVariables false
set_option maxRecDepth 10000

theorem implGetDg (s : ByteArray) (hm : s.size ≤ 1048576) (ok : Bool) (hok : isDg s ↔ ok = true) (w : World) :
    Calls Try.prog 11 #[.string s] w fun e w' => e = .returned (getDgVal ok s) ∧ Since w w' := by
  refine implGetDgAns s hm _ ?_ w
  by_cases h1 : isPkt s
  · by_cases h2 : byteAt s 9 = 6
    · by_cases h3 : isSeg (wordAt s 12) (wordAt s 16) (s.extract 20 s.size)
      · obtain rfl : ok = true := hok.1 ⟨h1, h2, h3⟩
        exact .inr (.inr (.inr ⟨h1, h2, h3, rfl⟩))
      · obtain rfl : ok = false := by
          cases ok
          · rfl
          · exact absurd (hok.2 rfl).2.2 h3
        exact .inr (.inr (.inl ⟨h1, h2, h3, rfl⟩))
    · obtain rfl : ok = false := by
        cases ok
        · rfl
        · exact absurd (hok.2 rfl).2.1 h2
      exact .inr (.inl ⟨h1, h2, rfl⟩)
  · obtain rfl : ok = false := by
      cases ok
      · rfl
      · exact absurd (hok.2 rfl).1 h1
    exact .inl ⟨h1, rfl⟩

theorem dg_dec (s : ByteArray) : ∃ ok : Bool, isDg s ↔ ok = true := by
  by_cases h : isDg s
  · exact ⟨true, by simp [h]⟩
  · exact ⟨false, by simp [h]⟩

theorem getDgVal_form (ok : Bool) (s : ByteArray) : ∃ a b c d e f g h i j k l, getDgVal ok s = .tuple #[.agg #[.int .u32 a, .int .i64 b], .agg #[.int .u32 c, .int .i64 d], .agg #[.int .i64 e, .int .i64 f, .int .u32 g, .int .u32 h, .int .i64 i, .int .i64 j, .int .i64 k, .string l], .bool ok] := by
  cases ok
  · exact ⟨_, _, _, _, _, _, _, _, _, _, _, _, rfl⟩
  · exact ⟨_, _, _, _, _, _, _, _, _, _, _, _, rfl⟩

/-- Two addresses and a segment in three variables of their own, one behind the other from n on. -/
def Held3 (n : Nat) (x : World) (a b c d e f g h i j k : Int) (l : ByteArray) : Prop := Rec2 n x (.int .u32 a) (.int .i64 b) ∧ Rec2 (n + 1) x (.int .u32 c) (.int .i64 d) ∧ Rec8 (n + 1 + 1) x (.int .i64 e) (.int .i64 f) (.int .u32 g) (.int .u32 h) (.int .i64 i) (.int .i64 j) (.int .i64 k) (.string l)

theorem Held3.since {n : Nat} {x x' : World} {a b c d e f g h i j k : Int} {l : ByteArray} (hh : Held3 n x a b c d e f g h i j k l) (hs : Since x x') : Held3 n x' a b c d e f g h i j k l := ⟨hh.1.since hs, hh.2.1.since hs, hh.2.2.since hs⟩

theorem held3 (z : World) (a b c d e f g h i j k : Int) (l : ByteArray) : Held3 z.heap.size ((((z).alloc (.cells #[.int .u32 a, .int .i64 b] 26)).alloc (.cells #[.int .u32 c, .int .i64 d] 26)).alloc (.cells #[.int .i64 e, .int .i64 f, .int .u32 g, .int .u32 h, .int .i64 i, .int .i64 j, .int .i64 k, .string l] 28)) a b c d e f g h i j k l := by
  refine ⟨(Rec2.new z _ _ _).since (((Since.refl _).alloc _).alloc _), ?_, ?_⟩
  · have q := (Rec2.new (z.alloc (.cells #[.int .u32 a, .int .i64 b] 26)) (.int .u32 c) (.int .i64 d) 26).since ((Since.refl _).alloc (.cells #[.int .i64 e, .int .i64 f, .int .u32 g, .int .u32 h, .int .i64 i, .int .i64 j, .int .i64 k, .string l] 28))
    rwa [World.size_alloc] at q
  · have q := Rec8.new ((z.alloc (.cells #[.int .u32 a, .int .i64 b] 26)).alloc (.cells #[.int .u32 c, .int .i64 d] 26)) (.int .i64 e) (.int .i64 f) (.int .u32 g) (.int .u32 h) (.int .i64 i) (.int .i64 j) (.int .i64 k) (.string l) 28
    rwa [World.size_alloc, World.size_alloc] at q
end Go.Proofs.Ytigjppamjfnmcaa
