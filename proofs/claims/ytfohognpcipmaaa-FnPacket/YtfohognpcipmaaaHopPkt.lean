/-
  Contracts of impl's and spec's Hop, at every text of at most 1048576 bytes.
-/
import Derived.Test.YtfohognpcipmaaaPktLaw
namespace Go.Proofs.Ytfohognpcipmaaa
open Go.ChangeShapes Go.WideShapes Go.ChangeAt Go.RowKit
set_option linter.unusedVariables false

/-- What a router sends on. -/
def hopText (s : ByteArray) : ByteArray := putOf (wordAt s 12) (wordAt s 16) (halfAt s 4) (byteAt s 8 - 1) (byteAt s 9) (s.extract 20 s.size)

/-- What Hop answers. -/
def hopVal (ok : Bool) (s : ByteArray) : Value := if ok = true ∧ 2 ≤ byteAt s 8 then .tuple #[.string (hopText s), .bool true] else .tuple #[.string ⟨#[]⟩, .bool false]

theorem getVal_bad (s : ByteArray) : getVal false s = .tuple #[.agg #[.int .u32 0, .int .u32 0, .int .i64 0, .int .i64 0, .int .i64 0, .string ⟨#[]⟩], .bool false] := rfl

theorem getVal_good (s : ByteArray) : getVal true s = .tuple #[.agg #[.int .u32 (wordAt s 12), .int .u32 (wordAt s 16), .int .i64 (halfAt s 4), .int .i64 (byteAt s 8), .int .i64 (byteAt s 9), .string (s.extract 20 s.size)], .bool true] := rfl

set_option maxHeartbeats 1000000 in
theorem implHop (s : ByteArray) (ok : Bool) (hok : isPkt s ↔ ok = true) (w : World) :
    Calls Try.prog 13 #[.string s] w fun e w' => e = .returned (hopVal ok s) ∧ Since w w' := by
  have hn : ∀ (x : Bool) (w : World), (Op.unary .not (.bool x)).run Try.prog w = .ok (.bool (!x)) w := fun _ _ => rfl
  have hi := fun wx => implGet s ok hok wx
  clear hok
  cases ok
  · rw [hopVal, if_neg (by simp)]
    rw [getVal_bad] at hi
    go_enter Try.func13, Try.ntmps13
    go_wp2_with (go_at_call 10; refine (hi _).mono ?_; clear hi; rintro _ w1 ⟨rfl, g1⟩)
    go_ret2
    exact ⟨rfl, g1.trans ((Since.refl _).alloc _)⟩
  · rw [getVal_good] at hi
    have hr := byteAt_range s 8
    by_cases h : 2 ≤ byteAt s 8
    · rw [hopVal, if_pos ⟨rfl, h⟩]
      have hp : ∀ wx, Calls Try.prog 7 #[.agg #[.int .u32 (wordAt s 12), .int .u32 (wordAt s 16), .int .i64 (halfAt s 4), .int .i64 (byteAt s 8 - 1), .int .i64 (byteAt s 9), .string (s.extract 20 s.size)]] wx fun e w' => e = .returned (.string (hopText s)) ∧ Since wx w' := fun wx => implPutPacket _ _ _ _ _ _ (word_range s 12) (word_range s 16) wx
      have hd : decide (byteAt s 8 ≤ 1) = false := by simp; omega
      generalize hopText s = t at hp ⊢
      generalize byteAt s 8 = n at hi hp hr h hd
      go_enter Try.func13, Try.ntmps13
      go_wp2_with (first | (go_at_call 10; refine (hi _).mono ?_; clear hi; rintro _ w1 ⟨rfl, g1⟩) | (go_at_call 7; refine (hp _).mono ?_; rintro _ w2 ⟨rfl, g2⟩))
      go_ret2
      exact ⟨rfl, (g1.trans ((Since.refl _).alloc _)).trans g2⟩
    · rw [hopVal, if_neg (fun k => h k.2)]
      have hd : decide (byteAt s 8 ≤ 1) = true := by simp; omega
      generalize byteAt s 8 = n at hi hr h hd
      go_enter Try.func13, Try.ntmps13
      go_wp2_with (go_at_call 10; refine (hi _).mono ?_; clear hi; rintro _ w1 ⟨rfl, g1⟩)
      go_ret2
      exact ⟨rfl, g1.trans ((Since.refl _).alloc _)⟩

theorem hopVal_form (ok : Bool) (s : ByteArray) : ∃ (t : ByteArray) (b : Bool), hopVal ok s = .tuple #[.string t, .bool b] := by
  unfold hopVal
  split
  · exact ⟨_, _, rfl⟩
  · exact ⟨_, _, rfl⟩
end Go.Proofs.Ytfohognpcipmaaa
