/-
  Contracts of spec's OnesSum and of impl's and spec's Checksum, at every text.
  Contracts of impl's and spec's PutWord and of the array of four bytes, at every word.
  The contract of spec's PutWord, at every word.
  Contracts of the two bytes of a number (impl's halfText, at every int; spec's l03Two, from 0 on) and of the sums over them: impl's and spec's PseudoSum, at every argument.
  Contracts of impl's and spec's GetWord and of the array of four bytes' word, at every text of at most 1048576 bytes and every place.
-/
import Derived.Test.YtigjppamjfnmcaaOnes
import Derived.Test.YtigjppamjfnmcaaM1
import Derived.WalkLawsBesides
import Derived.Laws.BytesArg
import Derived.Test.YtigjppamjfnmcaaM2
import Derived.Laws.Concat
import Derived.Lib.LazyBuf
import Derived.LoopN
import Derived.BigQuiet
import Derived.Deep.QuietTactic
namespace Go.Proofs.Ytigjppamjfnmcaa
open Go.ChangeShapes Go.WideShapes Go.ChangeAt Go.RowKit
set_option linter.unusedVariables false

theorem ones_range (s : ByteArray) : -1 ≤ ones s ∧ ones s ≤ 65535 := by
  unfold ones
  split
  · omega
  · have h := foldOf_range _ (part_range (byteAt s) (byteAt_range s) s.size).1
    omega

theorem ones_neg (s : ByteArray) : ones s < 0 ↔ 2000 < s.size := by
  unfold ones
  split
  · omega
  · have h := foldOf_range _ (part_range (byteAt s) (byteAt_range s) s.size).1
    omega

set_option maxHeartbeats 1000000 in
theorem specOnes (s : ByteArray) (hm : s.size ≤ 1048576) (w : World) :
    Calls Try.prog 38 #[.string s] w fun e w' => e = .returned (.int .i64 (ones s)) ∧ w = w' := by
  by_cases hs : 2000 < s.size
  · rw [ones, if_pos hs]
    have hs' : (2000 : Int) < (s.size : Int) := by omega
    go_enter Try.func38, Try.ntmps38
    go_wp2
    go_ret
    exact ⟨rfl, rfl⟩
  · rw [ones, if_neg hs]
    have hs' : ¬ (2000 : Int) < (s.size : Int) := by omega
    clear hs
    go_enter Try.func38, Try.ntmps38
    go_wp2
    go_loop [3, 4] (fun t i => ∃ k : Nat, k ≤ s.size ∧ i = .int .i64 k ∧ t = .int .i64 (foldOf (part (byteAt s) k))) (fun _ i => s.size - (intOf i).toNat)
    case atStart => exact ⟨0, Nat.zero_le _, rfl, rfl⟩
    case round =>
      obtain ⟨k, hk, rfl, rfl⟩ := hrel
      have ht := Int.tmod_eq_emod_of_nonneg (a := (k : Int)) (b := 2) (by omega)
      have hpr := part_range (byteAt s) (byteAt_range s) k
      have hfr := foldOf_range _ hpr.1
      by_cases hlt : k < s.size
      · have hlt' : (k : Int) < (s.size : Int) := by omega
        have hb0 := byteAt_range s k
        have e0 := byteAt_in s k hlt
        by_cases he : k % 2 = 0
        · have he1 : (k : Int) % 2 = 0 := by omega
          have hp : part (byteAt s) (k + 1) = part (byteAt s) k + 256 * byteAt s k := by simp only [part, he, if_true]
          have hfold := fun wx => specFold (foldOf (part (byteAt s) k) + 256 * byteAt s k) (by omega) (by omega) wx
          rw [foldOf_add _ _ hpr.1 (by omega), ← hp, e0] at hfold
          rw [e0] at hb0
          clear hp e0 hpr
          generalize foldOf (part (byteAt s) k) = q at hfold hfr ⊢
          generalize hq : foldOf (part (byteAt s) (k + 1)) = q' at hfold
          rw [he1] at ht
          clear he1
          go_wp2_with (go_at_call 36; refine (hfold _).mono ?_; rintro _ _ ⟨rfl, rfl⟩)
          go_round
          case rel => exact ⟨k + 1, by omega, by go_num, by rw [hq]⟩
          case measure => simp [intOf]; omega
        · have he1 : (k : Int) % 2 = 1 := by omega
          have hp : part (byteAt s) (k + 1) = part (byteAt s) k + byteAt s k := by simp only [part, he, if_false]
          have hfold := fun wx => specFold (foldOf (part (byteAt s) k) + byteAt s k) (by omega) (by omega) wx
          rw [foldOf_add _ _ hpr.1 (by omega), ← hp, e0] at hfold
          rw [e0] at hb0
          clear hp e0 hpr
          generalize foldOf (part (byteAt s) k) = q at hfold hfr ⊢
          generalize hq : foldOf (part (byteAt s) (k + 1)) = q' at hfold
          rw [he1] at ht
          clear he1
          go_wp2_with (go_at_call 36; refine (hfold _).mono ?_; rintro _ _ ⟨rfl, rfl⟩)
          go_round
          case rel => exact ⟨k + 1, by omega, by go_num, by rw [hq]⟩
          case measure => simp [intOf]; omega
      · obtain rfl : k = s.size := by omega
        go_wp2
        go_ret
        exact ⟨rfl, rfl⟩

/-- What Checksum answers. -/
def checksum (s : ByteArray) : Int := if 2000 < s.size then -1 else 65535 - ones s

theorem specChecksum (s : ByteArray) (hm : s.size ≤ 1048576) (w : World) :
    Calls Try.prog 40 #[.string s] w fun e w' => e = .returned (.int .i64 (checksum s)) ∧ w = w' := by
  have ho := fun wx => specOnes s hm wx
  have hn := ones_neg s
  have hr := ones_range s
  unfold checksum
  generalize ones s = o at ho hn hr ⊢
  by_cases hs : 2000 < s.size
  · rw [if_pos hs]
    have h : o < 0 := hn.2 hs
    clear hn
    go_enter Try.func40, Try.ntmps40
    go_wp2_with (go_at_call 38; refine (ho _).mono ?_; rintro _ _ ⟨rfl, rfl⟩)
    go_ret
    exact ⟨rfl, rfl⟩
  · rw [if_neg hs]
    have h : ¬ o < 0 := fun h => hs (hn.1 h)
    clear hn
    go_enter Try.func40, Try.ntmps40
    go_wp2_with (go_at_call 38; refine (ho _).mono ?_; rintro _ _ ⟨rfl, rfl⟩)
    go_ret
    exact ⟨rfl, rfl⟩

theorem implChecksum (s : ByteArray) (w : World) :
    Calls Try.prog 66 #[.string s] w fun e w' => e = .returned (.int .i64 (checksum s)) ∧ Below w.heap.size w w' := by
  have ho := fun wx => implOnes s wx
  have hr := ones_range s
  unfold checksum
  generalize ones s = o at ho hr ⊢
  by_cases hs : 2000 < s.size
  · rw [if_pos hs]
    have hs' : (2000 : Int) < (s.size : Int) := by omega
    go_enter Try.func66, Try.ntmps66
    go_wp2
    go_ret
    exact ⟨rfl, Below.refl _ _⟩
  · rw [if_neg hs]
    have hs' : ¬ (2000 : Int) < (s.size : Int) := by omega
    go_enter Try.func66, Try.ntmps66
    go_wp2_with (go_at_call 64; refine (ho _).mono ?_; rintro _ w1 ⟨rfl, g1⟩)
    go_ret
    exact ⟨rfl, g1⟩
end Go.Proofs.Ytigjppamjfnmcaa

namespace Go.Proofs.Ytigjppamjfnmcaa
open Go.ChangeShapes Go.WideShapes Go.ChangeAt Go.RowKit
set_option linter.unusedVariables false

theorem conv4 (a b c d : Int) (t : TypeId) (w : World) :
    (convert 22 9 (.slice (some ⟨w.heap.size, 0, none⟩) 4 4)).run Try.prog (w.alloc (.cells #[.int .u8 a, .int .u8 b, .int .u8 c, .int .u8 d] t)) = .ok (.string (strOfNums [a, b, c, d])) (w.alloc (.cells #[.int .u8 a, .int .u8 b, .int .u8 c, .int .u8 d] t)) := by
  refine run_convert_bytes_arg _ 22 5 Try.underlying22 Try.underlying5 _ 0 4 4 [a, b, c, d] rfl ?_ 9 Try.underlying9
  intro i hi
  rw [World.cell?_alloc_mark]
  match i, hi with
  | 0, _ => rfl
  | 1, _ => rfl
  | 2, _ => rfl
  | 3, _ => rfl

theorem bytesOf (x : Int) (hx : 0 ≤ x) (hx' : x < 4294967296) (w : World) :
    Calls Try.prog 60 #[.int .u32 x] w fun e w' => e = .returned (.agg #[.int .u8 (x / 16777216), .int .u8 (x / 65536 % 256), .int .u8 (x / 256 % 256), .int .u8 (x % 256)]) ∧ Newer w w' := by
  go_enter Try.func60, Try.ntmps60
  go_wp2
  refine bodyPost_ret (v := .agg #[.int .u8 (x / 16777216), .int .u8 (x / 65536 % 256), .int .u8 (x / 256 % 256), .int .u8 (x % 256)]) ?_ rfl ⟨rfl, by repeat (first | exact Newer.refl _ | apply Newer.drew | apply Newer.alloc)⟩
  simp [results, go_sem]

theorem text (a b c d : Int) (w : World) :
    Calls Try.prog 61 #[.agg #[.int .u8 a, .int .u8 b, .int .u8 c, .int .u8 d]] w fun e w' => e = .returned (.string (strOfNums [a, b, c, d])) ∧ Newer w w' := by
  have hc := conv4
  go_enter Try.func61, Try.ntmps61
  go_wp2
  go_ret
  exact ⟨rfl, by repeat (first | exact Newer.refl _ | apply Newer.drew | apply Newer.alloc)⟩

theorem implPutWord (x : Int) (hx : 0 ≤ x) (hx' : x < 4294967296) (w : World) :
    Calls Try.prog 43 #[.int .u32 x] w fun e w' => e = .returned (.string (strOfNums [x / 16777216, x / 65536 % 256, x / 256 % 256, x % 256])) ∧ Newer w w' := by
  go_enter Try.func43, Try.ntmps43
  go_wp2_with (first | (go_at_call 60; refine (bytesOf x hx hx' _).mono ?_; rintro _ w1 ⟨rfl, g1⟩) | (go_at_call 61; refine (text _ _ _ _ _).mono ?_; rintro _ w2 ⟨rfl, g2⟩))
  go_ret
  exact ⟨rfl, Newer.trans g1 g2⟩
end Go.Proofs.Ytigjppamjfnmcaa

namespace Go.Proofs.Ytigjppamjfnmcaa
open Go.ChangeShapes Go.WideShapes Go.ChangeAt Go.RowKit
set_option linter.unusedVariables false

theorem specPutWord (x : Int) (hx : 0 ≤ x) (hx' : x < 4294967296) (w : World) :
    Calls Try.prog 35 #[.int .u32 x] w fun e w' => e = .returned (.string (strOfNums [x / 16777216, x / 65536 % 256, x / 256 % 256, x % 256])) ∧ Newer w w' := by
  have hc := conv4
  go_enter Try.func35, Try.ntmps35
  go_wp2
  go_ret
  exact ⟨rfl, by repeat (first | exact Newer.refl _ | apply Newer.drew | apply Newer.alloc)⟩
end Go.Proofs.Ytigjppamjfnmcaa

namespace Go.Proofs.Ytigjppamjfnmcaa
open Go.ChangeShapes Go.WideShapes Go.ChangeAt Go.RowKit
set_option linter.unusedVariables false

/-- The two bytes of a number. -/
def two (n : Int) : ByteArray := strOfNums [n / 256 % 256, n % 256]

theorem two_size (n : Int) : (two n).size = 2 := by simp [two, strOfNums_size]

/-- The four bytes of a word. -/
def wordT (x : Int) : ByteArray := strOfNums [x / 16777216, x / 65536 % 256, x / 256 % 256, x % 256]

theorem wordT_size (x : Int) : (wordT x).size = 4 := by simp [wordT, strOfNums_size]

theorem conv2 (a b : Int) (t : TypeId) (w : World) :
    (convert 22 9 (.slice (some ⟨w.heap.size, 0, none⟩) 2 2)).run Try.prog (w.alloc (.cells #[.int .u8 a, .int .u8 b] t)) = .ok (.string (strOfNums [a, b])) (w.alloc (.cells #[.int .u8 a, .int .u8 b] t)) := by
  refine run_convert_bytes_arg _ 22 5 Try.underlying22 Try.underlying5 _ 0 2 2 [a, b] rfl ?_ 9 Try.underlying9
  intro i hi
  rw [World.cell?_alloc_mark]
  match i, hi with
  | 0, _ => rfl
  | 1, _ => rfl

theorem halfText (n : Int) (w : World) :
    Calls Try.prog 42 #[.int .i64 n] w fun e w' => e = .returned (.string (two n)) ∧ Since w w' := by
  have hc := conv2
  unfold two
  go_enter Try.func42, Try.ntmps42
  go_wp2
  go_ret
  exact ⟨rfl, by repeat (first | exact Since.refl _ | apply Since.drew | apply Since.alloc)⟩

theorem specTwo (n : Int) (h : 0 ≤ n) (h' : n ≤ 65535) (w : World) :
    Calls Try.prog 34 #[.int .i64 n] w fun e w' => e = .returned (.string (two n)) ∧ Since w w' := by
  have hc := conv2
  have hd := Int.tdiv_eq_ediv_of_nonneg (a := n) (b := 256) h
  have hm := Int.tmod_eq_emod_of_nonneg (a := n) (b := 256) h
  unfold two
  go_enter Try.func34, Try.ntmps34
  go_wp2
  go_ret
  have e : n / 256 % 256 = n / 256 := by omega
  exact ⟨by simp [e], by repeat (first | exact Since.refl _ | apply Since.drew | apply Since.alloc)⟩

theorem addS (a b : ByteArray) (h : a.size + b.size ≤ 9223372036854775807) (w : World) : (Op.stringOp .add a b).run Try.prog w = .ok (.string (a ++ b)) w := run_string_add_sum (P := Try.prog) w a b h

/-- What PseudoSum answers. -/
def pseudoOf (src dst proto n : Int) : Int := if (0 ≤ proto ∧ proto ≤ 255) ∧ 0 ≤ n ∧ n ≤ 65535 then ones (wordT src ++ wordT dst ++ two proto ++ two n) else -1

set_option maxHeartbeats 1000000 in
theorem implPseudo (src dst proto n : Int) (hs : IsWord src) (hd : IsWord dst) (w : World) :
    Calls Try.prog 63 #[.int .u32 src, .int .u32 dst, .int .i64 proto, .int .i64 n] w fun e w' => e = .returned (.int .i64 (pseudoOf src dst proto n)) ∧ Since w w' := by
  have i1 := fun wx => isByte proto wx
  have i2 := fun wx => isHalf n wx
  have hn : ∀ (x : Bool) (w : World), (Op.unary .not (.bool x)).run Try.prog w = .ok (.bool (!x)) w := fun _ _ => rfl
  by_cases h1 : 0 ≤ proto ∧ proto ≤ 255
  · rw [show decide (0 ≤ proto ∧ proto ≤ 255) = true by simp [h1]] at i1
    by_cases h2 : 0 ≤ n ∧ n ≤ 65535
    · rw [show decide (0 ≤ n ∧ n ≤ 65535) = true by simp [h2]] at i2
      rw [pseudoOf, if_pos ⟨h1, h2⟩]
      have p1 : ∀ wx, Calls Try.prog 43 #[.int .u32 src] wx fun e w' => e = .returned (.string (wordT src)) ∧ Newer wx w' := fun wx => implPutWord src hs.1 hs.2 wx
      have p2 : ∀ wx, Calls Try.prog 43 #[.int .u32 dst] wx fun e w' => e = .returned (.string (wordT dst)) ∧ Newer wx w' := fun wx => implPutWord dst hd.1 hd.2 wx
      have t1 := fun wx => halfText proto wx
      have t2 := fun wx => halfText n wx
      have z1 := wordT_size src
      have z2 := wordT_size dst
      have z3 := two_size proto
      have z4 := two_size n
      generalize wordT src = A at p1 z1 ⊢
      generalize wordT dst = B at p2 z2 ⊢
      generalize two proto = C at t1 z3 ⊢
      generalize two n = D at t2 z4 ⊢
      have a1 := fun wx => addS A B (by omega) wx
      have a2 := fun wx => addS (A ++ B) C (by simp only [ByteArray.size_append]; omega) wx
      have a3 := fun wx => addS (A ++ B ++ C) D (by simp only [ByteArray.size_append]; omega) wx
      have ho := fun wx => implOnes (A ++ B ++ C ++ D) wx
      generalize ones (A ++ B ++ C ++ D) = o at ho ⊢
      clear h1 h2
      go_enter Try.func63, Try.ntmps63
      go_wp2_with (first | (go_at_call 65; refine (i1 _).mono ?_; rintro _ _ ⟨rfl, rfl⟩) | (go_at_call 58; refine (i2 _).mono ?_; rintro _ _ ⟨rfl, rfl⟩) | (go_at_call 43; refine (p1 _).mono ?_; clear p1; rintro _ w1 ⟨rfl, g1⟩) | (go_at_call 43; refine (p2 _).mono ?_; clear p2; rintro _ w2 ⟨rfl, g2⟩) | (go_at_call 42; refine (t1 _).mono ?_; clear t1; rintro _ w3 ⟨rfl, g3⟩) | (go_at_call 42; refine (t2 _).mono ?_; clear t2; rintro _ w4 ⟨rfl, g4⟩) | (go_at_call 64; refine (ho _).mono ?_; rintro _ w5 ⟨rfl, g5⟩))
      go_ret
      exact ⟨rfl, (((Since.trans (Since.of g1) (Since.of g2)).trans g3).trans g4).trans g5⟩
    · rw [show decide (0 ≤ n ∧ n ≤ 65535) = false by simp [h2]] at i2
      rw [pseudoOf, if_neg (fun h => h2 h.2)]
      clear h1 h2
      go_enter Try.func63, Try.ntmps63
      go_wp2_with (first | (go_at_call 65; refine (i1 _).mono ?_; rintro _ _ ⟨rfl, rfl⟩) | (go_at_call 58; refine (i2 _).mono ?_; rintro _ _ ⟨rfl, rfl⟩))
      go_ret
      exact ⟨rfl, Since.refl _⟩
  · rw [show decide (0 ≤ proto ∧ proto ≤ 255) = false by simp [h1]] at i1
    rw [pseudoOf, if_neg (fun h => h1 h.1)]
    clear h1
    go_enter Try.func63, Try.ntmps63
    go_wp2_with (go_at_call 65; refine (i1 _).mono ?_; rintro _ _ ⟨rfl, rfl⟩)
    go_ret
    exact ⟨rfl, Since.refl _⟩

set_option maxHeartbeats 1000000 in
theorem specPseudo (src dst proto n : Int) (hs : IsWord src) (hd : IsWord dst) (w : World) :
    Calls Try.prog 37 #[.int .u32 src, .int .u32 dst, .int .i64 proto, .int .i64 n] w fun e w' => e = .returned (.int .i64 (pseudoOf src dst proto n)) ∧ Since w w' := by
  have i1 := fun wx => specIn proto 0 255 wx
  have i2 := fun wx => specIn n 0 65535 wx
  have hn : ∀ (x : Bool) (w : World), (Op.unary .not (.bool x)).run Try.prog w = .ok (.bool (!x)) w := fun _ _ => rfl
  by_cases h1 : 0 ≤ proto ∧ proto ≤ 255
  · rw [show decide (0 ≤ proto ∧ proto ≤ 255) = true by simp [h1]] at i1
    by_cases h2 : 0 ≤ n ∧ n ≤ 65535
    · rw [show decide (0 ≤ n ∧ n ≤ 65535) = true by simp [h2]] at i2
      rw [pseudoOf, if_pos ⟨h1, h2⟩]
      have p1 : ∀ wx, Calls Try.prog 35 #[.int .u32 src] wx fun e w' => e = .returned (.string (wordT src)) ∧ Newer wx w' := fun wx => specPutWord src hs.1 hs.2 wx
      have p2 : ∀ wx, Calls Try.prog 35 #[.int .u32 dst] wx fun e w' => e = .returned (.string (wordT dst)) ∧ Newer wx w' := fun wx => specPutWord dst hd.1 hd.2 wx
      have t1 := fun wx => specTwo proto h1.1 (by omega) wx
      have t2 := fun wx => specTwo n h2.1 h2.2 wx
      have z1 := wordT_size src
      have z2 := wordT_size dst
      have z3 := two_size proto
      have z4 := two_size n
      generalize wordT src = A at p1 z1 ⊢
      generalize wordT dst = B at p2 z2 ⊢
      generalize two proto = C at t1 z3 ⊢
      generalize two n = D at t2 z4 ⊢
      have a1 := fun wx => addS A B (by omega) wx
      have a2 := fun wx => addS (A ++ B) C (by simp only [ByteArray.size_append]; omega) wx
      have a3 := fun wx => addS (A ++ B ++ C) D (by simp only [ByteArray.size_append]; omega) wx
      have ho := fun wx => specOnes (A ++ B ++ C ++ D) (by simp only [ByteArray.size_append]; omega) wx
      generalize ones (A ++ B ++ C ++ D) = o at ho ⊢
      clear h1 h2
      go_enter Try.func37, Try.ntmps37
      go_wp2_with (first | (go_at_call 56; refine (i1 _).mono ?_; clear i1; rintro _ _ ⟨rfl, rfl⟩) | (go_at_call 56; refine (i2 _).mono ?_; clear i2; rintro _ _ ⟨rfl, rfl⟩) | (go_at_call 35; refine (p1 _).mono ?_; clear p1; rintro _ w1 ⟨rfl, g1⟩) | (go_at_call 35; refine (p2 _).mono ?_; clear p2; rintro _ w2 ⟨rfl, g2⟩) | (go_at_call 34; refine (t1 _).mono ?_; clear t1; rintro _ w3 ⟨rfl, g3⟩) | (go_at_call 34; refine (t2 _).mono ?_; clear t2; rintro _ w4 ⟨rfl, g4⟩) | (go_at_call 38; refine (ho _).mono ?_; rintro _ w5 ⟨rfl, rfl⟩))
      go_ret
      exact ⟨rfl, ((Since.trans (Since.of g1) (Since.of g2)).trans g3).trans g4⟩
    · rw [show decide (0 ≤ n ∧ n ≤ 65535) = false by simp [h2]] at i2
      rw [pseudoOf, if_neg (fun h => h2 h.2)]
      clear h1 h2
      go_enter Try.func37, Try.ntmps37
      go_wp2_with (first | (go_at_call 56; refine (i1 _).mono ?_; clear i1; rintro _ _ ⟨rfl, rfl⟩) | (go_at_call 56; refine (i2 _).mono ?_; clear i2; rintro _ _ ⟨rfl, rfl⟩))
      go_ret
      exact ⟨rfl, Since.refl _⟩
  · rw [show decide (0 ≤ proto ∧ proto ≤ 255) = false by simp [h1]] at i1
    rw [pseudoOf, if_neg (fun h => h1 h.1)]
    clear h1
    go_enter Try.func37, Try.ntmps37
    go_wp2_with (go_at_call 56; refine (i1 _).mono ?_; rintro _ _ ⟨rfl, rfl⟩)
    go_ret
    exact ⟨rfl, Since.refl _⟩
end Go.Proofs.Ytigjppamjfnmcaa

namespace Go.Proofs.Ytigjppamjfnmcaa
open Go.ChangeShapes Go.WideShapes Go.ChangeAt Go.RowKit
set_option linter.unusedVariables false

theorem Newer.drewN {a b : World} (h : Newer a b) (n : Nat) : Newer a (b.drewN n) := ⟨h.1, ⟨h.2.os, h.2.tape, h.2.output, h.2.size, h.2.block⟩⟩

theorem or_byte (x d : Int) (h0 : 0 ≤ x) (h1 : x < 16777216) (hd : 0 ≤ d ∧ d < 256) : bits .or .u32 (x * 256 % 4294967296) d = x * 256 + d := by
  have e : x * 256 % 4294967296 = x * 256 := by omega
  rw [e]
  exact bits_join .u32 32 (by decide) (fun n h2 h3 => by rw [IntKind.wrap_u32]; omega) 8 (x * 256) d (by omega) (by omega) (by omega) (by omega) (by omega) (by omega)

theorem or_zero (d : Int) (hd : 0 ≤ d ∧ d < 256) : bits .or .u32 0 d = d := by
  have := or_byte 0 d (by omega) (by omega) hd
  simpa using this

theorem joined (a b c d : Int) (ha : 0 ≤ a ∧ a < 256) (hb : 0 ≤ b ∧ b < 256) (hc : 0 ≤ c ∧ c < 256) (hd : 0 ≤ d ∧ d < 256) :
    bits .or .u32 (bits .or .u32 (bits .or .u32 (bits .or .u32 0 a * 256 % 4294967296) b * 256 % 4294967296) c * 256 % 4294967296) d = a * 16777216 + b * 65536 + c * 256 + d := by
  rw [or_zero a ha, or_byte a b (by omega) (by omega) hb, or_byte (a * 256 + b) c (by omega) (by omega) hc, or_byte ((a * 256 + b) * 256 + c) d (by omega) (by omega) hd]
  omega

theorem word (a b c d : Int) (ha : 0 ≤ a ∧ a < 256) (hb : 0 ≤ b ∧ b < 256) (hc : 0 ≤ c ∧ c < 256) (hd : 0 ≤ d ∧ d < 256) (w : World) :
    Calls Try.prog 80 #[.agg #[.int .u8 a, .int .u8 b, .int .u8 c, .int .u8 d]] w fun e w' => e = .returned (.int .u32 (a * 16777216 + b * 65536 + c * 256 + d)) ∧ Newer w w' := by
  have i0 : ∀ w, (Instr.index 93 (.agg #[.int .u8 a, .int .u8 b, .int .u8 c, .int .u8 d]) (.int .i64 0)).run Try.prog w = .ok (.int .u8 a) w := fun _ => by kernel_rfl
  have i1 : ∀ w, (Instr.index 93 (.agg #[.int .u8 a, .int .u8 b, .int .u8 c, .int .u8 d]) (.int .i64 1)).run Try.prog w = .ok (.int .u8 b) w := fun _ => by kernel_rfl
  have i2 : ∀ w, (Instr.index 93 (.agg #[.int .u8 a, .int .u8 b, .int .u8 c, .int .u8 d]) (.int .i64 2)).run Try.prog w = .ok (.int .u8 c) w := fun _ => by kernel_rfl
  have i3 : ∀ w, (Instr.index 93 (.agg #[.int .u8 a, .int .u8 b, .int .u8 c, .int .u8 d]) (.int .i64 3)).run Try.prog w = .ok (.int .u8 d) w := fun _ => by kernel_rfl
  go_enter Try.func80, Try.ntmps80
  go_wp2
  refine wp_loop_rounds 5 ?_
  rw [rounds_succ]
  go_wp2
  rw [rounds_succ]
  go_wp2
  rw [rounds_succ]
  go_wp2
  rw [rounds_succ]
  go_wp2
  rw [rounds_succ]
  go_wp2
  go_ret
  refine ⟨?_, by repeat (first | exact Newer.refl _ | apply Newer.drew | apply Newer.alloc)⟩
  rw [← joined a b c d ha hb hc hd]
  rfl

theorem spell (a b c d : Int) (ha : 0 ≤ a ∧ a < 256) (hb : 0 ≤ b ∧ b < 256) (hc : 0 ≤ c ∧ c < 256) (hd : 0 ≤ d ∧ d < 256) :
    wrap64 (wrap64 (wrap64 (wrap64 (wrap64 a * 16777216) + wrap64 (wrap64 b * 65536)) + wrap64 (wrap64 c * 256)) + wrap64 d) % 4294967296 = a * 16777216 + b * 65536 + c * 256 + d := by
  have ea : wrap64 a = a := IntWalk.wrap64_in _ ⟨by omega, by omega⟩
  have eb : wrap64 b = b := IntWalk.wrap64_in _ ⟨by omega, by omega⟩
  have ec : wrap64 c = c := IntWalk.wrap64_in _ ⟨by omega, by omega⟩
  have ed : wrap64 d = d := IntWalk.wrap64_in _ ⟨by omega, by omega⟩
  rw [ea, eb, ec, ed]
  clear ea eb ec ed
  have fa : wrap64 (a * 16777216) = a * 16777216 := IntWalk.wrap64_in _ ⟨by omega, by omega⟩
  have fb : wrap64 (b * 65536) = b * 65536 := IntWalk.wrap64_in _ ⟨by omega, by omega⟩
  have fc : wrap64 (c * 256) = c * 256 := IntWalk.wrap64_in _ ⟨by omega, by omega⟩
  rw [fa, fb, fc]
  clear fa fb fc
  have g1 : wrap64 (a * 16777216 + b * 65536) = a * 16777216 + b * 65536 := IntWalk.wrap64_in _ ⟨by omega, by omega⟩
  rw [g1]
  clear g1
  have g2 : wrap64 (a * 16777216 + b * 65536 + c * 256) = a * 16777216 + b * 65536 + c * 256 := IntWalk.wrap64_in _ ⟨by omega, by omega⟩
  rw [g2]
  clear g2
  have g3 : wrap64 (a * 16777216 + b * 65536 + c * 256 + d) = a * 16777216 + b * 65536 + c * 256 + d := IntWalk.wrap64_in _ ⟨by omega, by omega⟩
  rw [g3]
  clear g3
  omega

theorem byte_in (x : UInt8) : 0 ≤ (x.toNat : Int) ∧ (x.toNat : Int) < 256 := by
  have := UInt8.toNat_lt x
  omega

theorem fill4 (w : World) (ty : TypeId) (z0 z1 z2 z3 v0 v1 v2 v3 : Value) :
    (w.alloc (.cells #[z0, z1, z2, z3] ty)).drew.setCells w.heap.size 0 [v0, v1, v2, v3] = (w.alloc (.cells #[v0, v1, v2, v3] ty)).drew := by
  simp only [World.setCells]
  simp only [World.setCell_drew]
  rw [World.setCell_alloc_at _ _ _ _ _ rfl, World.setCell_alloc_at _ _ _ _ _ rfl, World.setCell_alloc_at _ _ _ _ _ rfl, World.setCell_alloc_at _ _ _ _ _ rfl]
  rfl

theorem four (s : ByteArray) (i : Nat) (hi : i + 4 ≤ s.size) :
    ((s.extract i (i + 4)).data.toList.map fun x => Value.int .u8 (x.toNat : Int)) = [.int .u8 (s[i].toNat : Int), .int .u8 (s[i + 1].toNat : Int), .int .u8 (s[i + 2].toNat : Int), .int .u8 (s[i + 3].toNat : Int)] := by
  have hl : s.data.toList.length = s.size := by simp
  rw [Lib.extract_data, show i + 4 - i = 4 by omega, List.drop_eq_getElem_cons (i := i) (by omega), List.drop_eq_getElem_cons (i := i + 1) (by omega), List.drop_eq_getElem_cons (i := i + 1 + 1) (by omega), List.drop_eq_getElem_cons (i := i + 1 + 1 + 1) (by omega)]
  simp
  exact ⟨rfl, rfl, rfl, rfl⟩

theorem step_copy4 {ops : Array Oper} {o : Oper} {a : Act} {w : World} {K : Act → World → Prop} {Q : Exit → Act → World → Prop} {E : Prop}
    (hg : o.guard = none) (d x : Operand) (hop : o.op = Op.call { callee := Callee.builtin Builtin.copy, args := #[d, x], argTypes := #[22, 9] })
    (s : ByteArray) (i : Nat) (hi : i + 4 ≤ s.size) (ty : TypeId) (z0 z1 z2 z3 : Value)
    (hd : a.eval d = .slice (some ⟨w.heap.size, 0, none⟩) 4 4) (hx : a.eval x = .string (s.extract i (i + 4)))
    (hK : K (a.put o.dst (goInt 4)) (w.alloc (.cells #[.int .u8 (s[i].toNat : Int), .int .u8 (s[i + 1].toNat : Int), .int .u8 (s[i + 2].toNat : Int), .int .u8 (s[i + 3].toNat : Int)] ty)).drew) :
    if Region.wanted o (yielded ops a.tmps) = true then Oper.wp Try.prog o a (w.alloc (.cells #[z0, z1, z2, z3] ty)).drew K Q else E := by
  have hz : (s.extract i (i + 4)).size = 4 := by
    rw [ByteArray.size_extract]
    omega
  have hcell : ∀ j, j < 4 → ((w.alloc (.cells #[z0, z1, z2, z3] ty)).drew.cell? ⟨w.heap.size, 0 + j, none⟩).isSome = true := by
    intro j hj
    rw [Nat.zero_add]
    show ((w.alloc (.cells #[z0, z1, z2, z3] ty)).cell? ⟨w.heap.size, j, none⟩).isSome = true
    rw [World.cell?_alloc_mark]
    match j, hj with
    | 0, _ => rfl
    | 1, _ => rfl
    | 2, _ => rfl
    | 3, _ => rfl
  have hfr : ∀ j, j < 4 → (w.alloc (.cells #[z0, z1, z2, z3] ty)).drew.frozen? ⟨w.heap.size, 0 + j, none⟩ = false := by
    intro j hj
    go_simp
  refine step_copy_string hg d x 22 9 hop 5 Try.underlying22 (fun _ => by kernel_rfl) w.heap.size 0 4 4 hd (s.extract i (i + 4)) hx (by omega) (by rw [hz]; exact hcell) (by rw [hz]; exact hfr) ?_
  rw [hz, four s i hi, fill4]
  exact hK

theorem implGetOut (s : ByteArray) (i : Int) (hi : ¬ (0 ≤ i ∧ i ≤ (s.size : Int) - 4)) (hs : s.size ≤ 1048576) (w : World) :
    Calls Try.prog 74 #[.string s, .int .i64 i] w fun e w' => e = .returned (.int .u32 0) ∧ Newer w w' := by
  by_cases h : i < 0
  · go_enter Try.func74, Try.ntmps74
    go_wp2
    go_ret
    exact ⟨rfl, Newer.refl _⟩
  · have h2 : (s.size : Int) - 4 < i := by omega
    clear hi
    go_enter Try.func74, Try.ntmps74
    go_wp2
    go_ret
    exact ⟨rfl, Newer.refl _⟩

theorem implGetIn (s : ByteArray) (i : Nat) (hi : i + 4 ≤ s.size) (hs : s.size ≤ 1048576) (w : World) :
    Calls Try.prog 74 #[.string s, .int .i64 (i : Int)] w fun e w' => e = .returned (.int .u32 ((s[i].toNat : Int) * 16777216 + (s[i + 1].toNat : Int) * 65536 + (s[i + 2].toNat : Int) * 256 + (s[i + 3].toNat : Int))) ∧ Newer w w' := by
  have a0 : (i : Int) ≤ (s.size : Int) - 4 := by omega
  have a1 : ¬ ((s.size : Int) - 4 < (i : Int)) := by omega
  have a2 : (i : Int) + 4 ≤ (s.size : Int) := by omega
  have p1 : 0 ≤ (i : Int) + 4 := by omega
  have p2 : (i : Int) ≤ (i : Int) + 4 := by omega
  have b1 : IntKind.i64.wrap ((i : Int) + 4) = (i : Int) + 4 := by rw [IntWalk.i64_left]; exact IntWalk.wrap64_in _ ⟨by omega, by omega⟩
  have hw := fun wx => word (s[i].toNat : Int) (s[i + 1].toNat : Int) (s[i + 2].toNat : Int) (s[i + 3].toNat : Int) (byte_in _) (byte_in _) (byte_in _) (byte_in _) wx
  have t4 : ((i : Int) + 4).toNat = i + 4 := by omega
  go_enter Try.func74, Try.ntmps74
  go_wp2_with fail
  go_region_law (refine step_copy4 rfl (.tmp 15) (.tmp 20) rfl s i hi _ _ _ _ _ (by simp [Act.eval, Act.put]) (by simp [Act.eval, Act.put]) ?_)
  go_wp2_with (go_at_call 80; refine (hw _).mono ?_; rintro _ w1 ⟨rfl, g1⟩)
  go_ret
  refine ⟨rfl, Newer.trans ?_ g1⟩
  repeat (first | exact Newer.refl _ | apply Newer.drew | apply Newer.alloc)
end Go.Proofs.Ytigjppamjfnmcaa
