/-
  Contracts of the two bytes of a number (impl's halfText, at every int; spec's l03Two, from 0 on) and of the sums over them: impl's and spec's PseudoSum, at every argument.
-/
import Derived.Test.YtfohognpcipmaaaDoorSpecOnes
import Derived.Test.YtfohognpcipmaaaDoorSpecPut
import Derived.Test.YtfohognpcipmaaaDoorPkt
import Derived.Laws.Concat
namespace Go.Proofs.YtfohognpcipmaaaDoor
open Go.ChangeShapes Go.WideShapes Go.ChangeAt Go.RowKit
set_option linter.unusedVariables false

/-- The two bytes of a number. -/
def two (n : Int) : ByteArray := strOfNums [n / 256 % 256, n % 256]

theorem two_size (n : Int) : (two n).size = 2 := by simp [two, strOfNums_size]

/-- The four bytes of a word. -/
def wordT (x : Int) : ByteArray := strOfNums [x / 16777216, x / 65536 % 256, x / 256 % 256, x % 256]

theorem wordT_size (x : Int) : (wordT x).size = 4 := by simp [wordT, strOfNums_size]

theorem conv2 (a b : Int) (t : TypeId) (w : World) :
    (convert 22 9 (.slice (some ⟨w.heap.size, 0, none⟩) 2 2)).run Tryd.prog (w.alloc (.cells #[.int .u8 a, .int .u8 b] t)) = .ok (.string (strOfNums [a, b])) (w.alloc (.cells #[.int .u8 a, .int .u8 b] t)) := by
  refine run_convert_bytes_arg _ 22 5 Tryd.underlying22 Tryd.underlying5 _ 0 2 2 [a, b] rfl ?_ 9 Tryd.underlying9
  intro i hi
  rw [World.cell?_alloc_mark]
  match i, hi with
  | 0, _ => rfl
  | 1, _ => rfl

theorem halfText (n : Int) (w : World) :
    Calls Tryd.prog 19 #[.int .i64 n] w fun e w' => e = .returned (.string (two n)) ∧ Since w w' := by
  have hc := conv2
  unfold two
  go_enter Tryd.func19, Tryd.ntmps19
  go_wp2
  go_ret
  exact ⟨rfl, by repeat (first | exact Since.refl _ | apply Since.drew | apply Since.alloc)⟩

theorem addS (a b : ByteArray) (h : a.size + b.size ≤ 9223372036854775807) (w : World) : (Op.stringOp .add a b).run Tryd.prog w = .ok (.string (a ++ b)) w := run_string_add_sum (P := Tryd.prog) w a b h

/-- What PseudoSum answers. -/
def pseudoOf (src dst proto n : Int) : Int := if (0 ≤ proto ∧ proto ≤ 255) ∧ 0 ≤ n ∧ n ≤ 65535 then ones (wordT src ++ wordT dst ++ two proto ++ two n) else -1

set_option maxHeartbeats 1000000 in
theorem implPseudo (src dst proto n : Int) (hs : IsWord src) (hd : IsWord dst) (w : World) :
    Calls Tryd.prog 47 #[.int .u32 src, .int .u32 dst, .int .i64 proto, .int .i64 n] w fun e w' => e = .returned (.int .i64 (pseudoOf src dst proto n)) ∧ Since w w' := by
  have i1 := fun wx => isByte proto wx
  have i2 := fun wx => isHalf n wx
  have hn : ∀ (x : Bool) (w : World), (Op.unary .not (.bool x)).run Tryd.prog w = .ok (.bool (!x)) w := fun _ _ => rfl
  by_cases h1 : 0 ≤ proto ∧ proto ≤ 255
  · rw [show decide (0 ≤ proto ∧ proto ≤ 255) = true by simp [h1]] at i1
    by_cases h2 : 0 ≤ n ∧ n ≤ 65535
    · rw [show decide (0 ≤ n ∧ n ≤ 65535) = true by simp [h2]] at i2
      rw [pseudoOf, if_pos ⟨h1, h2⟩]
      have p1 : ∀ wx, Calls Tryd.prog 20 #[.int .u32 src] wx fun e w' => e = .returned (.string (wordT src)) ∧ Newer wx w' := fun wx => implPutWord src hs.1 hs.2 wx
      have p2 : ∀ wx, Calls Tryd.prog 20 #[.int .u32 dst] wx fun e w' => e = .returned (.string (wordT dst)) ∧ Newer wx w' := fun wx => implPutWord dst hd.1 hd.2 wx
      have t1 := fun wx => halfText proto wx
      have t2 := fun wx => halfText n wx
      have z1 := wordT_size src
      have z2 := wordT_size dst
      have z3 := two_size proto
      have z4 := two_size n
      generalize wordT src = A at p1 z1 ⊢
      generalize wordT dst = B at p2 z2 ⊢
      generalize two proto = C at t1 z3 ⊢
      generalize two n = D at t2 z4 ⊢
      have a1 := fun wx => addS A B (by omega) wx
      have a2 := fun wx => addS (A ++ B) C (by simp only [ByteArray.size_append]; omega) wx
      have a3 := fun wx => addS (A ++ B ++ C) D (by simp only [ByteArray.size_append]; omega) wx
      have ho := fun wx => implOnes (A ++ B ++ C ++ D) wx
      generalize ones (A ++ B ++ C ++ D) = o at ho ⊢
      clear h1 h2
      go_enter Tryd.func47, Tryd.ntmps47
      go_wp2_with (first | (go_at_call 55; refine (i1 _).mono ?_; rintro _ _ ⟨rfl, rfl⟩) | (go_at_call 25; refine (i2 _).mono ?_; rintro _ _ ⟨rfl, rfl⟩) | (go_at_call 20; refine (p1 _).mono ?_; clear p1; rintro _ w1 ⟨rfl, g1⟩) | (go_at_call 20; refine (p2 _).mono ?_; clear p2; rintro _ w2 ⟨rfl, g2⟩) | (go_at_call 19; refine (t1 _).mono ?_; clear t1; rintro _ w3 ⟨rfl, g3⟩) | (go_at_call 19; refine (t2 _).mono ?_; clear t2; rintro _ w4 ⟨rfl, g4⟩) | (go_at_call 37; refine (ho _).mono ?_; rintro _ w5 ⟨rfl, g5⟩))
      go_ret
      exact ⟨rfl, (((Since.trans (Since.of g1) (Since.of g2)).trans g3).trans g4).trans g5⟩
    · rw [show decide (0 ≤ n ∧ n ≤ 65535) = false by simp [h2]] at i2
      rw [pseudoOf, if_neg (fun h => h2 h.2)]
      clear h1 h2
      go_enter Tryd.func47, Tryd.ntmps47
      go_wp2_with (first | (go_at_call 55; refine (i1 _).mono ?_; rintro _ _ ⟨rfl, rfl⟩) | (go_at_call 25; refine (i2 _).mono ?_; rintro _ _ ⟨rfl, rfl⟩))
      go_ret
      exact ⟨rfl, Since.refl _⟩
  · rw [show decide (0 ≤ proto ∧ proto ≤ 255) = false by simp [h1]] at i1
    rw [pseudoOf, if_neg (fun h => h1 h.1)]
    clear h1
    go_enter Tryd.func47, Tryd.ntmps47
    go_wp2_with (go_at_call 55; refine (i1 _).mono ?_; rintro _ _ ⟨rfl, rfl⟩)
    go_ret
    exact ⟨rfl, Since.refl _⟩
end Go.Proofs.YtfohognpcipmaaaDoor
