/-
  Contracts of impl's ring of bytes: where its bytes lie, put, taken, dropped.
-/
import Derived.Test.YtlccnnoofbclcaaOut
import Derived.Test.YtlccnnoofbclcaaByt
import Derived.Test.YtlccnnoofbclcaaTab
namespace Go.Proofs.Ytlccnnoofbclcaa
open Go.ChangeShapes Go.WideShapes Go.ChangeAt Go.RowKit Go.Deep
set_option linter.unusedVariables false
set_option maxRecDepth 10000

/-- Block r is a ring of bytes over the cells of block c: the first lies in cell 'first', 'many' are there. -/
structure Ring (w : World) (r c room first many : Nat) (f : Nat → Int) : Prop where
  box : Blk r w #[.slice (some ⟨c, 0, none⟩) room room, .int .i64 first, .int .i64 many]
  cells : Byt w c room f
  ne : r ≠ c
  pos : 0 < room
  small : room ≤ 4096
  fst : first < room
  mny : many ≤ room

theorem Ring.since {w w' : World} {r c room first many : Nat} {f : Nat → Int} (h : Ring w r c room first many f) (k : Since w w') : Ring w' r c room first many f := ⟨h.box.since k, h.cells.since k, h.ne, h.pos, h.small, h.fst, h.mny⟩

theorem Ring.touch {w w' : World} {r c room first many g : Nat} {f : Nat → Int} (h : Ring w r c room first many f) (k : Touch g w w') (hr : r ≠ g) (hc : c ≠ g) : Ring w' r c room first many f := ⟨h.box.touch k hr, h.cells.touch k hc, h.ne, h.pos, h.small, h.fst, h.mny⟩

theorem stretches (r c room first many : Nat) (f : Nat → Int) (i n at' k : Nat) (hi : i ≤ room) (hn : n ≤ room) (ha : (first + i) % room = at') (hk1 : at' + k ≤ room) (hk2 : k ≤ n) (hk3 : at' + k = room ∨ k = n) (w : World) (R : Ring w r c room first many f) :
    Calls Try.prog 91 #[.pointer (some ⟨r, 0, none⟩), .int .i64 i, .int .i64 n] w fun e w' => e = .returned (.tuple #[.slice (some ⟨c, at', none⟩) k (room - at'), .slice (some ⟨c, 0, none⟩) (n - k) room]) ∧ Since w w' := by
  have b0 := R.box.cell 0
  have b1 := R.box.cell 1
  have hp := R.pos
  have hs := R.small
  have hf := R.fst
  simp at b0 b1
  have hat : at' < room := by rw [← ha]; exact Nat.mod_lt _ hp
  have hmod : ((first : Int) + (i : Int)) % (room : Int) = (at' : Int) := by rw [← ha]; simp
  have hmod' : ((first : Int) + (i : Int)).tmod (room : Int) = (at' : Int) := by rw [Int.tmod_eq_emod_of_nonneg (by omega)]; exact hmod
  have hr0 : (room : Int) ≠ 0 := by omega
  clear R ha
  have hif : (if (room : Int) < (at' : Int) + (n : Int) then (room : Int) else (at' : Int) + (n : Int)) = ((at' + k : Nat) : Int) := by split <;> omega
  have hsl : (((at' + k : Nat) : Int)).toNat - at' = k := by omega
  clear hk3
  have hnk : (n : Int) - (k : Int) = ((n - k : Nat) : Int) := by omega
  go_enter Try.func91, Try.ntmps91
  go_wp2
  go_quiet (fail)
  go_wp2
  go_region
  clear hif hsl hmod hmod'
  rw [show at' + k - at' = k by omega]
  go_wp2
  go_quiet (fail)
  go_wp2
  refine bodyPost_ret (v := .tuple #[.slice (some ⟨c, at', none⟩) k (room - at'), .slice (some ⟨c, 0, none⟩) (n - k) room]) ?_ rfl ⟨rfl, ?_⟩
  · simp [results, go_sem]
  · repeat (first | exact Since.refl _ | refine since_drews ?_ _)
end Go.Proofs.Ytlccnnoofbclcaa
