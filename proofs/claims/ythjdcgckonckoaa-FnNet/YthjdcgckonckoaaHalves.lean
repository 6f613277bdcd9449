/-
  Contracts of impl's halves (a function that tells the halves of a text to a yield) and of its OnesSum, at every text.
-/
import Derived.Test.YthjdcgckonckoaaFold
import Derived.RangeFuncNested
import Derived.RangeFuncBound
import Derived.RangeFuncCalls
import Derived.RangeFuncLeaves
import Derived.Shelf.Abstract
import Derived.Shelf.RegionOpen
import Derived.OwnWalkIn
import Derived.TacticsInMore
import Derived.LoopNIn
import Derived.LoopIn
namespace Go.Proofs.Ythjdcgckonckoaa
open Go.ChangeShapes Go.WideShapes Go.ChangeAt Go.RowKit Go.Shelf
attribute [local go_sem] Oper.semAt_some
set_option linter.unusedVariables false

/-- The sum of the first bytes, those at even places high. -/
def part (f : Nat → Int) : Nat → Int
  | 0 => 0
  | i + 1 => part f i + (if i % 2 = 0 then 256 * f i else f i)

/-- Byte i of a text; 0 behind its end. -/
def byteAt (s : ByteArray) (i : Nat) : Int := if h : i < s.size then (s[i].toNat : Int) else 0

theorem byteAt_in (s : ByteArray) (i : Nat) (h : i < s.size) : byteAt s i = (s[i].toNat : Int) := by
  simp [byteAt, h]

theorem byteAt_range (s : ByteArray) (i : Nat) : 0 ≤ byteAt s i ∧ byteAt s i < 256 := by
  unfold byteAt
  split
  · have := UInt8.toNat_lt s[i]
    omega
  · omega

theorem part_range (f : Nat → Int) (hf : ∀ i, 0 ≤ f i ∧ f i < 256) (n : Nat) : 0 ≤ part f n ∧ part f n ≤ 65280 * n := by
  induction n with
  | zero => simp [part]
  | succ n ih =>
    have := hf n
    simp only [part]
    split <;> omega

theorem part_two (f : Nat → Int) (k : Nat) (hk : k % 2 = 0) : part f k + (f k * 256 + f (k + 1)) = part f (k + 2) := by
  have h1 : ¬ (k + 1) % 2 = 0 := by omega
  simp only [part, hk, h1, if_true, if_false]
  omega

theorem part_one (f : Nat → Int) (k : Nat) (hk : k % 2 = 0) : part f k + f k * 256 = part f (k + 1) := by
  simp only [part, hk, if_true]
  omega

/-- A half of a text. -/
abbrev Half := { x : Int // 0 ≤ x ∧ x < 65536 }

def total : List Half → Int
  | [] => 0
  | x :: xs => x.1 + total xs

theorem total_snoc (xs : List Half) (x : Half) : total (xs ++ [x]) = total xs + x.1 := by
  induction xs with
  | nil => simp [total]
  | cons y ys ih =>
    simp only [List.cons_append, total, ih]
    omega

theorem total_range (xs : List Half) : 0 ≤ total xs ∧ total xs ≤ 65535 * xs.length := by
  induction xs with
  | nil => simp [total]
  | cons y ys ih =>
    have := y.2
    simp only [total, List.length_cons]
    omega

/-- What a round of the caller's keeps: the text's own cell. -/
def Keeps (b : Nat) (W W' : World) : Prop := W.heap.size ≤ W'.heap.size ∧ W'.cell? ⟨b, 0, none⟩ = W.cell? ⟨b, 0, none⟩

theorem or_half (a b : Int) (ha : 0 ≤ a ∧ a < 256) (hb : 0 ≤ b ∧ b < 256) : bits .or .i64 (a * 256) b = a * 256 + b :=
  bits_join .i64 32 (by decide) (fun n h2 h3 => by rw [IntWalk.i64_left]; exact IntWalk.wrap64_in _ ⟨by omega, by omega⟩) 8 (a * 256) b (by omega) (by omega) (by omega) (by omega) (by omega) (by omega)

set_option maxHeartbeats 4000000 in
theorem halves1_in (n : Nat) (hn : 1 ≤ n) (l Bn : Nat) (s : ByteArray) (hs : s.size ≤ 2000) (J Jx : List Half → World → Prop) (W : World)
    (hJ : AbidesFrom W.heap.size J)
    (hY : ∀ pre x W1, J pre W1 → pre.length < 1000 → YieldAt Fence.wide (n - 1) Try.prog l #[.int .i64 x.1] W1 fun e W' =>
      (e = .returned (.bool true) ∧ J (pre ++ [x]) W' ∧ Keeps Bn W1 W') ∨ (e = .returned (.bool false) ∧ Jx (pre ++ [x]) W'))
    (hBn : W.cell? ⟨Bn, 0, none⟩ = some (.string s)) (h0 : J [] W) :
    CallsIn Fence.wide n Try.prog 47 #[.func (.yield l) #[] #[], .pointer (some ⟨Bn, 0, none⟩)] W fun e W' => (∃ v, e = .returned v) ∧
      ((∃ ys, total ys = part (byteAt s) s.size ∧ J ys W') ∨ (∃ pre, True ∧ Jx pre W')) := by
  have hmx : Try.prog.follows .mixedOrders = true := by kernel_rfl
  have hdrew : ∀ pre W1, J pre W1 → J pre W1.drew := fun pre W1 h => hJ pre W1 _ none h ⟨rfl, rfl, rfl, Nat.le_refl _, fun _ _ _ => rfl⟩ (fun r e => by cases e)
  clear hJ
  have ht := Int.tmod_eq_emod_of_nonneg (a := (s.size : Int)) (b := 2) (by omega)
  obtain ⟨m, hm, hm0, hm1⟩ : ∃ m : Nat, (s.size : Int) - (s.size : Int) % 2 = (m : Int) ∧ m % 2 = 0 ∧ (m = s.size ∨ m + 1 = s.size) := ⟨s.size - s.size % 2, by omega, by omega, by omega⟩
  refine callsIn_of_wp Try.func47 rfl trivial ?_ rfl
  simp only [Try.ntmps47, List.size_toArray, List.length_cons, List.length_nil, Nat.reduceAdd, Nat.reduceSub, Array.replicate_succ, Array.replicate_zero, List.push_toArray, List.append_toArray, List.nil_append, List.cons_append]
  gi_wp2
  gi_loopw [4] (fun i wr => ∃ (k : Nat) (pre : List Half), i = .int .i64 k ∧ k ≤ m ∧ k % 2 = 0 ∧ pre.length * 2 = k ∧ total pre = part (byteAt s) k ∧ wr.cell? ⟨Bn, 0, none⟩ = some (.string s) ∧ J pre wr)
    (fun i _ => m - (intOf i).toNat)
  case atStart => exact ⟨0, [], rfl, Nat.zero_le _, rfl, rfl, rfl, hBn, h0⟩
  case round =>
    obtain ⟨k, pre, rfl, hk, hk2, hlen, htot, hcell, hJs⟩ := hrel
    by_cases hlt : k < m
    · have a0 : (k : Int) < (s.size : Int) := by omega
      have a1 : (k : Int) + 1 < (s.size : Int) := by omega
      have p1 : 0 ≤ (k : Int) + 1 := by omega
      have b1 : IntKind.i64.wrap ((k : Int) + 1) = (k : Int) + 1 := by rw [IntWalk.i64_left]; exact IntWalk.wrap64_in _ ⟨by omega, by omega⟩
      have hlt' : (k : Int) < (m : Int) := by omega
      have hk' : k < s.size := by omega
      have hk1' : k + 1 < s.size := by omega
      have hb0 := byteAt_range s k
      have hb1 := byteAt_range s (k + 1)
      have e0 := byteAt_in s k hk'
      have e1 := byteAt_in s (k + 1) hk1'
      have ho := or_half _ _ hb0 hb1
      obtain ⟨x, hx⟩ : ∃ x : Half, x.1 = byteAt s k * 256 + byteAt s (k + 1) := ⟨⟨_, by omega⟩, rfl⟩
      obtain ⟨fn, tmps, assign, body, hy, hR⟩ := hY pre x wr.drew (hdrew _ _ hJs) (by omega)
      have hz : bits .or .i64 (IntKind.i64.wrap (IntKind.i64.wrap (s[k].toNat : Int) * 256)) (IntKind.i64.wrap (s[k + 1].toNat : Int)) = byteAt s k * 256 + byteAt s (k + 1) := by
        rw [← e0, ← e1, ← ho, IntWalk.i64_left, IntWalk.i64_left, IntWalk.i64_left, IntWalk.wrap64_in (byteAt s k) ⟨by omega, by omega⟩, IntWalk.wrap64_in (byteAt s (k + 1)) ⟨by omega, by omega⟩, IntWalk.wrap64_in (byteAt s k * 256) ⟨by omega, by omega⟩]
      rw [hx, ← hz] at hy
      clear hz ho
      gi_wp2
      have hR' := hR.mono (R' := fun e W' => ∃ b : Bool, e = .returned (.bool b) ∧ (b = true → J (pre ++ [x]) W' ∧ Keeps Bn wr.drew W') ∧ (b = false → Jx (pre ++ [x]) W')) (by
        rintro e W' (⟨rfl, h1, h2⟩ | ⟨rfl, h1⟩)
        · exact ⟨true, rfl, fun _ => ⟨h1, h2⟩, fun h => by cases h⟩
        · exact ⟨false, rfl, (fun h => by cases h), fun _ => h1⟩)
      clear hR
      gi_region_with_o (refine hR'.mono ?_; rintro e W3 ⟨b, rfl, hb⟩)
      all_goals cases b
      all_goals gi_wp2
      all_goals (try (have h3 := hb.1 (by first | rfl | trivial)
                      have hc3 : W3.cell? ⟨Bn, 0, none⟩ = some (.string s) := h3.2.2.trans hcell
                      go_roundw
                      case rel => exact ⟨k + 2, pre ++ [x], by go_num, by omega, by omega, (by simp; omega), by rw [total_snoc, htot, hx, part_two _ _ hk2], hc3, h3.1⟩
                      case measure => simp [intOf]; omega))
      all_goals (refine bodyPost_ret (results_none rfl _ _ _) rfl ?_)
      all_goals exact ⟨⟨_, rfl⟩, .inr ⟨_, hb.2 (by first | rfl | trivial)⟩⟩
    · obtain rfl : k = m := by omega
      rcases hm1 with hm1 | hm1
      · have hz : ¬ ((k : Int) < (s.size : Int)) := by omega
        have hz' : (s.size : Int) ≤ (k : Int) := by omega
        gi_wp2
        go_end0
        exact ⟨⟨_, rfl⟩, .inl ⟨pre, by rw [htot, hm1], hJs⟩⟩
      · have a0 : (k : Int) < (s.size : Int) := by omega
        have hk' : k < s.size := by omega
        have hb0 := byteAt_range s k
        have e0 := byteAt_in s k hk'
        obtain ⟨x, hx⟩ : ∃ x : Half, x.1 = byteAt s k * 256 := ⟨⟨_, by omega⟩, rfl⟩
        obtain ⟨fn, tmps, assign, body, hy, hR⟩ := hY pre x wr hJs (by omega)
        rw [hx, e0] at hy
        gi_wp2
        refine hR.mono ?_
        rintro e W3 (⟨rfl, hJ3, hk3⟩ | ⟨rfl, hJx3⟩)
        · gi_wp2
          go_end0
          exact ⟨⟨_, rfl⟩, .inl ⟨pre ++ [x], by rw [total_snoc, htot, hx, part_one _ _ hk2, hm1], hJ3⟩⟩
        · gi_wp2
          go_end0
          exact ⟨⟨_, rfl⟩, .inr ⟨_, trivial, hJx3⟩⟩
end Go.Proofs.Ythjdcgckonckoaa
