/-
  What an op makes of a net; contracts of impl's small functions below doOp: the place, what leaves, a text taken out of a list.
-/
import Derived.Test.YthjdcgckonckoaaNetSend
import Derived.Test.YthjdcgckonckoaaShows
import Derived.Lib.OwnBridge
import Derived.Handy
namespace Go.Proofs.Ythjdcgckonckoaa
open Go.ChangeShapes Go.WideShapes Go.ChangeAt Go.RowKit
set_option linter.unusedVariables false

/-- The place that an op means. -/
def placeOf (at_ : Int) (n : Nat) : Nat := (at_ % (n : Int)).toNat

theorem placeOf_lt (at_ : Int) (n : Nat) (h : 0 < n) : placeOf at_ n < n := by
  have h1 := Int.emod_nonneg at_ (show (n : Int) ≠ 0 by omega)
  have h2 := Int.emod_lt_of_pos at_ (show (0 : Int) < (n : Int) by omega)
  unfold placeOf
  omega

/-- A list without the text at a place. -/
def without (ss : List ByteArray) (i : Nat) : List ByteArray := ss.take i ++ ss.drop (i + 1)

theorem without_len (ss : List ByteArray) (i n : Nat) (hl : ss.length = n) (hi : i < n) : (without ss i).length = n - 1 := by
  simp only [without, List.length_append, List.length_take, List.length_drop]
  omega

/-- What an op makes of a net that is as it should be and has a text: the texts, what arrives, whether it does. -/
def befallen (ss : List ByteArray) (i : Nat) (kind half turn : Int) : List ByteArray × ByteArray × Bool :=
  if kind = 0 then (without ss i, ByteArray.empty, false)
  else if kind = 1 then (if ss.length < 200 then ss ++ [txt ss i] else ss, ByteArray.empty, false)
  else if kind = 2 then (if shows (txt ss i) half turn = true then ss.set i (turnOf (txt ss i) half turn) else ss, ByteArray.empty, false)
  else if kind = 3 then (without ss i ++ [txt ss i], ByteArray.empty, false)
  else if kind = 4 then (without ss i, txt ss i, true)
  else (ss, ByteArray.empty, false)

/-- What NetDo answers. -/
def netDo (ss : List ByteArray) (kind at_ half turn : Int) : List ByteArray × ByteArray × Bool :=
  if netOk ss = true ∧ 0 < ss.length then befallen ss (placeOf at_ ss.length) kind half turn else (ss, ByteArray.empty, false)

theorem placeAmong (at_ : Int) (n : Nat) (h0 : 0 < n) (hn : n ≤ 1048576) (w : World) :
    Calls Try.prog 30 #[.int .i64 at_, .int .i64 (n : Int)] w fun e w' => e = .returned (.int .i64 (placeOf at_ n : Int)) ∧ w = w' := by
  have hne : ((n : Int) == 0) = false := by simp; omega
  have e1 : at_.tmod (n : Int) = if 0 ≤ at_ then at_ % (n : Int) else -((-at_) % (n : Int)) := by
    by_cases h : 0 ≤ at_
    · rw [if_pos h, Int.tmod_eq_emod_of_nonneg h]
    · rw [if_neg h]
      have := Int.neg_tmod (-at_) (n : Int)
      rw [Int.neg_neg] at this
      rw [this, Int.tmod_eq_emod_of_nonneg (by omega)]
  have r1 : -(n : Int) < at_.tmod (n : Int) ∧ at_.tmod (n : Int) < (n : Int) := by
    have a1 := Int.emod_nonneg at_ (show (n : Int) ≠ 0 by omega)
    have a2 := Int.emod_lt_of_pos at_ (show (0 : Int) < (n : Int) by omega)
    have a3 := Int.emod_nonneg (-at_) (show (n : Int) ≠ 0 by omega)
    have a4 := Int.emod_lt_of_pos (-at_) (show (0 : Int) < (n : Int) by omega)
    rw [e1]
    split <;> omega
  have e2 : (at_.tmod (n : Int) + (n : Int)).tmod (n : Int) = (placeOf at_ n : Int) := by
    rw [Int.tmod_eq_emod_of_nonneg (by omega), Int.add_emod_right, Int.tmod_def]
    have e3 : (at_ - (n : Int) * at_.tdiv (n : Int)) % (n : Int) = at_ % (n : Int) := by
      rw [Int.sub_mul_emod_self_left]
    rw [e3]
    have a1 := Int.emod_nonneg at_ (show (n : Int) ≠ 0 by omega)
    unfold placeOf
    omega
  have hw : Hid (wrap64 (at_.tmod (n : Int) + (n : Int)) = at_.tmod (n : Int) + (n : Int)) := IntWalk.wrap64_in _ ⟨by omega, by omega⟩
  replace e2 : Hid _ := e2
  clear e1 r1
  go_enter Try.func30, Try.ntmps30
  go_wp2
  go_ret
  refine ⟨?_, rfl⟩
  show Ending.returned (Value.int .i64 ((wrap64 (at_.tmod (n : Int) + (n : Int))).tmod (n : Int))) = _
  rw [hw.out, e2.out]

theorem delText (B g n cap i : Nat) (ss : List ByteArray) (hi : i < n) (w : World) (T : Texts w B g n cap ss) :
    Calls Try.prog 37 #[.slice (some ⟨g, 0, none⟩) n cap, .int .i64 (i : Int), .int .i64 ((i : Int) + 1)] w fun e w' => e = .returned (.slice (some ⟨g, 0, none⟩) (n - 1) cap) ∧ Texts w' B g (n - 1) cap (without ss i) ∧ Touch g w w' := by
  obtain ⟨ii, hii, _, hz1, _⟩ := info_parts info_str
  have hl := T.len
  have hr := T.room
  unfold maxLen at hr
  have hH : Sort.Holds Value.string w g 0 ss.toArray := by
    intro j hj
    have hj' : j < ss.length := by simpa using hj
    refine ⟨?_, T.free _⟩
    rw [Nat.zero_add, T.cell j (by omega)]
    simp [txt, List.getD, getElem!_pos, hj']
  have hd := Try.slices_Delete Value.string (fun _ => rfl) ByteArray.empty (fun wx => by rw [Try.zeroValue9]; rfl) ii hii hz1 g 0 cap i (i + 1) ss.toArray w hH (by simp; omega) (by omega) (by omega) (by simp; omega)
  have e1 : ss.toArray.size = n := by simpa using hl
  rw [e1] at hd
  refine hd.mono ?_
  rintro _ _ ⟨rfl, q, rfl⟩
  have hy : (ss.toArray.toList.take i ++ ss.toArray.toList.drop (i + 1) ++ List.replicate (i + 1 - i) ByteArray.empty).length = n := by
    simp
    omega
  have hown := Lib.ownsRow_putRow (q := q) (k := n - 1) T.2 hy (by omega)
  refine ⟨by rw [show i + 1 - i = 1 by omega], ⟨without_len ss i n hl hi, ?_⟩, ?_⟩
  · have e2 : (ss.toArray.toList.take i ++ ss.toArray.toList.drop (i + 1) ++ List.replicate (i + 1 - i) ByteArray.empty).take (n - 1) = without ss i := by
      rw [List.take_left' (by simp; omega)]
      rfl
    rw [e2] at hown
    exact hown
  · refine ⟨rfl, rfl, rfl, by simp [Sort.ahead], fun k hk hne => ?_⟩
    simp [Sort.putRow, Sort.mapBlock, Sort.ahead, Array.getElem?_modify, Ne.symm hne]
end Go.Proofs.Ythjdcgckonckoaa
