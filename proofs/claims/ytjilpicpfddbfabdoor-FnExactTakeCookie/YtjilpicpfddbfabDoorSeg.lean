/-
  Contracts of impl's and spec's SegOk and SegSpan, of the flags of a segment, and of the laws' copying of a segment, at every segment.
-/
import Derived.Test.YtjilpicpfddbfabDoorM1
namespace Go.Proofs.YtjilpicpfddbfabDoor
open Go.ChangeShapes Go.WideShapes Go.ChangeAt Go.RowKit
set_option linter.unusedVariables false
set_option maxRecDepth 10000

theorem isInt_wf {x : Int} (h : (Lit.int .i64 x).wf = true) : IsInt x := by
  have := bounds_i64 h
  unfold IsInt
  omega

/-- A segment as a value. -/
def segVal (fr to sq ak fl wn ms : Int) (d : ByteArray) : Value := .agg #[.int .i64 fr, .int .i64 to, .int .u32 sq, .int .u32 ak, .int .i64 fl, .int .i64 wn, .int .i64 ms, .string d]

/-- Whether flags have a flag. -/
def hasF (fl b : Int) : Bool := decide (0 ≤ fl) && decide (fl / b % 2 = 1)

/-- The flags there are. -/
def IsFlag (b : Int) : Prop := b = 1 ∨ b = 2 ∨ b = 4 ∨ b = 8 ∨ b = 16

theorem and_pow (x i : Nat) : x &&& 2 ^ i = if x / 2 ^ i % 2 = 1 then 2 ^ i else 0 := by
  apply Nat.eq_of_testBit_eq
  intro j
  rw [Nat.testBit_and, Nat.testBit_two_pow]
  by_cases h : i = j
  · subst h
    by_cases k : x / 2 ^ i % 2 = 1
    · rw [if_pos k, Nat.testBit_two_pow, Nat.testBit_eq_decide_div_mod_eq, decide_eq_true k]
      simp
    · rw [if_neg k, Nat.testBit_eq_decide_div_mod_eq, decide_eq_false k]
      simp
  · by_cases k : x / 2 ^ i % 2 = 1
    · simp [k, h]
    · simp [k, h]

theorem and_flag (x : Nat) (hx : x < 9223372036854775808) (i : Nat) (hi : i ≤ 4) : bits .and .i64 (x : Int) ((2 ^ i : Nat) : Int) = if x / 2 ^ i % 2 = 1 then ((2 ^ i : Nat) : Int) else 0 := by
  have hp : 2 ^ i < 9223372036854775808 := Nat.lt_of_le_of_lt (Nat.pow_le_pow_right (by decide) hi) (by decide)
  rw [(bits_nat .i64 63 (by decide) (fun n h2 h3 => by rw [IntWalk.i64_left]; exact IntWalk.wrap64_in _ ⟨by omega, by omega⟩) x (2 ^ i) (by simpa using hx) (by simpa using hp)).1]
  rw [and_pow]
  by_cases h : x / 2 ^ i % 2 = 1
  · rw [if_pos h, if_pos h]
  · rw [if_neg h, if_neg h]
    rfl

theorem and_has (fl b : Int) (h0 : 0 ≤ fl) (h1 : fl ≤ 9223372036854775807) (hb : IsFlag b) : (bits .and .i64 fl b == 0) = !hasF fl b := by
  have h2 : ((fl.toNat : Nat) : Int) = fl := Int.toNat_of_nonneg h0
  have key : ∀ i : Nat, i ≤ 4 → (bits .and .i64 fl ((2 ^ i : Nat) : Int) == 0) = !hasF fl ((2 ^ i : Nat) : Int) := fun i hi => by
    have e := and_flag fl.toNat (by omega) i hi
    rw [h2] at e
    rw [e]
    have h3 : (fl / ((2 ^ i : Nat) : Int) % 2 = 1) ↔ (fl.toNat / 2 ^ i % 2 = 1) := by
      rw [← h2]
      norm_cast
    unfold hasF
    by_cases h : fl.toNat / 2 ^ i % 2 = 1
    · have hp : ((2 ^ i : Nat) : Int) ≠ 0 := by
        have := Nat.two_pow_pos i
        omega
      rw [if_pos h, decide_eq_true (h3.2 h), decide_eq_true h0]
      simpa using hp
    · rw [if_neg h, decide_eq_false (fun k => h (h3.1 k))]
      simp
  rcases hb with h | h | h | h | h <;> subst h
  · exact key 0 (by decide)
  · exact key 1 (by decide)
  · exact key 2 (by decide)
  · exact key 3 (by decide)
  · exact key 4 (by decide)

theorem hasFlag (fl b : Int) (hf : IsInt fl) (hb : IsFlag b) (w : World) :
    Calls Tryd.prog 48 #[.int .i64 fl, .int .i64 b] w fun e w' => e = .returned (.bool (hasF fl b)) ∧ w = w' := by
  by_cases h0 : 0 ≤ fl
  · have h1 := and_has fl b h0 hf.2 hb
    generalize hasF fl b = r at h1 ⊢
    go_enter Tryd.func48, Tryd.ntmps48
    go_wp2
    go_ret
    refine ⟨?_, rfl⟩
    simp [bne, h1]
  · rw [show hasF fl b = false by simp [hasF, h0]]
    go_enter Tryd.func48, Tryd.ntmps48
    go_wp2
    go_ret
    exact ⟨rfl, rfl⟩

theorem specHas (fl b : Int) (h0 : 0 ≤ fl) (hf : IsInt fl) (hb : IsFlag b) (w : World) :
    Calls Tryd.prog 24 #[.int .i64 fl, .int .i64 b] w fun e w' => e = .returned (.bool (hasF fl b)) ∧ w = w' := by
  have hd := Int.tdiv_eq_ediv_of_nonneg (a := fl) (b := b) h0
  have hb0 : 0 < b := by rcases hb with h | h | h | h | h <;> omega
  have hq : 0 ≤ fl / b := Int.ediv_nonneg h0 (by omega)
  have hm := Int.tmod_eq_emod_of_nonneg (a := fl / b) (b := 2) hq
  have hle : fl / b ≤ fl := Int.ediv_le_self _ h0
  have hn : (b == 0) = false := by simp; omega
  have hw : IntKind.i64.wrap (fl / b) = fl / b := by rw [IntWalk.i64_left]; exact IntWalk.wrap64_in _ ⟨by omega, by have := hf.2; omega⟩
  have e : hasF fl b = (fl / b % 2 == 1) := by simp [hasF, h0, BEq.beq]
  rw [e]
  go_enter Tryd.func24, Tryd.ntmps24
  go_wp2
  go_ret
  refine ⟨?_, rfl⟩
  simp

theorem toSeg (fr to sq ak fl wn ms : Int) (d : ByteArray) (w : World) :
    Calls Tryd.prog 8 #[segVal fr to sq ak fl wn ms d] w fun e w' => e = .returned (segVal fr to sq ak fl wn ms d) ∧ Since w w' := by
  unfold segVal
  go_enter Tryd.func8, Tryd.ntmps8
  go_wp2
  refine bodyPost_ret (v := .agg #[.int .i64 fr, .int .i64 to, .int .u32 sq, .int .u32 ak, .int .i64 fl, .int .i64 wn, .int .i64 ms, .string d]) ?_ rfl ⟨rfl, by repeat (first | exact Since.refl _ | apply Since.drew | apply Since.alloc)⟩
  simp [results, go_sem]

theorem szSeg (fr to sq ak fl wn ms : Int) (d : ByteArray) (l : Int) (hl : 0 ≤ l ∧ l ≤ 1048576) (hd : d.size ≤ 9223372036854775807) (w : World) :
    Calls Tryd.prog 5 #[segVal fr to sq ak fl wn ms d, .int .i64 l] w fun e w' => e = .returned (.int .i64 (if (d.size : Int) ≤ l then l - d.size else -1)) ∧ Since w w' := by
  unfold segVal
  by_cases h : (d.size : Int) ≤ l
  · rw [if_pos h]
    go_enter Tryd.func5, Tryd.ntmps5
    go_wp2
    go_ret
    exact ⟨rfl, by repeat (first | exact Since.refl _ | apply Since.drew | apply Since.alloc)⟩
  · rw [if_neg h]
    go_enter Tryd.func5, Tryd.ntmps5
    go_wp2
    go_ret
    exact ⟨rfl, by repeat (first | exact Since.refl _ | apply Since.drew | apply Since.alloc)⟩
end Go.Proofs.YtjilpicpfddbfabDoor
