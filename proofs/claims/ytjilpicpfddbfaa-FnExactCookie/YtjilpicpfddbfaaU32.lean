/-
  Lists of words of 32 bits: the shape, the laws' copy of one, and two of them held against each other.
-/
import Derived.Test.YtjilpicpfddbfaaTab
import Derived.Test.YtjilpicpfddbfaaTabApp
import Derived.Test.YtjilpicpfddbfaaCalm
import Derived.Laws.ByValue
import Derived.Maps.RangeWalk
namespace Go.Proofs.Ytjilpicpfddbfaa
open Go.ChangeShapes Go.WideShapes Go.ChangeAt Go.RowKit Go.Deep
set_option linter.unusedVariables false
set_option maxRecDepth 10000

/-- A word. -/
def shU : Shape Int := ⟨22, 1, fun x => [.int .u32 x], fun _ => rfl, fun x v hv => by simp at hv; subst hv; rfl, 0, by decide⟩

/-- Word i. -/
def uAt (ns : List Int) (i : Nat) : Int := ns.getD i 0

theorem info_U : (Try.prog.info? 22).map (fun i => (i.zero, i.size, i.bytes)) = some (some (.int .u32 0), 1, 4) := by kernel_rfl

theorem Rd.numU {w : World} {a : Option Addr} {n : Nat} {ns : List Int} (h : Rd shU w a n ns) (i : Nat) (hi : i < n) : ∃ x, a = some x ∧ x.block < w.heap.size ∧ w.cell? (x.add i) = some (.int .u32 (uAt ns i)) := by
  obtain ⟨x, e, hb, hc⟩ := h.cell i hi
  have h0 := hc 0 (by decide)
  refine ⟨x, e, hb, ?_⟩
  rw [show i * shU.k + 0 = i by simp [shU]] at h0
  exact h0

theorem Held.numU {w : World} {B g n cap : Nat} {ns : List Int} (h : Held shU w B g n cap ns) (i : Nat) (hi : i < n) : w.cell? ⟨g, i, none⟩ = some (.int .u32 (uAt ns i)) := by
  have := h.cell i hi 0 (by decide)
  rw [show i * shU.k + 0 = i by simp [shU]] at this
  exact this

theorem Held.setU {w : World} {B g n cap : Nat} {ns : List Int} (h : Held shU w B g n cap ns) (i : Nat) (hi : i < n) (x : Int) : Held shU (w.setCell ⟨g, i, none⟩ (.int .u32 x)) B g n cap (ns.set i x) := by
  have := h.set i hi x
  rw [show i * shU.k = i by simp [shU]] at this
  exact this

theorem cells_zeroU : ∀ n : Nat, shU.cells (List.replicate n 0) = List.replicate n (.int .u32 0)
  | 0 => rfl
  | n + 1 => by
    have := cells_zeroU n
    rw [List.replicate_succ, List.replicate_succ, ← this]
    rfl

theorem made_numU {w : World} {B g n : Nat} (h : w.ownsRow B 22 1 (.slice (some ⟨g, 0, none⟩) n n) n (madeCells #[.int .u32 0] n).toList) : Held shU w B g n n (List.replicate n 0) := by
  refine Held.of_owns (by simp) ?_ h
  rw [cells_zeroU n]
  apply List.ext_getElem?
  intro j
  by_cases hj : j < n
  · simp only [madeCells, Array.getElem?_toList, List.getElem?_replicate, hj, if_true]
    have h : j % 1 = 0 := by omega
    simp [hj, h]
  · simp [madeCells, hj]

set_option maxHeartbeats 1000000 in
theorem toUints (a : Option Addr) (n cap : Nat) (ns : List Int) (hn : n ≤ 1048576) (w : World) (R : Rd shU w a n ns) :
    Calls Try.prog 7 #[.slice a n cap] w fun e w' => ∃ g, e = .returned (.slice (some ⟨g, 0, none⟩) n n) ∧ Held shU w' w.heap.size g n n ns ∧ Since w w' := by
  obtain ⟨ii, hi, hz0, hz1, hz2⟩ := info_parts info_U
  go_enter Try.func7, Try.ntmps7
  go_wp2_with (refine wpList_make_full _ rfl _ _ 23 rfl w.heap.size 22 ii (.int .u32 0) 1 Try.underlying23 hi hz0 hz1 .i64 .i64 _ _ n rfl rfl rfl rfl ?c1 ?c2 (Nat.le_refl _) ?_)
  case c1 => rw [hz2]; omega
  case c2 => unfold maxLen; omega
  intro w1 hown hgrow
  have T0 := made_numU hown
  have S0 : Since w w1 := ⟨hgrow.os, hgrow.tape, hgrow.output, hgrow.size, fun k hk => hgrow.block k hk (by simp)⟩
  generalize hg : w.heap.size = g at T0 hown ⊢
  go_wp2
  go_loopw [4] (fun i wr => ∃ (k : Nat), k ≤ n ∧ i = .int .i64 k ∧ Held shU wr g g n n (ns.take k ++ List.replicate (n - k) 0) ∧ Since w wr) (fun i _ => n - (intOf i).toNat)
  case atStart => exact ⟨0, by omega, rfl, by simpa using T0, S0⟩
  case round =>
    obtain ⟨k, hk, rfl, T, S⟩ := hrel
    have Rr := R.since S
    by_cases hlt : k < n
    · obtain ⟨x, rfl, hb, q0⟩ := Rr.numU k hlt
      have hlt' : (k : Int) < (n : Int) := by omega
      generalize hO : uAt ns k = O at q0
      have d0 := T.numU k hlt
      have f0 := T.free k
      have hT := T.setU k hlt O
      have e := shU.take_set ns n k R.len hlt
      rw [show shU.get ns k = O from hO, show shU.z = 0 from rfl] at e
      rw [e] at hT
      clear e
      go_wp2
      go_roundw
      case rel => exact ⟨k + 1, by omega, by go_num, hT, since_put1 S (by omega) _ _⟩
      case measure => simp [intOf]; omega
    · have hkn : k = n := by omega
      subst hkn
      go_wp2
      go_ret
      refine ⟨g, rfl, ?_, S⟩
      have e : ns.take k ++ List.replicate (k - k) (0 : Int) = ns := by simp [List.take_of_length_le (Nat.le_of_eq R.len)]
      rw [e] at T
      exact T.raise (by omega)

set_option maxHeartbeats 1000000 in
theorem eqUints (a b : Option Addr) (n ca cb : Nat) (ns : List Int) (hn : n ≤ 1048576) (w : World) (T : Rd shU w a n ns) (T' : Rd shU w b n ns) :
    Calls Try.prog 9 #[.slice a n ca, .slice b n cb] w fun e w' => e = .returned (.bool true) ∧ Since w w' := by
  go_enter Try.func9, Try.ntmps9
  go_wp2
  go_loopw [5] (fun i wr => ∃ (k : Nat), k ≤ n ∧ i = .int .i64 k ∧ Since w wr) (fun i _ => n - (intOf i).toNat)
  case atStart => exact ⟨0, by omega, rfl, Since.refl _⟩
  case round =>
    obtain ⟨k, hk, rfl, S⟩ := hrel
    by_cases hlt : k < n
    · obtain ⟨x, rfl, hb, q0⟩ := (T.since S).numU k hlt
      obtain ⟨y, rfl, hb', r0⟩ := (T'.since S).numU k hlt
      have hlt' : (k : Int) < (n : Int) := by omega
      generalize uAt ns k = O at q0 r0
      clear T T'
      go_wp2
      go_quiet (fail)
      go_wp2
      go_roundw
      case rel => exact ⟨k + 1, by omega, by go_num, since_drews S _⟩
      case measure => simp [intOf]; omega
    · have hkn : k = n := by omega
      subst hkn
      clear T T'
      go_wp2
      go_ret
      exact ⟨rfl, S⟩
end Go.Proofs.Ytjilpicpfddbfaa
