/-
  Contracts of the laws' functions over lists of numbers: copied, held against another, marked, the marks looked for.
-/
import Derived.Test.YtppmanjeeffddaaNum
import Derived.Test.YtppmanjeeffddaaCalm
import Derived.Laws.ByValue
import Derived.Maps.RangeWalk
namespace Go.Proofs.Ytppmanjeeffddaa
open Go.ChangeShapes Go.WideShapes Go.ChangeAt Go.RowKit Go.Deep
set_option linter.unusedVariables false

theorem cells_zeroI : ∀ n : Nat, shI.cells (List.replicate n 0) = List.replicate n (.int .i64 0)
  | 0 => rfl
  | n + 1 => by
    have := cells_zeroI n
    rw [List.replicate_succ, List.replicate_succ, ← this]
    rfl

theorem made_num {w : World} {B g n : Nat} (h : w.ownsRow B 3 1 (.slice (some ⟨g, 0, none⟩) n n) n (madeCells #[.int .i64 0] n).toList) : Held shI w B g n n (List.replicate n 0) := by
  refine Held.of_owns (by simp) ?_ h
  rw [cells_zeroI n]
  apply List.ext_getElem?
  intro j
  by_cases hj : j < n
  · simp only [madeCells, Array.getElem?_toList, List.getElem?_replicate, hj, if_true]
    have h : j % 1 = 0 := by omega
    simp [hj, h]
  · simp [madeCells, hj]

set_option maxHeartbeats 1000000 in
theorem toInts (a : Option Addr) (n cap : Nat) (ns : List Int) (hn : n ≤ 1048576) (w : World) (R : Rd shI w a n ns) :
    Calls Try.prog 24 #[.slice a n cap] w fun e w' => ∃ g, e = .returned (.slice (some ⟨g, 0, none⟩) n n) ∧ Held shI w' w.heap.size g n n ns ∧ Since w w' := by
  obtain ⟨ii, hi, hz0, hz1, hz2⟩ := info_parts info_I
  go_enter Try.func24, Try.ntmps24
  go_wp2_with (refine wpList_make_full _ rfl _ _ 24 rfl w.heap.size 3 ii (.int .i64 0) 1 Try.underlying24 hi hz0 hz1 .i64 .i64 _ _ n rfl rfl rfl rfl ?c1 ?c2 (Nat.le_refl _) ?_)
  case c1 => rw [hz2]; omega
  case c2 => unfold maxLen; omega
  intro w1 hown hgrow
  have T0 := made_num hown
  have S0 : Since w w1 := ⟨hgrow.os, hgrow.tape, hgrow.output, hgrow.size, fun k hk => hgrow.block k hk (by simp)⟩
  generalize hg : w.heap.size = g at T0 hown ⊢
  go_wp2
  go_loopw [4] (fun i wr => ∃ (k : Nat), k ≤ n ∧ i = .int .i64 k ∧ Held shI wr g g n n (ns.take k ++ List.replicate (n - k) 0) ∧ Since w wr) (fun i _ => n - (intOf i).toNat)
  case atStart => exact ⟨0, by omega, rfl, by simpa using T0, S0⟩
  case round =>
    obtain ⟨k, hk, rfl, T, S⟩ := hrel
    have Rr := R.since S
    by_cases hlt : k < n
    · obtain ⟨x, rfl, hb, q0⟩ := Rr.num k hlt
      have hlt' : (k : Int) < (n : Int) := by omega
      generalize hO : iAt ns k = O at q0
      have d0 := T.num k hlt
      have f0 := T.free k
      have hT := T.setI k hlt O
      have e := shI.take_set ns n k R.len hlt
      rw [show shI.get ns k = O from hO, show shI.z = 0 from rfl] at e
      rw [e] at hT
      clear e
      go_wp2
      go_roundw
      case rel => exact ⟨k + 1, by omega, by go_num, hT, since_put1 S (by omega) _ _⟩
      case measure => simp [intOf]; omega
    · have hkn : k = n := by omega
      subst hkn
      go_wp2
      go_ret
      refine ⟨g, rfl, ?_, S⟩
      have e : ns.take k ++ List.replicate (k - k) (0 : Int) = ns := by simp [List.take_of_length_le (Nat.le_of_eq R.len)]
      rw [e] at T
      exact T.raise (by omega)

set_option maxHeartbeats 1000000 in
theorem eqInts (a b : Option Addr) (n ca cb : Nat) (ns : List Int) (hn : n ≤ 1048576) (w : World) (T : Rd shI w a n ns) (T' : Rd shI w b n ns) :
    Calls Try.prog 25 #[.slice a n ca, .slice b n cb] w fun e w' => e = .returned (.bool true) ∧ Since w w' := by
  go_enter Try.func25, Try.ntmps25
  go_wp2
  go_loopw [5] (fun i wr => ∃ (k : Nat), k ≤ n ∧ i = .int .i64 k ∧ Since w wr) (fun i _ => n - (intOf i).toNat)
  case atStart => exact ⟨0, by omega, rfl, Since.refl _⟩
  case round =>
    obtain ⟨k, hk, rfl, S⟩ := hrel
    by_cases hlt : k < n
    · obtain ⟨x, rfl, hb, q0⟩ := (T.since S).num k hlt
      obtain ⟨y, rfl, hb', r0⟩ := (T'.since S).num k hlt
      have hlt' : (k : Int) < (n : Int) := by omega
      generalize iAt ns k = O at q0 r0
      clear T T'
      go_wp2
      go_quiet (fail)
      go_wp2
      go_roundw
      case rel => exact ⟨k + 1, by omega, by go_num, since_drews S _⟩
      case measure => simp [intOf]; omega
    · have hkn : k = n := by omega
      subst hkn
      clear T T'
      go_wp2
      go_ret
      exact ⟨rfl, S⟩

/-- Number j is k + j. -/
def MarkedI (k : Int) (n : Nat) (ns : List Int) : Prop := ∀ j, j < n → iAt ns j = k + (j : Int)

theorem iAt_set_same (ns : List Int) (i : Nat) (x : Int) (h : i < ns.length) : iAt (ns.set i x) i = x := by
  simp [iAt, List.getD, h]

theorem iAt_set_other (ns : List Int) (i j : Nat) (x : Int) (h : i ≠ j) : iAt (ns.set i x) j = iAt ns j := by
  simp [iAt, List.getD, h]

set_option maxHeartbeats 1000000 in
theorem markIntsH (B g n cap : Nat) (ns : List Int) (k : Int) (hk0 : 1 ≤ k) (hk1 : k + n ≤ 1073741824) (w : World) (T : Held shI w B g n cap ns) :
    Calls Try.prog 26 #[.slice (some ⟨g, 0, none⟩) n cap, .int .i64 k] w fun e w' => e = .returned (.int .i64 (k + n)) ∧ Touch g w w' ∧ ∃ ms, MarkedI k n ms ∧ Held shI w' B g n cap ms := by
  go_enter Try.func26, Try.ntmps26
  go_wp2
  go_loopw [1, 5] (fun q i wr => ∃ (j : Nat) (ms : List Int), j ≤ n ∧ i = .int .i64 j ∧ q = .int .i64 (k + j) ∧ Hid (MarkedI k j ms) ∧ Held shI wr B g n cap ms ∧ Touch g w wr) (fun _ i _ => n - (intOf i).toNat)
  case atStart => exact ⟨0, ns, by omega, rfl, by simp, fun j hj => by omega, T, Touch.refl _ _⟩
  case round =>
    obtain ⟨j, ms, hj, rfl, rfl, hM, Tr, S⟩ := hrel
    by_cases hlt : j < n
    · have hlt' : (j : Int) < (n : Int) := by omega
      clear T
      have c0 := Tr.num j hlt
      have f0 := Tr.free j
      have hT := Tr.setI j hlt (k + j)
      go_wp2
      go_roundw
      case rel =>
        refine ⟨j + 1, ms.set j (k + j), by omega, by go_num, ?_, ?_, hT, S.put _ _⟩
        · go_num
        · intro i hi
          by_cases e : i = j
          · subst e
            exact iAt_set_same _ _ _ (by rw [Tr.1]; exact hlt)
          · rw [iAt_set_other _ _ _ _ (Ne.symm e)]
            exact hM.out i (by omega)
      case measure => simp [intOf]; omega
    · have hjn : j = n := by omega
      subst hjn
      go_wp2
      go_ret
      exact ⟨rfl, S, ms, hM.out, Tr⟩

theorem markInts (B n : Nat) (v : Value) (ns : List Int) (k : Int) (hk0 : 1 ≤ k) (hk1 : k + n ≤ 1073741824) (w : World) (T : Own shI w B v n ns) :
    Calls Try.prog 26 #[v, .int .i64 k] w fun e w' => e = .returned (.int .i64 (k + n)) ∧ w.grownBy w' v.ownBlock ∧ ∃ ms, MarkedI k n ms ∧ Own shI w' B v n ms := by
  rcases T.cases with ⟨rfl, rfl, rfl⟩ | ⟨g, cap, rfl, H⟩
  · go_enter Try.func26, Try.ntmps26
    go_wp2
    refine wp_loop_rounds 1 ?_
    rw [rounds_succ]
    go_wp2
    go_ret
    exact ⟨by simp, World.grownBy.refl _ _, [], fun j hj => by omega, T⟩
  · exact (markIntsH B g n cap ns k hk0 hk1 w H).mono fun e w' ⟨h1, h2, ms, h3, h4⟩ => ⟨h1, grown_of_touch h2, ms, h3, h4⟩

set_option maxHeartbeats 1000000 in
theorem heldInts (a : Option Addr) (n cap : Nat) (ms : List Int) (k : Int) (hk0 : 1 ≤ k) (hk1 : k + n ≤ 1073741824) (w : World) (R : Rd shI w a n ms) (hM : MarkedI k n ms) :
    Calls Try.prog 27 #[.slice a n cap, .int .i64 k] w fun e w' => e = .returned (.int .i64 (k + n)) ∧ Since w w' := by
  go_enter Try.func27, Try.ntmps27
  go_wp2
  go_loopw [1, 5] (fun q i wr => ∃ (j : Nat), j ≤ n ∧ i = .int .i64 j ∧ q = .int .i64 (k + j) ∧ w = wr) (fun _ i _ => n - (intOf i).toNat)
  case atStart => exact ⟨0, by omega, rfl, by simp, rfl⟩
  case round =>
    obtain ⟨j, hj, rfl, rfl, rfl⟩ := hrel
    by_cases hlt : j < n
    · obtain ⟨x, rfl, hb, c0⟩ := R.num j hlt
      rw [hM j hlt] at c0
      have hlt' : (j : Int) < (n : Int) := by omega
      clear R hM
      go_wp2
      go_roundw
      case rel => exact ⟨j + 1, by omega, by go_num, by go_num, by trivial⟩
      case measure => simp [intOf]; omega
    · have hjn : j = n := by omega
      subst hjn
      clear R
      go_wp2
      go_ret
      exact ⟨rfl, Since.refl _⟩
end Go.Proofs.Ytppmanjeeffddaa
