/-
  Proved: for every code the law FnWindow returns true (bytes lie in a window as one by one), and its argument reads as before; no condition.
  The frame was written by program (the guide's proof-skeleton); the walk and what it rests on are typed.
-/
import Derived.Test.YtffjedjkfhdolaaRows
import Derived.Test.YtffjedjkfhdolaaOver
import Derived.Test.YtffjedjkfhdolaaDrawOver
import Derived.LoopTactic
import Derived.WalkKit
import Derived.ProofKit
import Derived.OpenShut
import Derived.ShutString
import Derived.ChangeOld
import Derived.Below
namespace Go.Proofs.Ytffjedjkfhdolaa.fnWindow
open Go.ChangeShapes Go.WideShapes Go.ChangeAt Go.RowKit
open Go.ChangeMaps (open_string shut_string)
set_option linter.unusedVariables false

theorem own : ownKnob Try.prog.godebug = none := by kernel_rfl
theorem laidOut : laidOutB Try.prog = true := by kernel_rfl

/-- WHAT THE WALK IS TOLD OF A SLICE OF INTEGERS THAT CAME IN: it is nil; or it leads to a row of 'cap' cells, the numbers 'zs' (the first 'len' are its elements, the rest its spare room), each fitting its kind. -/
def IsRow (k : IntKind) (w : World) (a : Option Addr) (len cap : Nat) (zs : List Int) : Prop :=
  (a = none ∧ len = 0 ∧ cap = 0 ∧ zs = []) ∨
  ∃ x, a = some x ∧ len ≤ cap ∧ cap ≤ maxLen ∧ zs.length = cap ∧ (∀ i, i < zs.length → w.cell? (x.add i) = some (.int k (zs.getD i 0))) ∧ ∀ n ∈ zs, (Lit.int k n).wf = true

theorem big_ (a : Option Addr) (len cap : Nat) (w : World) :
    Calls Try.prog 9 #[.slice a len cap] w fun e w' => e = .returned (.bool (decide ((1048576 : Int) < (len : Int)))) ∧ w = w' := by
  go_enter Try.func9, Try.ntmps9
  go_wp2
  go_ret
  exact ⟨rfl, rfl⟩

/-- Whether a lies in the window of z places from l on. -/
def inW (a l z : Int) : Bool := decide (0 ≤ z ∧ z ≤ 2147483647 ∧ (a - l) % 4294967296 < z)

/-- Whether one of the k places from s on lies in it. -/
def anyIn (s l z : Int) : Nat → Bool
  | 0 => false
  | k + 1 => anyIn s l z k || inW ((s + (k : Int)) % 4294967296) l z

theorem anyIn_iff (s l z : Int) : ∀ k, anyIn s l z k = true ↔ ∃ j : Nat, j < k ∧ inW ((s + (j : Int)) % 4294967296) l z = true
  | 0 => by simp [anyIn]
  | k + 1 => by
    rw [anyIn, Bool.or_eq_true, anyIn_iff s l z k]
    constructor
    · rintro (⟨j, hj, h⟩ | h)
      · exact ⟨j, by omega, h⟩
      · exact ⟨k, by omega, h⟩
    · rintro ⟨j, hj, h⟩
      by_cases e : j = k
      · subst e
        exact .inr h
      · exact .inl ⟨j, by omega, h⟩

theorem any_t (s l z : Int) (k : Nat) (h : inW ((s + (k : Int)) % 4294967296) l z = true) : anyIn s l z (k + 1) = true := by
  rw [anyIn, h]
  simp

theorem any_f (s l z : Int) (k : Nat) (h : inW ((s + (k : Int)) % 4294967296) l z = false) : anyIn s l z (k + 1) = anyIn s l z k := by
  rw [anyIn, h]
  simp

/-- Overlaps, one by one. -/
def overW (s n l z : Int) : Bool := decide (1 ≤ n ∧ n ≤ 100000 ∧ 1 ≤ z ∧ z ≤ 2147483647 ∧ ((s - l) % 4294967296 < z ∨ (l - s) % 4294967296 < n))

theorem over_any (s n l z : Int) (hs : IsWord s) (hl : IsWord l) (hn : n < 100) (hz : z < 199) : overW s n l z = anyIn s l z n.toNat := by
  rw [Bool.eq_iff_iff, anyIn_iff]
  unfold overW inW
  simp only [decide_eq_true_eq]
  obtain ⟨s1, s2⟩ := hs
  obtain ⟨l1, l2⟩ := hl
  constructor
  · rintro ⟨h1, h2, h3, h4, h | h⟩
    · exact ⟨0, by omega, by omega, by omega, by omega⟩
    · exact ⟨((l - s) % 4294967296).toNat, by omega, by omega, by omega, by omega⟩
  · rintro ⟨j, hj, h1, h2, h3⟩
    omega

theorem inWindowOf (a l z : Int) (ha : IsWord a) (hl : IsWord l) (w : World) :
    Calls Try.prog 21 #[.int .u32 a, .int .u32 l, .int .i64 z] w fun e w' => e = .returned (.bool (inW a l z)) ∧ w = w' :=
  implInWindow a l z _ ha hl (by unfold IsAhead; omega) w

theorem implOver (s n l z : Int) (hs : IsWord s) (hl : IsWord l) (w : World) :
    Calls Try.prog 22 #[.int .u32 s, .int .i64 n, .int .u32 l, .int .i64 z] w fun e w' => e = .returned (.bool (overW s n l z)) ∧ w = w' :=
  implOverlaps s n l z _ _ hs hl (by unfold IsAhead; omega) (by unfold IsAhead; omega) w

theorem specOver (s n l z : Int) (hs : IsWord s) (hl : IsWord l) (w : World) :
    Calls Try.prog 23 #[.int .u32 s, .int .i64 n, .int .u32 l, .int .i64 z] w fun e w' => e = .returned (.bool (overW s n l z)) ∧ w = w' :=
  specOverlaps s n l z _ _ hs hl (by unfold IsAhead; omega) (by unfold IsAhead; omega) w

theorem word_mod (x : Int) : IsWord (x % 4294967296) := by
  unfold IsWord
  omega

theorem inW_self (l : Int) : inW l l 1 = true := by
  unfold inW
  simp

theorem inW_nine (l : Int) (hl : IsWord l) : inW ((l + 9) % 4294967296) l 10 = true := by
  obtain ⟨l1, l2⟩ := hl
  unfold inW
  simp
  omega

set_option maxRecDepth 100000 in
set_option maxHeartbeats 2000000 in
theorem walkAll (a0 : Option Addr) (len0 cap0 : Nat) (z0 : List Int) (w : World) (w0 : IsRow .u8 w a0 len0 cap0 z0) :
    Calls Try.prog 4 #[.slice a0 len0 cap0] w fun e w' => e = .returned (.bool true) ∧ Below w.heap.size w w' := by
  have hb := bytes_of_row w0
  clear w0
  by_cases hbig : (1048576 : Int) < (len0 : Int)
  · go_enter Try.func4, Try.ntmps4
    go_wp2_with (go_at_call 9; refine (big_ a0 len0 cap0 _).mono ?_; rintro _ _ ⟨rfl, rfl⟩)
    go_ret
    exact ⟨rfl, Below.refl _ _⟩
  · have hm : len0 ≤ 1048576 := by omega
    have hdraw := drawOverlaps a0 len0 cap0 z0 w hb hm
    clear hb
    go_enter Try.func4, Try.ntmps4
    go_wp2_with (first | (go_at_call 9; refine (big_ a0 len0 cap0 _).mono ?_; rintro _ _ ⟨rfl, rfl⟩) | (go_at_call 20; refine hdraw.mono ?_; rintro _ w1 ⟨s, n, l, z, rfl, hs, hl, hn, hz0, hz1, hb1⟩))
    clear hdraw
    have q1 := inW_self l
    have q2 := inW_nine l hl
    go_loop [7, 8] (fun t i => ∃ k : Nat, k ≤ 400 ∧ (k = 0 ∨ (k : Int) ≤ n) ∧ i = .int .i64 k ∧ t = .bool (anyIn s l z k)) (fun _ i => 400 - (intOf i).toNat)
    case atStart => exact ⟨0, by omega, .inl rfl, rfl, rfl⟩
    case round =>
      obtain ⟨k, hk, hkn, rfl, rfl⟩ := hrel
      by_cases h1 : (k : Int) < n
      · by_cases h2 : (k : Int) < 400
        · go_wp2_with (go_at_call 21; refine (inWindowOf _ _ _ (word_mod _) (by assumption) _).mono ?_; rintro _ _ ⟨rfl, rfl⟩)
          · have ht : anyIn s l z (k + 1) = true := any_t s l z k (by assumption)
            go_round
            case rel => exact ⟨k + 1, by omega, .inr (by omega), by go_num, by rw [ht]⟩
            case measure => simp [intOf]; omega
          · have ht : anyIn s l z (k + 1) = anyIn s l z k := any_f s l z k (by assumption)
            go_round
            case rel => exact ⟨k + 1, by omega, .inr (by omega), by go_num, by rw [ht]⟩
            case measure => simp [intOf]; omega
        · have h3 : (400 : Int) < n := by omega
          clear hkn hn
          go_wp2_with (first | (go_at_call 21; refine (inWindowOf _ _ _ (by first | assumption | exact word_mod _) (by assumption) _).mono ?_; rintro _ _ ⟨rfl, rfl⟩) | (go_at_call 22; refine (implOver _ _ _ _ (by assumption) (by assumption) _).mono ?_; rintro _ _ ⟨rfl, rfl⟩) | (go_at_call 23; refine (specOver _ _ _ _ (by assumption) (by assumption) _).mono ?_; rintro _ _ ⟨rfl, rfl⟩))
          go_ret
          exact ⟨rfl, by assumption⟩
      · have h3 : ¬ (400 : Int) < n := by omega
        have h4 : k = n.toNat := by omega
        have hov : overW s n l z = anyIn s l z k := by rw [h4]; exact over_any s n l z hs hl (by omega) (by omega)
        clear hkn hn h4
        go_wp2_with (first | (go_at_call 21; refine (inWindowOf _ _ _ (by first | assumption | exact word_mod _) (by assumption) _).mono ?_; rintro _ _ ⟨rfl, rfl⟩) | (go_at_call 22; refine (implOver _ _ _ _ (by assumption) (by assumption) _).mono ?_; rintro _ _ ⟨rfl, rfl⟩) | (go_at_call 23; refine (specOver _ _ _ _ (by assumption) (by assumption) _).mono ?_; rintro _ _ ⟨rfl, rfl⟩))
        go_ret
        exact ⟨rfl, by assumption⟩


/-! ### STEP 1: THE WALK: the Go text returns true, AND WRITES NOTHING THAT WAS THERE: 'Below w.heap.size w w'' (Derived/Below.lean: '.refl', '.alloc', '.drew', '.setCell' at a new block, '.trans'). Open each 'IsRow' by 'rcases' AHEAD of 'go_enter'; part every test ahead of the walk. -/
theorem walk (a0 : Option Addr) (len0 cap0 : Nat) (z0 : List Int) (w : World) (w0 : IsRow .u8 w a0 len0 cap0 z0) :
    Calls Try.prog 4 #[.slice a0 len0 cap0] w fun e w' => e = .returned (.bool true) ∧ Below w.heap.size w w' := by
  exact walkAll a0 len0 cap0 z0 w w0

/-! ### THE ROW's STEP: WRITTEN OUT: LEAVE IT -/
set_option maxRecDepth 100000 in
theorem lifted (os : Os) (started : os.Started) (H : Type) (enc : TypeId × Value → H) :
    ReturnsInHanded {} Try.checked os 4 .any (Rows.fnWindowSpec.pre6 enc Try.prog Try.f4 Rows.fnWindowRow.domain false) (Rows.fnWindowSpec.post enc Try.prog Try.f4 false true false false) := by
  refine returnsInHanded_of_change (C := Try.checked) own started (by kernel_rfl) Try.func4
    (ChangeSpec.witness6 (enc := enc) (C := Try.checked) false ⟨#[], #[.slice none 0 0], []⟩ 8 (by kernel_rfl) (by kernel_rfl) (by kernel_rfl) (by kernel_rfl)) ?_
  intro W base args ds gs before hval0 hW hcnd _
  have hval : ∀ (j : Nat) t v, Try.f4.params[j]? = some t → args[j]? = some v → Value.okWide Try.prog W .any base t v := hval0
  have hW' := hW
  obtain ⟨p, q, hA0, hV, rfl, hfz, hnd⟩ := hW
  have hA : DataW.TrodAll enc Try.prog W 0 (fun _ => true) true Try.f4.params.toList args.toList ds p := hA0
  rw [Try.params4] at hA hval
  obtain ⟨v0, vs0, d0, ds0, p0, q0, hargs, rfl, rfl, h0, r0⟩ := trodAll_cons hA
  obtain ⟨rfl, rfl, rfl⟩ := trodAll_nil r0
  obtain rfl : args = #[v0] := by cases args; simp_all
  obtain ⟨rfl, rfl⟩ := trodVars_none hV
  obtain ⟨a0, len0, cap0, rfl⟩ := okWide_slice Try.underlying22 (hval 0 22 v0 rfl rfl)
  have k0 := h0
  have lt0 : ∀ x ∈ p0, x.block < W.heap.size := by obtain ⟨m, hm⟩ := k0; exact DataW.trod_lt m _ _ _ hm
  obtain ⟨z0, w0⟩ : ∃ zs, IsRow .u8 W a0 len0 cap0 zs := by
    obtain ⟨fuel, hf⟩ := h0
    rcases open_ints Try.underlying22 Try.underlying5 (by kernel_rfl) hf with ⟨hcs, _⟩ | ⟨x, l, c, zs, hcs, _, hl, hm, hz, _, hcell, hwz⟩
    · simp [Value.cells] at hcs
      obtain ⟨rfl, rfl, rfl⟩ := hcs
      exact ⟨[], .inl ⟨rfl, rfl, rfl, rfl⟩⟩
    · simp [Value.cells] at hcs
      obtain ⟨rfl, rfl, rfl⟩ := hcs
      exact ⟨zs, .inr ⟨_, rfl, hl, hm, by simpa using hz, hcell, hwz⟩⟩
  clear hA0 hval0
  refine (walk a0 len0 cap0 z0 W w0).mono fun e W' ⟨he, bel⟩ => ?_
  subst he
  exact ⟨_, rfl, _, _, _, [], _, [], hW', trodAll_mk1 (shut_bool Try.underlying4 _), (trodAll_cons_mk (Below.trod laidOut (by kernel_rfl) (of_decide_eq_true (by kernel_rfl)) k0 bel lt0) trodAll_mk0), rfl, bel.frame _, fun h => by cases h⟩

theorem over : Rows.fnWindowRow.holds Try.pinned (OpenSpec.ofChange Rows.fnWindowSpec) :=
  OpenClaim.holds_of_wide 4 Try.f4 rfl rfl rfl rfl rfl rfl rfl ⟨rfl, rfl, rfl, rfl, rfl⟩ rfl rfl rfl rfl rfl (by kernel_rfl) Try.func4 (by kernel_rfl)
    (of_decide_eq_true (by kernel_rfl)) (by unfold Func.isWrapper; first | (rw [if_pos (by decide +kernel)]; kernel_rfl) | (rw [if_neg (by decide +kernel)]; exact ⟨rfl, rfl⟩))
    (fun os started H enc _ => lifted os started H enc)

/-- ████ THE STATEMENT ████ -/
theorem proved : Rows.FnWindowSaid := over
#print axioms proved
end Go.Proofs.Ytffjedjkfhdolaa.fnWindow

namespace Go.Proofs.Ytffjedjkfhdolaa
theorem fnWindow_holds : Rows.FnWindowSaid := fnWindow.proved
#print axioms fnWindow_holds
end Go.Proofs.Ytffjedjkfhdolaa
