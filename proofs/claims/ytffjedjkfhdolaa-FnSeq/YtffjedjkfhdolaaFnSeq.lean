/-
  Proved: for every code the law FnSeq returns true (of two places that are not the same and not half the way round apart just one is ahead; how far they are apart is the same both ways; a number near another one comes back from its word), and its argument reads as before; no condition.
  The frame was written by program (the guide's proof-skeleton); the walk and what it rests on are typed.
-/
import Derived.Test.YtffjedjkfhdolaaRows
import Derived.Test.YtffjedjkfhdolaaCmp
import Derived.Test.YtffjedjkfhdolaaWord
import Derived.Test.YtffjedjkfhdolaaPair
import Derived.Test.YtffjedjkfhdolaaTexts
import Derived.WalkKit
import Derived.ProofKit
import Derived.OpenShut
import Derived.ShutString
import Derived.ChangeOld
import Derived.Below
namespace Go.Proofs.Ytffjedjkfhdolaa.fnSeq
open Go.ChangeShapes Go.WideShapes Go.ChangeAt Go.RowKit
open Go.ChangeMaps (open_string shut_string)
set_option linter.unusedVariables false

theorem own : ownKnob Try.prog.godebug = none := by kernel_rfl
theorem laidOut : laidOutB Try.prog = true := by kernel_rfl

/-- WHAT THE WALK IS TOLD OF A SLICE OF INTEGERS THAT CAME IN: it is nil; or it leads to a row of 'cap' cells, the numbers 'zs' (the first 'len' are its elements, the rest its spare room), each fitting its kind. -/
def IsRow (k : IntKind) (w : World) (a : Option Addr) (len cap : Nat) (zs : List Int) : Prop :=
  (a = none ∧ len = 0 ∧ cap = 0 ∧ zs = []) ∨
  ∃ x, a = some x ∧ len ≤ cap ∧ cap ≤ maxLen ∧ zs.length = cap ∧ (∀ i, i < zs.length → w.cell? (x.add i) = some (.int k (zs.getD i 0))) ∧ ∀ n ∈ zs, (Lit.int k n).wf = true

/-- How far b is ahead of a. -/
def dist (a b : Int) : Int := if (b - a) % 4294967296 < 2147483648 then (b - a) % 4294967296 else (b - a) % 4294967296 - 4294967296

theorem isDist_dist (a b : Int) : IsDist a b (dist a b) := by
  unfold dist IsDist
  by_cases h : (b - a) % 4294967296 < 2147483648
  · rw [if_pos h]
    omega
  · rw [if_neg h]
    omega

theorem lessOf (a b : Int) (ha : IsWord a) (hb : IsWord b) (w : World) :
    Calls Try.prog 13 #[.int .u32 a, .int .u32 b] w fun e w' => e = .returned (.bool (decide (0 < dist a b))) ∧ w = w' :=
  implLess a b _ ha hb (isDist_dist a b) w

theorem distOf (a b : Int) (ha : IsWord a) (hb : IsWord b) (w : World) :
    Calls Try.prog 11 #[.int .u32 a, .int .u32 b] w fun e w' => e = .returned (.int .i64 (dist a b)) ∧ w = w' :=
  implDist a b _ ha hb (isDist_dist a b) w

theorem lessEqOf (a b : Int) (ha : IsWord a) (hb : IsWord b) (w : World) :
    Calls Try.prog 15 #[.int .u32 a, .int .u32 b] w fun e w' => e = .returned (.bool (decide (0 ≤ dist a b))) ∧ w = w' :=
  implLessEq a b _ ha hb (isDist_dist a b) w

theorem maxOf (a b : Int) (ha : IsWord a) (hb : IsWord b) (w : World) :
    Calls Try.prog 14 #[.int .u32 a, .int .u32 b] w fun e w' => e = .returned (.int .u32 (if 0 < dist a b then b else a)) ∧ w = w' :=
  implMax a b _ ha hb (isDist_dist a b) w

theorem wordOf (n : Int) (w : World) :
    Calls Try.prog 12 #[.int .i64 n] w fun e w' => e = .returned (.int .u32 (n % 4294967296)) ∧ w = w' :=
  implWord n _ (by unfold IsWordOf; omega) w

theorem bel_newer {w0 w w' : World} (h : Below w0.heap.size w0 w) (n : Newer w w') : Below w0.heap.size w0 w' := h.trans (n.2.mono h.size)

theorem big_ (a : Option Addr) (len cap : Nat) (w : World) :
    Calls Try.prog 9 #[.slice a len cap] w fun e w' => e = .returned (.bool (decide ((1048576 : Int) < (len : Int)))) ∧ w = w' := by
  go_enter Try.func9, Try.ntmps9
  go_wp2
  go_ret
  exact ⟨rfl, rfl⟩

set_option maxHeartbeats 2000000 in
theorem walkAll (a0 : Option Addr) (len0 cap0 : Nat) (z0 : List Int) (w : World) (w0 : IsRow .u8 w a0 len0 cap0 z0) :
    Calls Try.prog 3 #[.slice a0 len0 cap0] w fun e w' => e = .returned (.bool true) ∧ Below w.heap.size w w' := by
  have hb := bytes_of_row w0
  clear w0
  by_cases hbig : (1048576 : Int) < (len0 : Int)
  · go_enter Try.func3, Try.ntmps3
    go_wp2_with (go_at_call 9; refine (big_ a0 len0 cap0 _).mono ?_; rintro _ _ ⟨rfl, rfl⟩)
    go_ret
    exact ⟨rfl, Below.refl _ _⟩
  · have hm : len0 ≤ 1048576 := by omega
    have hdraw := drawSeqLess a0 len0 cap0 z0 w hb hm
    obtain ⟨v, hv0, hv1, hat⟩ : ∃ v : Int, 0 ≤ v ∧ v ≤ 255 ∧ ∀ wx, Below w.heap.size w wx → Calls Try.prog 17 #[.slice a0 len0 cap0, .int .i64 2] wx fun e w' => e = .returned (.int .i64 v) ∧ wx = w' := by
      have h := fun wx hw => at_ a0 len0 cap0 z0 2 (by omega) w hb hm wx hw
      have h0 : 0 ≤ (if 2 < len0 then z0.getD 2 0 else (((2 : Nat) : Int) * 7 + len0) % 256) ∧ (if 2 < len0 then z0.getD 2 0 else (((2 : Nat) : Int) * 7 + len0) % 256) ≤ 255 := by
        by_cases h2 : 2 < len0
        · rw [if_pos h2]
          rcases hb with h3 | ⟨b, off, _, _, h3⟩
          · omega
          · exact (h3 2 h2).2
        · rw [if_neg h2]
          omega
      exact ⟨_, h0.1, h0.2, fun wx hw => (h wx hw).mono fun e w' ⟨he, _, _, hw'⟩ => ⟨he, hw'⟩⟩
    clear hb
    go_enter Try.func3, Try.ntmps3
    go_wp2_with (first | (go_at_call 9; refine (big_ a0 len0 cap0 _).mono ?_; rintro _ _ ⟨rfl, rfl⟩) | (go_at_call 10; refine hdraw.mono ?_; rintro _ w1 ⟨x, y, rfl, hx, hy, hb1⟩))
    have hd := isDist_dist x y
    have hd' := isDist_dist y x
    generalize hD : dist x y = d at hd
    generalize hD' : dist y x = d' at hd'
    have hdd := hd
    have hdd' := hd'
    obtain ⟨d1, d2, d3⟩ := hdd
    obtain ⟨d4, d5, d6⟩ := hdd'
    have hxx := hx
    have hyy := hy
    obtain ⟨x1, x2⟩ := hxx
    obtain ⟨y1, y2⟩ := hyy
    have hword : (x + d) % 4294967296 = y := by omega
    obtain ⟨wd, hwd⟩ : ∃ wd, (5000000000 + x + v * 1000 - 100000) % 4294967296 = wd := ⟨_, rfl⟩
    have hwdw : IsWord wd := by unfold IsWord; omega
    have hun : IsUnwrap (5000000000 + x) wd (5000000000 + x + v * 1000 - 100000) := by
      refine .inr ⟨by omega, by omega, by omega, by omega, by omega⟩
    obtain ⟨s, hs4, hput, hget⟩ := wordText x hx
    clear hd hd'
    by_cases he : x = y
    · subst he
      have b1 : d = 0 := by omega
      clear d4 d5 d6 hD'
      subst b1
      have hword0 : x % 4294967296 = x := by omega
      go_wp2_with (first | (go_at_call 11; refine (distOf _ _ (by assumption) (by assumption) _).mono ?_; rintro _ _ ⟨rfl, rfl⟩) | (go_at_call 12; refine (wordOf _ _).mono ?_; rintro _ _ ⟨rfl, rfl⟩) | (go_at_call 13; refine (lessOf _ _ (by assumption) (by assumption) _).mono ?_; rintro _ _ ⟨rfl, rfl⟩) | (go_at_call 14; refine (maxOf _ _ (by assumption) (by assumption) _).mono ?_; rintro _ _ ⟨rfl, rfl⟩) | (go_at_call 15; refine (lessEqOf _ _ (by assumption) (by assumption) _).mono ?_; rintro _ _ ⟨rfl, rfl⟩) | (go_at_call 17; refine (hat _ (by assumption)).mono ?_; rintro _ _ ⟨rfl, rfl⟩) | (go_at_call 16; refine (implUnwrap _ _ _ (by assumption) (by assumption) _).mono ?_; rintro _ _ ⟨rfl, rfl⟩) | (go_at_call 19; refine (hput _).mono ?_; rintro _ w2 ⟨rfl, hn2⟩; have hb2 := bel_newer (w0 := w) (by assumption) hn2) | (go_at_call 18; refine (hget _).mono ?_; rintro _ w3 ⟨rfl, hn3⟩; have hb3 := bel_newer (w0 := w) (by assumption) hn3))
      all_goals go_ret
      all_goals exact ⟨rfl, by assumption⟩
    · have b1 : (x == y) = false := by simpa using he
      have b2 : (x != y) = true := by simpa using he
      by_cases h0 : 0 < d
      · have b3 : ¬ 0 < d' := by omega
        have b4 : (d == -2147483648) = false := by simp; omega
        have b5 : (d != -2147483648) = true := by simp; omega
        clear he
        go_wp2_with (first | (go_at_call 11; refine (distOf _ _ (by assumption) (by assumption) _).mono ?_; rintro _ _ ⟨rfl, rfl⟩) | (go_at_call 12; refine (wordOf _ _).mono ?_; rintro _ _ ⟨rfl, rfl⟩) | (go_at_call 13; refine (lessOf _ _ (by assumption) (by assumption) _).mono ?_; rintro _ _ ⟨rfl, rfl⟩) | (go_at_call 14; refine (maxOf _ _ (by assumption) (by assumption) _).mono ?_; rintro _ _ ⟨rfl, rfl⟩) | (go_at_call 15; refine (lessEqOf _ _ (by assumption) (by assumption) _).mono ?_; rintro _ _ ⟨rfl, rfl⟩) | (go_at_call 17; refine (hat _ (by assumption)).mono ?_; rintro _ _ ⟨rfl, rfl⟩) | (go_at_call 16; refine (implUnwrap _ _ _ (by assumption) (by assumption) _).mono ?_; rintro _ _ ⟨rfl, rfl⟩) | (go_at_call 19; refine (hput _).mono ?_; rintro _ w2 ⟨rfl, hn2⟩; have hb2 := bel_newer (w0 := w) (by assumption) hn2) | (go_at_call 18; refine (hget _).mono ?_; rintro _ w3 ⟨rfl, hn3⟩; have hb3 := bel_newer (w0 := w) (by assumption) hn3))
        all_goals go_ret
        all_goals exact ⟨rfl, by assumption⟩
      · by_cases h1 : d = -2147483648
        · have b4 : (d == -2147483648) = true := by simpa using h1
          have b5 : (d != -2147483648) = false := by simpa using h1
          clear he h1
          go_wp2_with (first | (go_at_call 11; refine (distOf _ _ (by assumption) (by assumption) _).mono ?_; rintro _ _ ⟨rfl, rfl⟩) | (go_at_call 12; refine (wordOf _ _).mono ?_; rintro _ _ ⟨rfl, rfl⟩) | (go_at_call 13; refine (lessOf _ _ (by assumption) (by assumption) _).mono ?_; rintro _ _ ⟨rfl, rfl⟩) | (go_at_call 14; refine (maxOf _ _ (by assumption) (by assumption) _).mono ?_; rintro _ _ ⟨rfl, rfl⟩) | (go_at_call 15; refine (lessEqOf _ _ (by assumption) (by assumption) _).mono ?_; rintro _ _ ⟨rfl, rfl⟩) | (go_at_call 17; refine (hat _ (by assumption)).mono ?_; rintro _ _ ⟨rfl, rfl⟩) | (go_at_call 16; refine (implUnwrap _ _ _ (by assumption) (by assumption) _).mono ?_; rintro _ _ ⟨rfl, rfl⟩) | (go_at_call 19; refine (hput _).mono ?_; rintro _ w2 ⟨rfl, hn2⟩; have hb2 := bel_newer (w0 := w) (by assumption) hn2) | (go_at_call 18; refine (hget _).mono ?_; rintro _ w3 ⟨rfl, hn3⟩; have hb3 := bel_newer (w0 := w) (by assumption) hn3))
          all_goals go_ret
          all_goals exact ⟨rfl, by assumption⟩
        · have b3 : 0 < d' := by omega
          have b4 : (d == -2147483648) = false := by simpa using h1
          have b5 : (d != -2147483648) = true := by simpa using h1
          clear he h1
          go_wp2_with (first | (go_at_call 11; refine (distOf _ _ (by assumption) (by assumption) _).mono ?_; rintro _ _ ⟨rfl, rfl⟩) | (go_at_call 12; refine (wordOf _ _).mono ?_; rintro _ _ ⟨rfl, rfl⟩) | (go_at_call 13; refine (lessOf _ _ (by assumption) (by assumption) _).mono ?_; rintro _ _ ⟨rfl, rfl⟩) | (go_at_call 14; refine (maxOf _ _ (by assumption) (by assumption) _).mono ?_; rintro _ _ ⟨rfl, rfl⟩) | (go_at_call 15; refine (lessEqOf _ _ (by assumption) (by assumption) _).mono ?_; rintro _ _ ⟨rfl, rfl⟩) | (go_at_call 17; refine (hat _ (by assumption)).mono ?_; rintro _ _ ⟨rfl, rfl⟩) | (go_at_call 16; refine (implUnwrap _ _ _ (by assumption) (by assumption) _).mono ?_; rintro _ _ ⟨rfl, rfl⟩) | (go_at_call 19; refine (hput _).mono ?_; rintro _ w2 ⟨rfl, hn2⟩; have hb2 := bel_newer (w0 := w) (by assumption) hn2) | (go_at_call 18; refine (hget _).mono ?_; rintro _ w3 ⟨rfl, hn3⟩; have hb3 := bel_newer (w0 := w) (by assumption) hn3))
          all_goals go_ret
          all_goals exact ⟨rfl, by assumption⟩


/-! ### STEP 1: THE WALK: the Go text returns true, AND WRITES NOTHING THAT WAS THERE: 'Below w.heap.size w w'' (Derived/Below.lean: '.refl', '.alloc', '.drew', '.setCell' at a new block, '.trans'). Open each 'IsRow' by 'rcases' AHEAD of 'go_enter'; part every test ahead of the walk. -/
theorem walk (a0 : Option Addr) (len0 cap0 : Nat) (z0 : List Int) (w : World) (w0 : IsRow .u8 w a0 len0 cap0 z0) :
    Calls Try.prog 3 #[.slice a0 len0 cap0] w fun e w' => e = .returned (.bool true) ∧ Below w.heap.size w w' := by
  exact walkAll a0 len0 cap0 z0 w w0

/-! ### THE ROW's STEP: WRITTEN OUT: LEAVE IT -/
set_option maxRecDepth 100000 in
theorem lifted (os : Os) (started : os.Started) (H : Type) (enc : TypeId × Value → H) :
    ReturnsInHanded {} Try.checked os 3 .any (Rows.fnSeqSpec.pre6 enc Try.prog Try.f3 Rows.fnSeqRow.domain false) (Rows.fnSeqSpec.post enc Try.prog Try.f3 false true false false) := by
  refine returnsInHanded_of_change (C := Try.checked) own started (by kernel_rfl) Try.func3
    (ChangeSpec.witness6 (enc := enc) (C := Try.checked) false ⟨#[], #[.slice none 0 0], []⟩ 8 (by kernel_rfl) (by kernel_rfl) (by kernel_rfl) (by kernel_rfl)) ?_
  intro W base args ds gs before hval0 hW hcnd _
  have hval : ∀ (j : Nat) t v, Try.f3.params[j]? = some t → args[j]? = some v → Value.okWide Try.prog W .any base t v := hval0
  have hW' := hW
  obtain ⟨p, q, hA0, hV, rfl, hfz, hnd⟩ := hW
  have hA : DataW.TrodAll enc Try.prog W 0 (fun _ => true) true Try.f3.params.toList args.toList ds p := hA0
  rw [Try.params3] at hA hval
  obtain ⟨v0, vs0, d0, ds0, p0, q0, hargs, rfl, rfl, h0, r0⟩ := trodAll_cons hA
  obtain ⟨rfl, rfl, rfl⟩ := trodAll_nil r0
  obtain rfl : args = #[v0] := by cases args; simp_all
  obtain ⟨rfl, rfl⟩ := trodVars_none hV
  obtain ⟨a0, len0, cap0, rfl⟩ := okWide_slice Try.underlying22 (hval 0 22 v0 rfl rfl)
  have k0 := h0
  have lt0 : ∀ x ∈ p0, x.block < W.heap.size := by obtain ⟨m, hm⟩ := k0; exact DataW.trod_lt m _ _ _ hm
  obtain ⟨z0, w0⟩ : ∃ zs, IsRow .u8 W a0 len0 cap0 zs := by
    obtain ⟨fuel, hf⟩ := h0
    rcases open_ints Try.underlying22 Try.underlying5 (by kernel_rfl) hf with ⟨hcs, _⟩ | ⟨x, l, c, zs, hcs, _, hl, hm, hz, _, hcell, hwz⟩
    · simp [Value.cells] at hcs
      obtain ⟨rfl, rfl, rfl⟩ := hcs
      exact ⟨[], .inl ⟨rfl, rfl, rfl, rfl⟩⟩
    · simp [Value.cells] at hcs
      obtain ⟨rfl, rfl, rfl⟩ := hcs
      exact ⟨zs, .inr ⟨_, rfl, hl, hm, by simpa using hz, hcell, hwz⟩⟩
  clear hA0 hval0
  refine (walk a0 len0 cap0 z0 W w0).mono fun e W' ⟨he, bel⟩ => ?_
  subst he
  exact ⟨_, rfl, _, _, _, [], _, [], hW', trodAll_mk1 (shut_bool Try.underlying4 _), (trodAll_cons_mk (Below.trod laidOut (by kernel_rfl) (of_decide_eq_true (by kernel_rfl)) k0 bel lt0) trodAll_mk0), rfl, bel.frame _, fun h => by cases h⟩

theorem over : Rows.fnSeqRow.holds Try.pinned (OpenSpec.ofChange Rows.fnSeqSpec) :=
  OpenClaim.holds_of_wide 3 Try.f3 rfl rfl rfl rfl rfl rfl rfl ⟨rfl, rfl, rfl, rfl, rfl⟩ rfl rfl rfl rfl rfl (by kernel_rfl) Try.func3 (by kernel_rfl)
    (of_decide_eq_true (by kernel_rfl)) (by unfold Func.isWrapper; first | (rw [if_pos (by decide +kernel)]; kernel_rfl) | (rw [if_neg (by decide +kernel)]; exact ⟨rfl, rfl⟩))
    (fun os started H enc _ => lifted os started H enc)

/-- ████ THE STATEMENT ████ -/
theorem proved : Rows.FnSeqSaid := over
#print axioms proved
end Go.Proofs.Ytffjedjkfhdolaa.fnSeq

namespace Go.Proofs.Ytffjedjkfhdolaa
theorem fnSeq_holds : Rows.FnSeqSaid := fnSeq.proved
#print axioms fnSeq_holds
end Go.Proofs.Ytffjedjkfhdolaa
