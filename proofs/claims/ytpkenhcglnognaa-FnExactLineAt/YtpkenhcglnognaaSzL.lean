/-
  How much an end holds: what is left is no more than there was.
-/
import Derived.Test.YtpkenhcglnognaaLaw11
import Derived.Test.YtpkenhcglnognaaStep
import Derived.Great.BuildSlice
import Derived.Deep.DeepCutAuto
namespace Go.Proofs.Ytpkenhcglnognaa
open Go.ChangeShapes Go.WideShapes Go.ChangeAt Go.RowKit
set_option linter.unusedVariables false
set_option maxRecDepth 10000

theorem szInL (q : Int) (d : ByteArray) (r : Int) (a : Option Addr) (n cap : Nat) (ps : List (Int × ByteArray)) (left : Int) (h0 : 0 ≤ left) (hl : left ≤ 1048576) (w : World) (R : Rd shP w a n ps) (hsm : ∀ i, i < n → (pAt ps i).2.size ≤ maxLen) (hd : d.size ≤ maxLen) :
    Calls Try.prog 55 #[inVal q d (.slice a n cap) r, .int .i64 left] w fun e w' => (∃ r : Int, e = .returned (.int .i64 r) ∧ r ≤ left ∧ (0 ≤ r → (d.size : Int) ≤ left ∧ (n : Int) ≤ left ∧ ∀ i, i < n → ((pAt ps i).2.size : Int) ≤ left)) ∧ Since w w' := by
  unfold inVal
  unfold maxLen at hd
  have hsub : IntKind.i64.wrap (left - (d.size : Int)) = left - (d.size : Int) := by rw [IntWalk.i64_left]; exact IntWalk.wrap64_in _ ⟨by omega, by omega⟩
  have G : Since w (w.alloc (.cells #[.int .u32 q, .string d, .slice a n cap, .int .i64 r] 75)) := (Since.refl _).alloc _
  by_cases h : left - (d.size : Int) < 0
  · clear R hsm
    go_enter Try.func55, Try.ntmps55
    go_wp2
    go_ret
    exact ⟨⟨-1, rfl, by omega, by omega⟩, G⟩
  · have hs := szParts a n cap ps (left - (d.size : Int)) (by omega) (by omega) _ (R.since G) hsm
    clear R hsm
    go_enter Try.func55, Try.ntmps55
    go_wp2_with (go_at_call 70; refine hs.mono ?_; rintro _ w1 ⟨⟨r, rfl, hr1, hr2⟩, g1⟩; replace hr2 : Hid _ := hr2)
    · go_ret
      exact ⟨⟨-1, rfl, by omega, by omega⟩, G.trans g1⟩
    · go_ret
      refine ⟨⟨r, rfl, by omega, fun h0 => ?_⟩, G.trans g1⟩
      obtain ⟨h1, h2⟩ := hr2.out h0
      exact ⟨by omega, by omega, fun i hi => by have := h2 i hi; omega⟩

set_option maxHeartbeats 2000000 in
theorem szConnL (c : Cn) (ps : List (Int × ByteArray)) (l : Int) (h0 : 0 ≤ l) (hl : l ≤ 1048576) (hd : c.oD.size ≤ maxLen) (he : c.iD.size ≤ maxLen) (w : World) (R : Rd shP w c.pa c.pn ps) (hsm : ∀ i, i < c.pn → (pAt ps i).2.size ≤ maxLen) :
    Calls Try.prog 43 #[cnVal c, .int .i64 l] w fun e w' => (∃ r : Int, e = .returned (.int .i64 r) ∧ r ≤ l ∧ (0 ≤ r → (c.oD.size : Int) ≤ l ∧ (c.iD.size : Int) ≤ l ∧ (c.pn : Int) ≤ l ∧ ∀ i, i < c.pn → ((pAt ps i).2.size : Int) ≤ l)) ∧ Since w w' := by
  have k1 := fun wx => szOut c.oF c.oD c.oR l ⟨h0, hl⟩ (by unfold maxLen at hd; omega) wx
  unfold outVal at k1
  unfold cnVal
  have A := Blk.new w (cnCells c) 79
  have G := (Since.refl w).alloc (.cells (cnCells c) 79)
  by_cases h1 : (c.oD.size : Int) ≤ l
  · rw [if_pos h1] at k1
    have k2 := fun wx Rx => szInL c.iN c.iD c.iR c.pa c.pn c.pc ps (l - c.oD.size) (by omega) (by omega) wx Rx hsm he
    unfold inVal at k2
    have hp : ¬ l - (c.oD.size : Int) < 0 := by omega
    obtain ⟨q, hq⟩ : ∃ q : Int, Hid (q = l - c.oD.size) := ⟨_, rfl⟩
    rw [← hq.out] at k1 k2 hp
    have hql : q ≤ l := by rw [hq.out]; omega
    go_enter Try.func43, Try.ntmps43
    go_upto_region 1 with (fail)
    generalize w.alloc (.cells (cnCells c) 79) = x0 at A G ⊢
    have a_oF : x0.cell? ⟨w.heap.size, 8, none⟩ = some (.int .u32 c.oF) := A.cell 8
    have a_oD : x0.cell? ⟨w.heap.size, 9, none⟩ = some (.string c.oD) := A.cell 9
    have a_oR : x0.cell? ⟨w.heap.size, 10, none⟩ = some (.int .i64 c.oR) := A.cell 10
    go_wp2_with (fail)
    refine (k1 _).mono ?_
    rintro _ x1 ⟨rfl, g1⟩
    replace A := A.since g1
    replace G := G.trans g1
    have d_iN : x1.cell? ⟨w.heap.size, 11, none⟩ = some (.int .u32 c.iN) := A.cell 11
    have d_iD : x1.cell? ⟨w.heap.size, 12, none⟩ = some (.string c.iD) := A.cell 12
    have d_iP : x1.cell? ⟨w.heap.size, 13, none⟩ = some (.slice c.pa c.pn c.pc) := A.cell 13
    have d_iR : x1.cell? ⟨w.heap.size, 14, none⟩ = some (.int .i64 c.iR) := A.cell 14
    go_wp2_with (fail)
    refine (k2 _ (R.since G)).mono ?_
    rintro _ x2 ⟨⟨r, rfl, hrl, hr⟩, g2⟩
    by_cases hr0 : r < 0
    · go_wp2_with (fail)
      go_ret
      exact ⟨⟨_, rfl, by omega, fun h => by omega⟩, G.trans g2⟩
    · go_wp2_with (fail)
      go_ret
      refine ⟨⟨_, rfl, by omega, fun h => ?_⟩, G.trans g2⟩
      obtain ⟨e1, e2, e3⟩ := hr (by omega)
      exact ⟨h1, by omega, by omega, fun i hi => by have := e3 i hi; omega⟩
  · rw [if_neg h1] at k1
    go_enter Try.func43, Try.ntmps43
    go_upto_region 1 with (fail)
    generalize w.alloc (.cells (cnCells c) 79) = x0 at A G ⊢
    have a_oF : x0.cell? ⟨w.heap.size, 8, none⟩ = some (.int .u32 c.oF) := A.cell 8
    have a_oD : x0.cell? ⟨w.heap.size, 9, none⟩ = some (.string c.oD) := A.cell 9
    have a_oR : x0.cell? ⟨w.heap.size, 10, none⟩ = some (.int .i64 c.oR) := A.cell 10
    go_wp2_with (fail)
    refine (k1 _).mono ?_
    rintro _ x1 ⟨rfl, g1⟩
    go_wp2_with (fail)
    go_ret
    exact ⟨⟨_, rfl, by omega, fun h => by omega⟩, G.trans g1⟩
end Go.Proofs.Ytpkenhcglnognaa
