/-
  Contracts of the laws' holding of two lists of texts against each other, of their marking of a list and of their looking for the marks.
-/
import Derived.Test.YtdampggjnmmhfaaMark
import Derived.Test.YtdampggjnmmhfaaCalm
import Derived.Test.YtdampggjnmmhfaaShows
namespace Go.Proofs.Ytdampggjnmmhfaa
open Go.ChangeShapes Go.WideShapes Go.ChangeAt Go.RowKit
set_option linter.unusedVariables false

theorem txt_ext {ss ts : List ByteArray} {n : Nat} (h1 : ss.length = n) (h2 : ts.length = n) (h : ∀ i, i < n → txt ss i = txt ts i) : ss = ts := by
  apply List.ext_getElem (by omega)
  intro i hi hi'
  have := h i (by omega)
  simpa [txt, List.getD, List.getElem?_eq_getElem hi, List.getElem?_eq_getElem hi'] using this

theorem since_drewN {w x : World} (h : Since w x) (n : Nat) : Since w (x.drewN n) := ⟨h.os, h.tape, h.output, h.size, h.block⟩

set_option maxHeartbeats 1000000 in
theorem eqTexts (a b : Option Addr) (n m ca cb : Nat) (ss ts : List ByteArray) (w : World) (R : Reads w a n ss) (Q : Reads w b m ts) :
    Calls Try.prog 24 #[.slice a n ca, .slice b m cb] w fun e w' => e = .returned (.bool (decide (ss = ts))) ∧ Since w w' := by
  have hmost := R.most
  unfold maxLen at hmost
  obtain ⟨ans, hans⟩ : ∃ ans, Hid (ans = decide (ss = ts)) := ⟨_, rfl⟩
  rw [← hans.out]
  by_cases hnm : n = m
  · subst hnm
    go_enter Try.func24, Try.ntmps24
    go_wp2
    go_loopw [5] (fun i wr => ∃ (k : Nat), k ≤ n ∧ i = .int .i64 k ∧ Hid (∀ j, j < k → txt ss j = txt ts j) ∧ Since w wr) (fun i _ => n - (intOf i).toNat)
    case atStart => exact ⟨0, by omega, rfl, fun j hj => by omega, Since.refl _⟩
    case round =>
      obtain ⟨k, hk, rfl, hall, S⟩ := hrel
      by_cases hlt : k < n
      · obtain ⟨x, rfl, hxb, hxc⟩ := (R.since S).cell k hlt
        obtain ⟨y, rfl, hyb, hyc⟩ := (Q.since S).cell k hlt
        have hlt' : (k : Int) < (n : Int) := by omega
        by_cases he : txt ss k = txt ts k
        · have hT : Hid (txt ss k = txt ts k) := he
          rw [he] at hxc
          clear he
          generalize txt ts k = t at hxc hyc
          go_wp2
          go_quiet (fail)
          go_wp2
          go_roundw
          case rel =>
            refine ⟨k + 1, by omega, by go_num, fun j hj => ?_, ?_⟩
            · by_cases e : j = k
              · subst e
                exact hT.out
              · exact hall.out j (by omega)
            · exact since_drewN S _
          case measure => simp [intOf]; omega
        · have hne := texts_differ he
          have hD : decide (ss = ts) = false := by
            rw [decide_eq_false_iff_not]
            rintro rfl
            exact he rfl
          have hA : Hid (ans = false) := hans.out.trans hD
          clear hD
          generalize txt ss k = t at hxc hne
          generalize txt ts k = u at hyc hne
          go_wp2
          go_quiet (fail)
          go_wp2
          go_ret
          exact ⟨by rw [hA.out]; rfl, since_drewN S _⟩
      · have hkn : k = n := by omega
        subst hkn
        have hD : decide (ss = ts) = true := by
          rw [decide_eq_true_iff]
          exact txt_ext R.len Q.len hall.out
        have hA : Hid (ans = true) := hans.out.trans hD
        clear hD
        go_wp2
        go_ret
        exact ⟨by rw [hA.out]; rfl, S⟩
  · have hD : decide (ss = ts) = false := by
      rw [decide_eq_false_iff_not]
      rintro rfl
      exact hnm (R.len.symm.trans Q.len)
    have hA : Hid (ans = false) := hans.out.trans hD
    clear hD
    have hne : ((n : Int) == (m : Int)) = false := by simp; omega
    go_enter Try.func24, Try.ntmps24
    go_wp2
    go_ret
    exact ⟨by rw [hA.out]; rfl, Since.refl _⟩
end Go.Proofs.Ytdampggjnmmhfaa
