/-
  Contract of the laws' measuring of a list of texts: what is not below 0 bounds the list and each text.
-/
import Derived.Test.YtdampggjnmmhfaaRow
import Derived.LoopTactic
namespace Go.Proofs.Ytdampggjnmmhfaa
open Go.ChangeShapes Go.WideShapes Go.ChangeAt Go.RowKit
set_option linter.unusedVariables false

theorem szTexts (a : Option Addr) (n cap : Nat) (ss : List ByteArray) (left : Int) (h0 : 0 ≤ left) (hl : left ≤ 1048576) (w : World) (R : Reads w a n ss) (hsm : ∀ i, i < n → (txt ss i).size ≤ maxLen) :
    Calls Try.prog 31 #[.slice a n cap, .int .i64 left] w fun e w' => (∃ r : Int, e = .returned (.int .i64 r) ∧ r ≤ left ∧ (0 ≤ r → (n : Int) ≤ left ∧ ∀ i, i < n → ((txt ss i).size : Int) ≤ left)) ∧ w = w' := by
  have hmost := R.most
  unfold maxLen at hmost hsm
  have hsub : IntKind.i64.wrap (left - (n : Int)) = left - (n : Int) := by rw [IntWalk.i64_left]; exact IntWalk.wrap64_in _ ⟨by omega, by omega⟩
  by_cases hn : (n : Int) ≤ left
  · have hn' : ¬ left - (n : Int) < 0 := by omega
    go_enter Try.func31, Try.ntmps31
    go_wp2
    go_loop [1, 5] (fun l i => ∃ (k : Nat) (q : Int), k ≤ n ∧ i = .int .i64 k ∧ l = .int .i64 q ∧ 0 ≤ q ∧ q ≤ left ∧ Hid (∀ i, i < k → ((txt ss i).size : Int) ≤ left)) (fun _ i => n - (intOf i).toNat)
    case atStart => exact ⟨0, _, by omega, rfl, rfl, by omega, by omega, fun i hi => by omega⟩
    case round =>
      obtain ⟨k, q, hk, rfl, rfl, hq0, hq1, hall⟩ := hrel
      by_cases hlt : k < n
      · obtain ⟨x, rfl, hb, hc⟩ := R.cell k hlt
        have hs := hsm k hlt
        have hw1 : IntKind.i64.wrap (q - ((txt ss k).size : Int)) = q - ((txt ss k).size : Int) := by rw [IntWalk.i64_left]; exact IntWalk.wrap64_in _ ⟨by omega, by omega⟩
        generalize hz : txt ss k = t at hc hs hw1
        clear R hsm
        by_cases hneg : q - (t.size : Int) < 0
        · go_wp2
          go_ret
          exact ⟨⟨-1, rfl, by omega, by omega⟩, rfl⟩
        · go_wp2
          go_round
          case rel =>
            refine ⟨k + 1, _, by omega, by go_num, rfl, by omega, by omega, fun i hi => ?_⟩
            by_cases e : i = k
            · subst e
              rw [hz]
              omega
            · exact hall i (by omega)
          case measure => simp [intOf]; omega
      · have hkn : k = n := by omega
        subst hkn
        clear R hsm
        go_wp2
        go_ret
        exact ⟨⟨q, rfl, by omega, fun _ => by first | exact hall.out | exact ⟨by omega, hall.out⟩⟩, rfl⟩
  · have hn' : left - (n : Int) < 0 := by omega
    clear R hsm
    go_enter Try.func31, Try.ntmps31
    go_wp2
    go_ret
    exact ⟨⟨-1, rfl, by omega, by omega⟩, rfl⟩
end Go.Proofs.Ytdampggjnmmhfaa
