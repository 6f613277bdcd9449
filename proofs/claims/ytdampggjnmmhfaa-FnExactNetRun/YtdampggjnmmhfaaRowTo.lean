/-
  Contract of the laws' copying of a list of texts: a new list of the same texts.
-/
import Derived.Test.YtdampggjnmmhfaaRow
import Derived.LoopTactic
namespace Go.Proofs.Ytdampggjnmmhfaa
open Go.ChangeShapes Go.WideShapes Go.ChangeAt Go.RowKit
set_option linter.unusedVariables false

theorem txt_take_set (ss : List ByteArray) (n k : Nat) (hl : ss.length = n) (hk : k < n) : (ss.take k ++ List.replicate (n - k) ByteArray.empty).set k (txt ss k) = ss.take (k + 1) ++ List.replicate (n - (k + 1)) ByteArray.empty := by
  have hk' : k < ss.length := by omega
  have e : txt ss k = ss[k] := by simp [txt, List.getD, List.getElem?_eq_getElem hk']
  have h1 : List.replicate (n - k) ByteArray.empty = ByteArray.empty :: List.replicate (n - (k + 1)) ByteArray.empty := by
    rw [show n - k = (n - (k + 1)) + 1 by omega, List.replicate_succ]
  have hlen : (ss.take k).length = k := by rw [List.length_take]; omega
  have h2 : ss.take (k + 1) = ss.take k ++ [ss[k]] := by rw [List.take_succ_eq_append_getElem hk']
  rw [h1, h2, e]
  generalize ss.take k = l at hlen ⊢
  subst hlen
  simp

theorem made_texts {w : World} {B g n : Nat} (h : w.ownsRow B 9 1 (.slice (some ⟨g, 0, none⟩) n n) n (madeCells #[Value.string ByteArray.empty] n).toList) : Texts w B g n n (List.replicate n ByteArray.empty) := by
  refine ⟨by simp, ?_⟩
  have e : (madeCells #[Value.string ByteArray.empty] n).toList = (List.replicate n ByteArray.empty).map Value.string := by
    simp only [madeCells]
    apply List.ext_getElem?
    intro j
    by_cases hj : j < n
    · simp [hj, Nat.mod_one]
    · simp [hj]
  rw [← e]
  exact h

set_option maxHeartbeats 1000000 in
theorem toTexts (a : Option Addr) (n cap : Nat) (ss : List ByteArray) (hn : n ≤ 1048576) (w : World) (R : Reads w a n ss) :
    Calls Try.prog 32 #[.slice a n cap] w fun e w' => ∃ g, e = .returned (.slice (some ⟨g, 0, none⟩) n n) ∧ Texts w' w.heap.size g n n ss ∧ Since w w' := by
  obtain ⟨ii, hi, hz0, hz1, hz2⟩ := info_parts info_str
  go_enter Try.func32, Try.ntmps32
  go_wp2_with (refine wpList_make_full _ rfl _ _ 22 rfl w.heap.size 9 ii (.string ByteArray.empty) 1 Try.underlying22 hi hz0 hz1 .i64 .i64 _ _ n rfl rfl rfl rfl ?c1 ?c2 (Nat.le_refl _) ?_)
  case c1 => rw [hz2]; omega
  case c2 => unfold maxLen; omega
  intro w1 hown hgrow
  have T0 := made_texts hown
  have S0 : Since w w1 := ⟨hgrow.os, hgrow.tape, hgrow.output, hgrow.size, fun k hk => hgrow.block k hk (by simp)⟩
  generalize hg : w.heap.size = g at T0 hown ⊢
  go_wp2
  go_loopw [4] (fun i wr => ∃ (k : Nat), k ≤ n ∧ i = .int .i64 k ∧ Texts wr g g n n (ss.take k ++ List.replicate (n - k) ByteArray.empty) ∧ Since w wr) (fun i _ => n - (intOf i).toNat)
  case atStart => exact ⟨0, by omega, rfl, by simpa using T0, S0⟩
  case round =>
    obtain ⟨k, hk, rfl, T, S⟩ := hrel
    have Rr := R.since S
    by_cases hlt : k < n
    · obtain ⟨x, rfl, hb, hc⟩ := Rr.cell k hlt
      have hd := T.cell k hlt
      have hf := T.free k
      have hT := T.set k hlt (txt ss k)
      rw [txt_take_set ss n k R.len hlt] at hT
      go_wp2
      go_roundw
      case rel => exact ⟨k + 1, by omega, by go_num, hT, since_put1 S (by omega) k _⟩
      case measure => simp [intOf]; omega
    · have hkn : k = n := by omega
      subst hkn
      go_wp2
      go_ret
      refine ⟨g, rfl, ?_, S⟩
      have e : ss.take k ++ List.replicate (k - k) ByteArray.empty = ss := by simp [List.take_of_length_le (Nat.le_of_eq R.len)]
      rw [e] at T
      exact T.raise (by omega)
end Go.Proofs.Ytdampggjnmmhfaa
