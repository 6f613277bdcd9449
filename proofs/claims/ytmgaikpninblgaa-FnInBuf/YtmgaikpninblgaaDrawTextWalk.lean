/-
  The walk of l01Text.
-/
import Derived.Test.YtmgaikpninblgaaDrawText
namespace Go.Proofs.Ytmgaikpninblgaa
open Go.ChangeShapes Go.WideShapes Go.ChangeAt Go.RowKit
set_option linter.unusedVariables false

theorem startTS {w0 w : World} {g : Nat} {a : Option Addr} {len cap : Nat} {zs : List Int} {i : Nat} {h : Int} (hc : CurAt w0 w g a len cap zs i h w) : TS w0 w g a len cap zs i h 0 w.heap.size 0 0 (w.alloc (.cells #[] 5)) :=
  ⟨⟨i, h, cur_grown (row := none) hc.here hc (World.grownBy_alloc w _ none) (fun k e => by cases e), Nat.le_refl _, rfl, by omega⟩, hc.here, [], by simp, World.ownsRow_made w #[] 0 (Nat.le_refl _) (by decide) rfl⟩

set_option maxHeartbeats 4000000 in
set_option maxRecDepth 100000 in
theorem textTS {w0 : World} {g : Nat} {a : Option Addr} {len cap : Nat} {zs : List Int} (n : Nat) (hn : n ≤ 100000) (w : World) (hc : Cur w0 w g a len cap zs w) :
    Calls Try.prog 23 #[.pointer (some ⟨g, 0, none⟩), .int .i64 (n : Int)] w fun e w' => ∃ t : ByteArray, e = .returned (.string t) ∧ t.size = n ∧ Cur w0 w g a len cap zs w' := by
  obtain ⟨i, h, hc⟩ := hc.at_
  go_enter Try.func23, Try.ntmps23
  go_wp2
  go_loopw [5] (fun v wr => ∃ (gb cb m i : Nat) (h : Int), v = .slice (some ⟨gb, 0, none⟩) m cb ∧ m ≤ n + 20 ∧ CellsAt wr g a len cap i h ∧ TS w0 w g a len cap zs i h 0 gb cb m wr) (fun v wr => textLeft n len g v wr)
  case atStart =>
    obtain ⟨i', h', ht, hr, hcs⟩ := (startTS hc).again
    exact ⟨w.heap.size, 0, 0, i', h', rfl, by omega, hcs, ht⟩
  case round =>
    clear hc
    obtain ⟨gb, cb, m, i, h, rfl, hm, hcells, hts⟩ := hrel
    by_cases hlt : m < n
    · have hlt' : (m : Int) < (n : Int) := by omega
      go_wp2_with (first
        | (go_at_call 24; refine (TS.draw _ (by omega) (by omega) _ (by assumption)).mono ?_; rintro _ w1 ⟨r, rfl, hr0, hr1, hr2, ht1⟩)
        | (go_at_call 50; refine (TS.byte _ (by assumption)).mono ?_; rintro _ w2 ⟨r, rfl, hr0, hr1, ht2⟩)
        | (at_builtin; refine TS.append rfl _ _ rfl _ rfl _ ⟨by omega, by omega⟩ (by omega) rfl (by assumption) ?_; intro gb' cb' w3 ht3))
      · go_roundw
        case rel => exact (TS.close (gb := gb) (cb := cb) hlt hcells ht3 (by omega) (by omega) (.inl (by omega))).1
        case measure => exact (TS.close hlt hcells ht3 (by omega) (by omega) (.inl (by omega))).2
      · rename_i wa r5 ra0 ra1 hta hga hne0 heq1 wb k9 hk0 hk1 hg9 ht9
        go_loopw [5, 8] (fun v ii wr => ∃ (j gb cb : Nat), ii = .int .i64 j ∧ (j : Int) ≤ k9 ∧ v = .slice (some ⟨gb, 0, none⟩) (m + j) cb ∧ TS w0 w g a len cap zs i h 3 gb cb (m + j) wr) (fun _ ii _ => k9.toNat - (intOf ii).toNat)
        case atStart => exact ⟨0, gb, cb, rfl, by omega, rfl, ht1⟩
        case round =>
          obtain ⟨j, gc, cc, rfl, hj, rfl, htj⟩ := hrel
          by_cases hjk : (j : Int) < k9
          · go_wp2_with (at_builtin; refine TS.append rfl _ _ rfl _ rfl _ ⟨by omega, by omega⟩ (by omega) rfl htj ?_; intro gb' cb' w3 ht3)
            go_roundw
            case rel => exact ⟨j + 1, gb', cb', by go_num, by omega, rfl, ht3⟩
            case measure => simp [intOf]; omega
          · go_wp2
            have hp : m < m + j ∨ (m + j = m ∧ (i = len → 6 < left h)) := by
              by_cases hj0 : j = 0
              · exact .inr ⟨by omega, hga.out trivial trivial (.inl (by simpa using heq1))⟩
              · exact .inl (by omega)
            go_roundw
            case rel => exact (TS.close (gb := gb) (cb := cb) hlt hcells htj (by omega) (by omega) hp).1
            case measure => exact (TS.close hlt hcells htj (by omega) (by omega) hp).2
      · have hga := hr2
        have heq2 : (r == 2) = true := by assumption
        refine (TS.any (m : Int) (by omega) _ ht1).mono ?_
        rintro _ w5 ⟨fr, d, rfl, hf0, hf1, hd0, hd1, ht5⟩
        clear ht1 hr2
        obtain ⟨f, rfl⟩ := Int.eq_ofNat_of_zero_le hf0
        go_wp2_with (go_at_call 24; refine (TS.draw _ (by omega) (by omega) _ ht5).mono ?_; rintro _ w6 ⟨k20, rfl, hk0, hk1, hk2, ht6⟩)
        go_loopw [5, 11] (fun v ii wr => ∃ (j gb cb : Nat), ii = .int .i64 j ∧ (j : Int) ≤ k20 ∧ v = .slice (some ⟨gb, 0, none⟩) (m + j) cb ∧ TS w0 w g a len cap zs i h (0 + 1 + d + 1) gb cb (m + j) wr) (fun _ ii _ => k20.toNat - (intOf ii).toNat)
        case atStart => exact ⟨0, gb, cb, rfl, by omega, rfl, ht6⟩
        case round =>
          obtain ⟨j, gc, cc, rfl, hj, rfl, htj⟩ := hrel
          by_cases hjk : (j : Int) < k20
          · obtain ⟨y, hy, hy0, hy1⟩ := htj.cellAt (f + j) (by omega)
            have hfj : (f : Int) + (j : Int) < (m : Int) + (j : Int) := by omega
            go_wp2_with (at_builtin; refine TS.append rfl _ _ rfl _ rfl _ ⟨by omega, by omega⟩ (by omega) rfl htj ?_; intro gb' cb' w3 ht3)
            go_roundw
            case rel => exact ⟨j + 1, gb', cb', by go_num, by omega, rfl, ht3⟩
            case measure => simp [intOf]; omega
          · go_wp2
            have hp : m < m + j ∨ (m + j = m ∧ (i = len → 6 < left h)) := by
              by_cases hj0 : j = 0
              · exact .inr ⟨by omega, hga.out trivial trivial (.inr (by simpa using heq2))⟩
              · exact .inl (by omega)
            go_roundw
            case rel => exact (TS.close (gb := gb) (cb := cb) hlt hcells htj (by omega) (by omega) hp).1
            case measure => exact (TS.close hlt hcells htj (by omega) (by omega) hp).2
      · have heq2 : (r == 2) = true := by assumption
        have hp : m < m ∨ (m = m ∧ (i = len → 6 < left h)) := .inr ⟨rfl, hr2.out trivial trivial (.inr (by simpa using heq2))⟩
        go_roundw
        case rel => exact (TS.close (gb := gb) (cb := cb) hlt hcells ht1 (by omega) (by omega) hp).1
        case measure => exact (TS.close hlt hcells ht1 (by omega) (by omega) hp).2
      · go_roundw
        case rel => exact (TS.close (gb := gb) (cb := cb) hlt hcells ht3 (by omega) (by omega) (.inl (by omega))).1
        case measure => exact (TS.close hlt hcells ht3 (by omega) (by omega) (.inl (by omega))).2
    · have hcap := hts.le_cap
      have hge : (n : Int) ≤ (m : Int) := by omega
      have hncb : (n : Int) ≤ (cb : Int) := by omega
      obtain ⟨t, htn, hconv⟩ := hts.text n cb (by omega)
      have HC := hts.cur_
      clear hcells hts
      go_wp2
      go_ret
      exact ⟨t, rfl, htn, HC⟩
end Go.Proofs.Ytmgaikpninblgaa
