/-
  Contract of spec's l04Halves, at every text of 20 to 1048576 bytes: a new list of its first ten halves.
-/
import Derived.Test.YtneicghhggidnabFields
import Derived.OwnWalk
import Derived.Test.YtneicghhggidnabDrawnTail
namespace Go.Proofs.Ytneicghhggidnab
open Go.ChangeShapes Go.WideShapes Go.ChangeAt Go.RowKit
set_option linter.unusedVariables false

theorem info_int : (Try.prog.info? 3).map (fun i => (i.zero, i.size, i.bytes)) = some (some (.int .i64 0), 1, 8) := by kernel_rfl

/-- The first j halves of a text. -/
def firstHalves (s : ByteArray) (j : Nat) : List Value := (List.range j).map fun i => Value.int .i64 (halfAt s (2 * i))

/-- A new slice of one int. -/
def oneInt (B : Nat) (x : World) (n : Int) (v : Value) : Prop := ∃ b, v = .slice (some ⟨b, 0, none⟩) 1 1 ∧ B ≤ b ∧ b < x.heap.size ∧ x.cell? ⟨b, 0, none⟩ = some (.int .i64 n)

theorem oneInt_since {B : Nat} {x x' : World} {n : Int} {v : Value} (h : Since x x') (k : oneInt B x n v) : oneInt B x' n v := by
  obtain ⟨b, e, hB, hb, hc⟩ := k
  exact ⟨b, e, hB, Nat.lt_of_lt_of_le hb h.le, (Below.cell h (p := ⟨b, 0, none⟩) hb).trans hc⟩

theorem oneInt_new {B : Nat} {x : World} {n : Int} (hB : B ≤ x.heap.size) (t : TypeId) : oneInt B (x.alloc (.cells #[.int .i64 n] t)) n (.slice (some ⟨x.heap.size, 0, none⟩) 1 1) :=
  ⟨x.heap.size, rfl, hB, by simp, by simp⟩

theorem row_since {w w' : World} {base : Nat} {e : TypeId} {v : Value} {n : Nat} {xs : List Value} (h : w.ownsRow base e 1 v n xs) (k : Since w w') : w'.ownsRow base e 1 v n xs := by
  refine ⟨h.1, ?_⟩
  rcases h.2 with hn | ⟨g, cap, cur, hv, hb, hg, rest⟩
  · exact .inl hn
  · have hlt : g < w.heap.size := (Array.getElem?_eq_some_iff.1 hg).1
    exact .inr ⟨g, cap, cur, hv, hb, (Below.block k g hlt).trans hg, rest⟩

theorem ownsRow_next {w : World} {B : Nat} {v : Value} {n : Nat} {xs : List Value} {e : TypeId} (h : w.ownsRow B e 1 v (n + 1) xs) : ∃ g cap, v = .slice (some ⟨g, 0, none⟩) (n + 1) cap := by
  rcases h.2 with ⟨_, h2⟩ | ⟨g, cap, cur, h1, _⟩
  · omega
  · exact ⟨g, cap, h1⟩

theorem ownsRow_read {w : World} {s : ByteArray} {B gb cb : Nat} {e : TypeId} (h : w.ownsRow B e 1 (.slice (some ⟨gb, 0, none⟩) 10 cb) 10 (firstHalves s 10)) : gb < w.heap.size ∧ ∀ i, i < 10 → w.cell? ⟨gb, i, none⟩ = some (.int .i64 (halfAt s (2 * i))) := by
  refine ⟨(h.lt gb rfl).2, fun i hi => ?_⟩
  have hc := h.cells (g := gb) rfl i (.int .i64 (halfAt s (2 * i))) (by simp [firstHalves, hi])
  rwa [show (⟨gb, 0, none⟩ : Addr).add i = ⟨gb, i, none⟩ by simp [Addr.add]; omega] at hc

set_option maxHeartbeats 1000000 in
theorem halves10 (s : ByteArray) (hs : 20 ≤ s.size) (hm : s.size ≤ 1048576) (w : World) :
    Calls Try.prog 37 #[.string s] w fun e w' => ∃ gb cb, e = .returned (.slice (some ⟨gb, 0, none⟩) 10 cb) ∧ gb < w'.heap.size ∧ (∀ i, i < 10 → w'.cell? ⟨gb, i, none⟩ = some (.int .i64 (halfAt s (2 * i)))) ∧ Since w w' := by
  go_enter Try.func37, Try.ntmps37
  go_wp2
  go_loopw [3, 4] (fun v ii wr => ∃ (j gb cb : Nat), ii = .int .i64 (2 * (j : Int)) ∧ j ≤ 10 ∧ v = .slice (some ⟨gb, 0, none⟩) j cb ∧ wr.ownsRow w.heap.size 3 1 (.slice (some ⟨gb, 0, none⟩) j cb) j (firstHalves s j) ∧ Since w wr) (fun _ ii _ => 20 - (intOf ii).toNat)
  case atStart => exact ⟨0, w.heap.size, 0, rfl, by omega, rfl, World.ownsRow_made w #[] 0 (Nat.le_refl _) (by decide) rfl, (Since.refl _).alloc _⟩
  case round =>
    obtain ⟨j, gb, cb, rfl, hj, rfl, hown, hsi⟩ := hrel
    by_cases hlt : j < 10
    · have hlt' : 2 * (j : Int) < 20 := by omega
      have r0 := byteAt_range s (2 * j)
      have r1 := byteAt_range s (2 * j + 1)
      have m0 : IntKind.i64.wrap (byteAt s (2 * j)) = byteAt s (2 * j) := by rw [IntWalk.i64_left]; exact IntWalk.wrap64_in _ ⟨by omega, by omega⟩
      have m1 : IntKind.i64.wrap (byteAt s (2 * j + 1)) = byteAt s (2 * j + 1) := by rw [IntWalk.i64_left]; exact IntWalk.wrap64_in _ ⟨by omega, by omega⟩
      have m2 : IntKind.i64.wrap (256 * byteAt s (2 * j)) = 256 * byteAt s (2 * j) := by rw [IntWalk.i64_left]; exact IntWalk.wrap64_in _ ⟨by omega, by omega⟩
      have m3 : IntKind.i64.wrap (256 * byteAt s (2 * j) + byteAt s (2 * j + 1)) = halfAt s (2 * j) := by
        rw [IntWalk.i64_left, IntWalk.wrap64_in _ ⟨by omega, by omega⟩, show halfAt s (2 * j) = byteAt s (2 * j) * 256 + byteAt s (2 * j + 1) from rfl]
        omega
      have b1 : IntKind.i64.wrap (2 * (j : Int) + 1) = 2 * (j : Int) + 1 := by rw [IntWalk.i64_left]; exact IntWalk.wrap64_in _ ⟨by omega, by omega⟩
      have a0 : 2 * (j : Int) < (s.size : Int) := by omega
      have a1 : 2 * (j : Int) + 1 < (s.size : Int) := by omega
      have p0 : 0 ≤ 2 * (j : Int) := by omega
      have p1 : 0 ≤ 2 * (j : Int) + 1 := by omega
      have n0 : (2 * (j : Int)).toNat = 2 * j := by omega
      have n1 : (2 * (j : Int) + 1).toNat = 2 * j + 1 := by omega
      have e0 := byteAt_in s (2 * j) (by omega)
      have e1 := byteAt_in s (2 * j + 1) (by omega)
      go_wp2
      refine wp_region_tail (wb := wr) 13 (fun i x v => match i with
            | 0 => v = .slice (some ⟨gb, 0, none⟩) j cb
            | 1 => v = .string s
            | 2 => v = .int .i64 (2 * (j : Int))
            | 3 => v = .int .u8 (byteAt s (2 * j))
            | 4 => v = .int .i64 (byteAt s (2 * j))
            | 5 => v = .int .i64 (256 * byteAt s (2 * j))
            | 6 => v = .string s
            | 7 => v = .int .i64 (2 * (j : Int))
            | 8 => v = .int .i64 (2 * (j : Int) + 1)
            | 9 => v = .int .u8 (byteAt s (2 * j + 1))
            | 10 => v = .int .i64 (byteAt s (2 * j + 1))
            | 11 => v = .int .i64 (halfAt s (2 * j))
            | 12 => oneInt wr.heap.size x (halfAt s (2 * j)) v
            | _ => True) (fun v => { tmps := #[.string s, undef, .slice none 0 0, .slice (some ⟨gb, 0, none⟩) j cb, .int .i64 (2 * (j : Int)), .slice (some ⟨w.heap.size, 0, none⟩) 0 0, .int .i64 (2 * (j : Int)), .bool true, u8, u9, v 0, v 1, v 2, v 3, v 4, v 5, v 6, v 7, v 8, v 9, v 10, v 11, v 12, u23, undef], defers := [] }) (by kernel_rfl) (by kernel_rfl) (by kernel_rfl) (Since.refl _) ?_ (fun vals => by kernel_rfl) ?_ ?_
      case refine_1 =>
        intro j' x x' v h1 h2
        match j', h2 with
        | 12, h2 => exact oneInt_since h1 h2
        | 0, h2 | 1, h2 | 2, h2 | 3, h2 | 4, h2 | 5, h2 | 6, h2 | 7, h2 | 8, h2 | 9, h2 | 10, h2 | 11, h2 => exact h2
        | n + 13, _ => trivial
      case refine_2 =>
        simp only [List.take_succ_cons, List.take_zero]
        repeat (first | exact eachDoes_nil | refine eachDoes_cons ?_ ?_)
        all_goals intro vals x hx hv
        all_goals simp [Region.binds] at hv
        all_goals first
          | (simp [does, doesUpon, go_sem, hv, Since.refl, m0, m1, m2, m3, b1]; done)
          | (simp [does, doesUpon, go_sem, hv, e0, e1, a0, a1, p0, p1, n0, n1, Since.refl]; done)
          | (simp [does, doesUpon, go_sem, hv]; exact ⟨(Since.refl _).alloc _, oneInt_new (Since.le hx) _⟩)
      case refine_3 =>
        intro vals x hx hv
        have h0 : vals 0 = _ := hv 0 (by decide)
        have h1 : vals 1 = _ := hv 1 (by decide)
        have h2 : vals 2 = _ := hv 2 (by decide)
        have h3 : vals 3 = _ := hv 3 (by decide)
        have h4 : vals 4 = _ := hv 4 (by decide)
        have h5 : vals 5 = _ := hv 5 (by decide)
        have h6 : vals 6 = _ := hv 6 (by decide)
        have h7 : vals 7 = _ := hv 7 (by decide)
        have h8 : vals 8 = _ := hv 8 (by decide)
        have h9 : vals 9 = _ := hv 9 (by decide)
        have h10 : vals 10 = _ := hv 10 (by decide)
        have h11 : vals 11 = _ := hv 11 (by decide)
        have h12 : oneInt wr.heap.size x (halfAt s (2 * j)) (vals 12) := hv 12 (by decide)
        clear hv
        obtain ⟨b, h12, hb, hbl, hc⟩ := h12
        simp only [h0, h1, h2, h3, h4, h5, h6, h7, h8, h9, h10, h11, h12, List.drop_succ_cons, List.drop_zero]
        clear h0 h1 h2 h3 h4 h5 h6 h7 h8 h9 h10 h11 h12 m0 m1 m2 m3 b1 e0 e1 r0 r1 a0 a1 p0 p1 n0 n1
        obtain ⟨ii, hi, hz0, hz1, hz2⟩ := info_parts info_int
        have hox : x.ownsRow w.heap.size 3 1 (.slice (some ⟨gb, 0, none⟩) j cb) j (firstHalves s j) := row_since hown hx
        have hsx : Since w x := hsi.trans hx
        go_wp2_with (at_builtin; refine wpList_append_own _ rfl _ _ 59 rfl w.heap.size 3 ii (.int .i64 0) 1 8 Try.underlying59 hi hz0 hz1 hz2 rfl (by decide) _ j _ rfl hox ⟨b, 0, none⟩ 1 1 [.int .i64 (halfAt s (2 * j))] rfl rfl ?c1 ?c2 ?c3 ?c4 ?c5 ?_)
        case c1 =>
          intro k u hk
          match k, hk with
          | 0, hk => simp at hk; subst hk; simpa [Addr.add] using hc
        case c2 =>
          intro u hu
          simp at hu
          subst hu
          rfl
        case c3 => unfold maxLen; omega
        case c4 => omega
        case c5 => exact hsx.le
        intro v' w1 hown' hgrow _
        obtain ⟨g', cap', rfl⟩ := ownsRow_next hown'
        have hs1 : Since w w1 := by
          refine ⟨hgrow.os.trans hsx.os, hgrow.tape.trans hsx.tape, hgrow.output.trans hsx.output, Nat.le_trans hsx.size hgrow.size, fun k hk => (hgrow.block k (Nat.lt_of_lt_of_le hk hsx.le) (fun e => ?_)).trans (hsx.block k hk)⟩
          simp [Value.ownBlock] at e
          have := (hown.lt gb rfl).1
          omega
        go_wp2
        go_roundw
        case rel =>
          refine ⟨j + 1, g', cap', ?_, by omega, rfl, ?_, hs1⟩
          · go_num
          · rw [firstHalves, List.range_succ, List.map_append]
            exact hown'
        case measure =>
          simp [intOf]
          omega
    · obtain rfl : j = 10 := by omega
      go_wp2
      go_ret
      obtain ⟨hlt10, hcells⟩ := ownsRow_read hown
      exact ⟨gb, cb, rfl, hlt10, hcells, hsi⟩
end Go.Proofs.Ytneicghhggidnab
