/-
  Contracts of impl's with, within and joined.
-/
import Derived.Test.YtmgaikpninblgaaPutPure
namespace Go.Proofs.Ytmgaikpninblgaa
open Go.ChangeShapes Go.WideShapes Go.ChangeAt Go.RowKit Go.Deep
set_option linter.unusedVariables false
set_option maxRecDepth 10000

theorem spanWith (s o : Int × Int) (w : World) :
    Calls Try.prog 52 #[spVal s, spVal o] w fun e w' => e = .returned (spVal (min s.1 o.1, max s.2 o.2)) ∧ Since w w' := by
  unfold spVal
  obtain ⟨s1, s2⟩ := s
  obtain ⟨o1, o2⟩ := o
  simp only
  obtain ⟨x, hx⟩ : ∃ x, min s1 o1 = x := ⟨_, rfl⟩
  obtain ⟨y, hy⟩ : ∃ y, max s2 o2 = y := ⟨_, rfl⟩
  have hx' : (if o1 < s1 then o1 else s1) = x := by rw [← hx]; split <;> omega
  have hy' : (if s2 < o2 then o2 else s2) = y := by rw [← hy]; split <;> omega
  rw [hx, hy]
  go_enter Try.func52, Try.ntmps52
  go_wp2
  refine bodyPost_ret (v := .agg #[.int .i64 x, .int .i64 y]) ?_ rfl ⟨rfl, ?_⟩
  · simp [results, go_sem]
  · repeat (first | exact Since.refl _ | refine since_put1 ?_ (by simp; try omega) _ _ | refine Since.alloc ?_ _)

theorem spanWithin (s : Int × Int) (n : Int) (w : World) :
    Calls Try.prog 28 #[spVal s, .int .i64 n] w fun e w' => e = .returned (spVal (max s.1 0, min s.2 n)) ∧ Since w w' := by
  unfold spVal
  obtain ⟨s1, s2⟩ := s
  simp only
  obtain ⟨x, hx⟩ : ∃ x, max s1 0 = x := ⟨_, rfl⟩
  obtain ⟨y, hy⟩ : ∃ y, min s2 n = y := ⟨_, rfl⟩
  have hx' : (if s1 < 0 then 0 else s1) = x := by rw [← hx]; split <;> omega
  have hy' : (if n < s2 then n else s2) = y := by rw [← hy]; split <;> omega
  rw [hx, hy]
  go_enter Try.func28, Try.ntmps28
  go_wp2
  refine bodyPost_ret (v := .agg #[.int .i64 x, .int .i64 y]) ?_ rfl ⟨rfl, ?_⟩
  · simp [results, go_sem]
  · repeat (first | exact Since.refl _ | refine since_put1 ?_ (by simp; try omega) _ _ | refine Since.alloc ?_ _)

theorem joinR_step {l : List (Int × Int)} {k : Nat} (h : k < l.length) (s : Int × Int) : joinR (l.drop k) s = if (sAt l k).2 < s.1 then sAt l k :: joinR (l.drop (k + 1)) s else if s.2 < (sAt l k).1 then s :: joinR (l.drop (k + 1)) (sAt l k) else joinR (l.drop (k + 1)) (min s.1 (sAt l k).1, max s.2 (sAt l k).2) := by
  rw [List.drop_eq_getElem_cons h, joinR, sAt_lt h]

set_option maxHeartbeats 2000000 in
theorem joined (a : Option Addr) (n cap : Nat) (l : List (Int × Int)) (s0 : Int × Int) (hn : n ≤ 1048576) (w : World) (R : Rd shS w a n l) :
    Calls Try.prog 31 #[.slice a n cap, spVal s0] w fun e w' => ∃ b m c, e = .returned (.slice (some ⟨b, 0, none⟩) m c) ∧ Held shS w' w.heap.size b m c (joinR l s0) ∧ Since w w' := by
  have hlen := R.len
  unfold spVal
  have T0 := Held.empty (S := shS) (w.alloc (.cells #[.int .i64 s0.1, .int .i64 s0.2] 55))
  have A0 := (Blk.new w #[.int .i64 s0.1, .int .i64 s0.2] 55).since ((Since.refl _).alloc (.cells #[] 55))
  have G0 : Since w ((w.alloc (.cells #[.int .i64 s0.1, .int .i64 s0.2] 55)).alloc (.cells #[] 55)) := ((Since.refl _).alloc _).alloc _
  simp only [World.size_alloc] at T0
  obtain ⟨J, hJ⟩ : ∃ J, Hid (joinR l s0 = J) := ⟨_, rfl⟩
  rw [hJ.out]
  go_enter Try.func31, Try.ntmps31
  go_wp2
  go_loopw [5, 11] (fun v i wr => ∃ (k g m c : Nat) (out : List (Int × Int)) (s : Int × Int), k ≤ n ∧ m ≤ k ∧ i = .int .i64 k ∧ v = .slice (some ⟨g, 0, none⟩) m c ∧ Held shS wr (w.heap.size + 1) g m c out ∧ Blk w.heap.size wr #[.int .i64 s.1, .int .i64 s.2] ∧ Hid (out ++ joinR (l.drop k) s = J) ∧ Since w wr) (fun _ i _ => n - (intOf i).toNat)
  case atStart => exact ⟨0, w.heap.size + 1, 0, 0, [], s0, by omega, by omega, rfl, rfl, T0, A0, by simpa using hJ, G0⟩
  case round =>
    obtain ⟨k, g, m, c, out, s, hk, hm, rfl, rfl, T, A, hj, Sr⟩ := hrel
    have hlo := T.low'
    have hhi := T.lt
    have hAl := A.lt
    by_cases hlt : k < n
    · have hlt' : (k : Int) < (n : Int) := by omega
      obtain ⟨x, rfl, hb, p0, p1⟩ := (R.since Sr).sp k hlt
      have hj2 := hj.out
      rw [joinR_step (by omega)] at hj2
      generalize sAt l k = o at p0 p1 hj2
      have gY := (Since.refl wr).alloc (.cells #[.int .i64 o.1, .int .i64 o.2] 55)
      have TY := T.since gY
      have AY := A.since gY
      have XY := Blk.new wr #[.int .i64 o.1, .int .i64 o.2] 55
      have a0 := AY.cell 0
      have a1 := AY.cell 1
      simp at a0 a1
      have z0 := AY.fz 0
      have z1 := AY.fz 1
      clear R T0 A0 hj hJ
      by_cases c1 : o.2 < s.1
      · rw [if_pos c1] at hj2
        replace hj2 : Hid _ := hj2
        have gZ := gY.alloc (.cells #[.int .i64 o.1, .int .i64 o.2] 55)
        have TZ := T.since gZ
        have AZ := A.since gZ
        have RZ := Rd.one (S := shS) (wr.alloc (.cells #[.int .i64 o.1, .int .i64 o.2] 55)) o 55 (wr.heap.size + 1) (by simp)
        go_wp2_with (at_builtin; refine app_own (v := .slice (some ⟨g, 0, none⟩) m c) laidS rfl _ _ rfl rfl TZ rfl RZ (by omega) (by unfold maxLen; omega) (by omega) (by simp; omega) _ rfl ?_; intro g' c' w5 T5 hg5 hat5)
        have t5 : Touch g _ w5 := ⟨hg5.os, hg5.tape, hg5.output, hg5.size, fun j hj hne => hg5.block j hj (by simp [Value.ownBlock]; omega)⟩
        have A5 := AZ.touch t5 (by omega)
        have S5 := (Sr.trans gZ).touch t5 (by omega)
        go_roundw
        case rel => exact ⟨k + 1, g', m + 1, c', out ++ [o], s, by omega, by omega, by go_num, rfl, T5, A5, by rw [Hid, List.append_assoc]; exact hj2.out, S5⟩
        case measure => simp [intOf]; omega
      · rw [if_neg c1] at hj2
        by_cases c2 : s.2 < o.1
        · rw [if_pos c2] at hj2
          replace hj2 : Hid _ := hj2
          have gZ := gY.alloc (.cells #[.int .i64 s.1, .int .i64 s.2] 55)
          have TZ := T.since gZ
          have AZ := A.since gZ
          have XZ := XY.since ((Since.refl _).alloc (.cells #[.int .i64 s.1, .int .i64 s.2] 55))
          have RZ := Rd.one (S := shS) (wr.alloc (.cells #[.int .i64 o.1, .int .i64 o.2] 55)) s 55 (wr.heap.size + 1) (by simp)
          go_wp2_with (at_builtin; refine app_own (v := .slice (some ⟨g, 0, none⟩) m c) laidS rfl _ _ rfl rfl TZ rfl RZ (by omega) (by unfold maxLen; omega) (by omega) (by simp; omega) _ rfl ?_; intro g' c' w5 T5 hg5 hat5; have t5 : Touch g _ w5 := ⟨hg5.os, hg5.tape, hg5.output, hg5.size, fun j hj hne => hg5.block j hj (by simp [Value.ownBlock]; omega)⟩; have A5 := AZ.touch t5 (by omega); have X5 := XZ.touch t5 (by omega); have x0 := X5.cell 0; have x1 := X5.cell 1; have y0 := A5.cell 0; have y1 := A5.cell 1; simp at x0 x1 y0 y1; have u0 := A5.fz 0; have u1 := A5.fz 1)
          have S5 := (Sr.trans gZ).touch t5 (by omega)
          have hgl := T5.low'
          have A6 := (A5.put 0 (.int .i64 o.1) (by simp)).put 1 (.int .i64 o.2) (by simp)
          have T6 := (T5.other (show g' ≠ w.heap.size by omega) 0 (.int .i64 o.1)).other (show g' ≠ w.heap.size by omega) 1 (.int .i64 o.2)
          go_roundw
          case rel => exact ⟨k + 1, g', m + 1, c', out ++ [s], o, by omega, by omega, by go_num, rfl, T6, by simpa using A6, by rw [Hid, List.append_assoc]; exact hj2.out, since_put1 (since_put1 S5 (by omega) _ _) (by omega) _ _⟩
          case measure => simp [intOf]; omega
        · rw [if_neg c2] at hj2
          replace hj2 : Hid _ := hj2
          have hw := fun wx => spanWith s o wx
          unfold spVal at hw
          generalize min s.1 o.1 = m1 at hw hj2
          generalize max s.2 o.2 = m2 at hw hj2
          have x0 := XY.cell 0
          have x1 := XY.cell 1
          simp at x0 x1
          go_wp2_with (go_at_call 52; refine (hw _).mono ?_; rintro _ w5 ⟨rfl, g5⟩; have A5 := AY.since g5; have y0 := A5.cell 0; have y1 := A5.cell 1; simp at y0 y1; have u0 := A5.fz 0; have u1 := A5.fz 1)
          have A6 := (A5.put 0 (.int .i64 m1) (by simp)).put 1 (.int .i64 m2) (by simp)
          have T6 := ((TY.since g5).other (show g ≠ w.heap.size by omega) 0 (.int .i64 m1)).other (show g ≠ w.heap.size by omega) 1 (.int .i64 m2)
          go_roundw
          case rel => exact ⟨k + 1, g, m, c, out, (m1, m2), by omega, by omega, by go_num, rfl, T6, by simpa using A6, hj2, since_put1 (since_put1 (Sr.trans (gY.trans g5)) (by omega) _ _) (by omega) _ _⟩
          case measure => simp [intOf]; omega
    · have hkn : k = n := by omega
      have hj2 := hj.out
      rw [List.drop_eq_nil_of_le (by omega), joinR] at hj2
      replace hj2 : Hid _ := hj2
      have a0 := A.cell 0
      have a1 := A.cell 1
      simp at a0 a1
      have gZ := (Since.refl wr).alloc (.cells #[.int .i64 s.1, .int .i64 s.2] 55)
      have TZ := T.since gZ
      have RZ := Rd.one (S := shS) wr s 55 wr.heap.size rfl
      clear R T0 A0 hj hJ
      go_wp2_with (at_builtin; refine app_own (v := .slice (some ⟨g, 0, none⟩) m c) laidS rfl _ _ rfl rfl TZ rfl RZ (by omega) (by unfold maxLen; omega) (by omega) (by simp; omega) _ rfl ?_; intro g' c' w5 T5 hg5 hat5)
      have S5 := since_grown (Sr.trans gZ) hg5 (fun j e => by have e' : g = j := (by simpa [Value.ownBlock] using e); omega)
      have hgl := T5.low'
      go_ret
      exact ⟨g', m + 1, c', rfl, by rw [← hj2.out]; exact T5.raise (by omega), S5⟩
end Go.Proofs.Ytmgaikpninblgaa
