/-
  What RttRun answers, as a plain function, and contracts of impl's and spec's RttRun.
-/
import Derived.Test.YtppmanjeeffddaaRttSW
import Derived.Test.YtppmanjeeffddaaNumLaw
import Derived.Test.YtppmanjeeffddaaDrawnTail
namespace Go.Proofs.Ytppmanjeeffddaa
open Go.ChangeShapes Go.WideShapes Go.ChangeAt Go.RowKit Go.Deep
set_option linter.unusedVariables false
set_option maxRecDepth 10000

/-- A wait: Any, Smooth, Vary, Shift. -/
abbrev Rt := Bool × Int × Int × Int

/-- What RttBack answers. -/
def backV (a : Bool) (s v d : Int) : Rt := if rttOk a s v d then (a, s, v, min (d + 1) 8) else (false, 0, 0, 0)

/-- What RttSample answers. -/
def sampV (a : Bool) (s v d r : Int) : Rt := if rttOk a s v d && decide (0 ≤ r ∧ r ≤ 100000) then (true, sampleS a s r, sampleV a s v r, 0) else (false, 0, 0, 0)

/-- What a number makes of a wait. -/
def stepR (t : Rt) (n : Int) : Rt := if n < 0 then backV t.1 t.2.1 t.2.2.1 t.2.2.2 else sampV t.1 t.2.1 t.2.2.1 t.2.2.2 n

/-- The wait behind numbers. -/
def stR (ns : List Int) : Rt := ns.foldl stepR (false, 0, 0, 0)

/-- How long to wait. -/
def wR (t : Rt) : Int := waitOf t.1 t.2.1 t.2.2.1 t.2.2.2

/-- How long to wait behind each number. -/
def outR (ns : List Int) : List Int := (List.range ns.length).map fun i => wR (stR (ns.take (i + 1)))

/-- What RttRun answers. -/
def runR (ns : List Int) : List Int := if ns.length ≤ 1000 then outR ns else []

theorem outR_len (ns : List Int) : (outR ns).length = ns.length := by simp [outR]

theorem stR_next (ns : List Int) (k : Nat) (hk : k < ns.length) : stR (ns.take (k + 1)) = stepR (stR (ns.take k)) (iAt ns k) := by
  rw [shI.take_next ns k hk]
  simp [stR, List.foldl_append]
  rfl

theorem outR_next (ns : List Int) (k : Nat) (hk : k < ns.length) : outR (ns.take (k + 1)) = outR (ns.take k) ++ [wR (stR (ns.take (k + 1)))] := by
  have e1 : (ns.take (k + 1)).length = k + 1 := by simp; omega
  have e2 : (ns.take k).length = k := by simp; omega
  unfold outR
  rw [e1, e2, List.range_succ, List.map_append]
  congr 1
  · apply List.map_congr_left
    intro i hi
    have := List.mem_range.1 hi
    rw [List.take_take, List.take_take, Nat.min_eq_left (by omega), Nat.min_eq_left (by omega)]
  · simp [List.take_take]

theorem back_form (a : Bool) (s v d : Int) (u : Rt) (h : backV a s v d = u) : (if rttOk a s v d then rttVal a s v (min (d + 1) 8) else rttVal false 0 0 0) = rttVal u.1 u.2.1 u.2.2.1 u.2.2.2 := by
  subst h
  unfold backV
  split <;> rfl

theorem samp_form (a : Bool) (s v d r : Int) (u : Rt) (h : sampV a s v d r = u) : (if rttOk a s v d && decide (0 ≤ r ∧ r ≤ 100000) then rttVal true (sampleS a s r) (sampleV a s v r) 0 else rttVal false 0 0 0) = rttVal u.1 u.2.1 u.2.2.1 u.2.2.2 := by
  subst h
  unfold sampV
  split <;> rfl

/-- A struct of four cells stored into a variable. -/
theorem stored4 {b : Nat} {x : World} {c0 c1 c2 c3 : Value} (B : Blk b x #[c0, c1, c2, c3]) (v0 v1 v2 v3 : Value) :
    ∃ y, (((x.setCell ⟨b, 0, none⟩ v0).setCell ⟨b, 1, none⟩ v1).setCell ⟨b, 2, none⟩ v2).setCell ⟨b, 3, none⟩ v3 = y ∧ Touch b x y ∧ Blk b y #[v0, v1, v2, v3] := by
  have k := (((B.put 0 v0 (by simp)).put 1 v1 (by simp)).put 2 v2 (by simp)).put 3 v3 (by simp)
  exact ⟨_, rfl, ((((Touch.refl b x).put 0 v0).put 1 v1).put 2 v2).put 3 v3, by simpa using k⟩

theorem blkGrown {w w' : World} {b : Nat} {cs : Array Value} {row : Option Nat} (h : Blk b w cs) (k : w.grownBy w' row) (hne : row = some b → False) : Blk b w' cs :=
  ⟨Nat.lt_of_lt_of_le h.lt k.size, fun i => (k.frozen_far ⟨b, i, none⟩ h.lt (fun e => hne e.symm)).trans (h.fz i), fun i => (k.cell_far ⟨b, i, none⟩ h.lt (fun e => hne e.symm)).trans (h.cell i)⟩

theorem since_touch {w x y : World} {b : Nat} (h : Since w x) (k : Touch b x y) (hb : w.heap.size ≤ b) : Since w y := Touch.below k h hb h.le

set_option maxHeartbeats 1000000 in
theorem implRun (a : Option Addr) (n cap : Nat) (ns : List Int) (hn : n ≤ 1000) (w : World) (R : Rd shI w a n ns) :
    Calls Try.prog 11 #[.slice a n cap] w fun e w' => ∃ g c, e = .returned (.slice (some ⟨g, 0, none⟩) n c) ∧ Held shI w' w.heap.size g n c (outR ns) ∧ Since w w' := by
  have T0 := (Held.empty (S := shI) w).since ((Since.refl _).alloc (.cells #[.bool false, .int .i64 0, .int .i64 0, .int .i64 0] 28))
  have B0 := Blk.new (w.alloc (.cells #[] 3)) #[.bool false, .int .i64 0, .int .i64 0, .int .i64 0] 28
  rw [World.size_alloc] at B0
  have G0 := ((Since.refl w).alloc (.cells #[] 3)).alloc (.cells #[.bool false, .int .i64 0, .int .i64 0, .int .i64 0] 28)
  go_enter Try.func11, Try.ntmps11
  go_wp2
  go_loopw [3, 14] (fun v i wr => ∃ (k g c : Nat), k ≤ n ∧ i = .int .i64 k ∧ v = .slice (some ⟨g, 0, none⟩) k c ∧ Held shI wr w.heap.size g k c (outR (ns.take k)) ∧ Blk (w.heap.size + 1) wr #[.bool (stR (ns.take k)).1, .int .i64 (stR (ns.take k)).2.1, .int .i64 (stR (ns.take k)).2.2.1, .int .i64 (stR (ns.take k)).2.2.2] ∧ g ≠ w.heap.size + 1 ∧ Since w wr) (fun _ i _ => n - (intOf i).toNat)
  case atStart => exact ⟨0, w.heap.size, 0, by omega, rfl, rfl, T0, B0, by omega, G0⟩
  case round =>
    obtain ⟨k, g, c, hk, rfl, rfl, T, B, hg, S⟩ := hrel
    have hsz := S.le
    by_cases hlt : k < n
    · have hlt' : (k : Int) < (n : Int) := by omega
      have hkl : k < ns.length := by rw [R.len]; exact hlt
      have hnx := stR_next ns k hkl
      obtain ⟨⟨ta, ts, tv, td⟩, ht⟩ : ∃ t, stR (ns.take k) = t := ⟨_, rfl⟩
      rw [ht] at B hnx
      have c0 := B.cell 0
      have c1 := B.cell 1
      have c2 := B.cell 2
      have c3 := B.cell 3
      simp at c0 c1 c2 c3
      obtain ⟨x, rfl, hb, q0⟩ := (R.since S).num k hlt
      generalize hO : iAt ns k = O at q0 hnx
      obtain ⟨⟨ua, us, uv, ud⟩, hu⟩ : ∃ u, stepR (ta, ts, tv, td) O = u := ⟨_, rfl⟩
      rw [hu] at hnx
      replace hnx : Hid _ := hnx
      unfold stepR at hu
      clear R T0 B0 G0 ht hO
      by_cases hneg : O < 0
      · rw [if_pos hneg] at hu
        replace hu : backV ta ts tv td = (ua, us, uv, ud) := hu
        go_wp2_with (fail)
        refine (implBack ta ts tv td _).mono ?_
        rw [back_form _ _ _ _ _ hu]
        rintro _ w2 ⟨rfl, g2⟩
        have T2 := T.since g2
        have B2 := B.since g2
        have S2 := S.trans g2
        have b0 := B2.cell 0
        have b1 := B2.cell 1
        have b2 := B2.cell 2
        have b3 := B2.cell 3
        simp at b0 b1 b2 b3
        have f0 := B2.fz 0
        have f1 := B2.fz 1
        have f2 := B2.fz 2
        have f3 := B2.fz 3
        obtain ⟨y, hy, ty, By⟩ := stored4 B2 (.bool ua) (.int .i64 us) (.int .i64 uv) (.int .i64 ud)
        have s0 := By.cell 0
        have s1 := By.cell 1
        have s2 := By.cell 2
        have s3 := By.cell 3
        simp at s0 s1 s2 s3
        unfold rttVal
        clear hu
        go_wp2_with (fail)
        clear s0 s1 s2 s3 hy f0 f1 f2 f3 b0 b1 b2 b3
        have Ty := T2.touch ty hg
        have Sy := since_touch S2 ty (by omega)
        refine (implWait ua us uv ud y).mono ?_
        rintro _ w3 ⟨rfl, g3⟩
        have hw : Hid (wR (ua, us, uv, ud) = waitOf ua us uv ud) := rfl
        generalize waitOf ua us uv ud = q at hw ⊢
        have T3 := Ty.since g3
        have B3 := By.since g3
        have S3 := Sy.trans g3
        have gZ := (Since.refl w3).alloc (.cells #[.int .i64 q] 3)
        have TZ := T3.since gZ
        have BZ := B3.since gZ
        have RZ := Rd.one (S := shI) w3 q 3 w3.heap.size rfl
        have hz3 := S3.le
        go_wp2_with (at_builtin; refine app_own (v := .slice (some ⟨g, 0, none⟩) k c) laidI rfl _ _ rfl rfl TZ rfl RZ (by omega) (by unfold maxLen; omega) (by omega) (by simp; omega) _ rfl ?_; intro g' c' w5 T5 hg5 hat5)
        have hlo := TZ.low'
        have S5 := since_grown (S3.trans gZ) hg5 (fun j e => by have e' : g = j := (by simpa [Value.ownBlock] using e); omega)
        have B5 := blkGrown BZ hg5 (fun e => by have e' : g = w.heap.size + 1 := (by simpa [Value.ownBlock] using e); omega)
        have hzb := B3.lt
        have hg' : g' ≠ w.heap.size + 1 := by
          rcases hat5 with e | e
          · have e' : g = g' := by simpa [Value.ownBlock] using e
            omega
          · simp at e
            omega
        go_roundw
        case rel =>
          refine ⟨k + 1, g', c', by omega, by go_num, rfl, ?_, ?_, hg', S5⟩
          · rw [outR_next ns k hkl, hnx, hw.out]
            exact T5
          · rw [hnx]
            exact B5
        case measure => simp [intOf]; omega
      · rw [if_neg hneg] at hu
        replace hu : sampV ta ts tv td O = (ua, us, uv, ud) := hu
        have hpos : 0 ≤ O := by omega
        go_wp2_with (fail)
        refine (implSample ta ts tv td O _).mono ?_
        rw [samp_form _ _ _ _ _ _ hu]
        rintro _ w2 ⟨rfl, g2⟩
        have T2 := T.since g2
        have B2 := B.since g2
        have S2 := S.trans g2
        have b0 := B2.cell 0
        have b1 := B2.cell 1
        have b2 := B2.cell 2
        have b3 := B2.cell 3
        simp at b0 b1 b2 b3
        have f0 := B2.fz 0
        have f1 := B2.fz 1
        have f2 := B2.fz 2
        have f3 := B2.fz 3
        obtain ⟨y, hy, ty, By⟩ := stored4 B2 (.bool ua) (.int .i64 us) (.int .i64 uv) (.int .i64 ud)
        have s0 := By.cell 0
        have s1 := By.cell 1
        have s2 := By.cell 2
        have s3 := By.cell 3
        simp at s0 s1 s2 s3
        unfold rttVal
        clear hu
        go_wp2_with (fail)
        clear s0 s1 s2 s3 hy f0 f1 f2 f3 b0 b1 b2 b3
        have Ty := T2.touch ty hg
        have Sy := since_touch S2 ty (by omega)
        refine (implWait ua us uv ud y).mono ?_
        rintro _ w3 ⟨rfl, g3⟩
        have hw : Hid (wR (ua, us, uv, ud) = waitOf ua us uv ud) := rfl
        generalize waitOf ua us uv ud = q at hw ⊢
        have T3 := Ty.since g3
        have B3 := By.since g3
        have S3 := Sy.trans g3
        have gZ := (Since.refl w3).alloc (.cells #[.int .i64 q] 3)
        have TZ := T3.since gZ
        have BZ := B3.since gZ
        have RZ := Rd.one (S := shI) w3 q 3 w3.heap.size rfl
        have hz3 := S3.le
        go_wp2_with (at_builtin; refine app_own (v := .slice (some ⟨g, 0, none⟩) k c) laidI rfl _ _ rfl rfl TZ rfl RZ (by omega) (by unfold maxLen; omega) (by omega) (by simp; omega) _ rfl ?_; intro g' c' w5 T5 hg5 hat5)
        have hlo := TZ.low'
        have S5 := since_grown (S3.trans gZ) hg5 (fun j e => by have e' : g = j := (by simpa [Value.ownBlock] using e); omega)
        have B5 := blkGrown BZ hg5 (fun e => by have e' : g = w.heap.size + 1 := (by simpa [Value.ownBlock] using e); omega)
        have hzb := B3.lt
        have hg' : g' ≠ w.heap.size + 1 := by
          rcases hat5 with e | e
          · have e' : g = g' := by simpa [Value.ownBlock] using e
            omega
          · simp at e
            omega
        go_roundw
        case rel =>
          refine ⟨k + 1, g', c', by omega, by go_num, rfl, ?_, ?_, hg', S5⟩
          · rw [outR_next ns k hkl, hnx, hw.out]
            exact T5
          · rw [hnx]
            exact B5
        case measure => simp [intOf]; omega
    · have hkn : k = n := by omega
      subst hkn
      have e : ns.take k = ns := List.take_of_length_le (Nat.le_of_eq R.len)
      rw [e] at T
      clear e T0 B0 G0 R B
      go_wp2
      go_ret
      exact ⟨g, c, rfl, T, S⟩

theorem implRunOut (a : Option Addr) (n cap : Nat) (hn : 1000 < n) (hm : n ≤ 9223372036854775807) (w : World) :
    Calls Try.prog 11 #[.slice a n cap] w fun e w' => ∃ g c, e = .returned (.slice (some ⟨g, 0, none⟩) 0 c) ∧ Held shI w' w.heap.size g 0 c [] ∧ Since w w' := by
  have T0 := Held.empty (S := shI) w
  go_enter Try.func11, Try.ntmps11
  go_wp2
  go_ret
  exact ⟨_, _, rfl, T0, (Since.refl w).alloc _⟩

set_option maxHeartbeats 1000000 in
theorem specRun (a : Option Addr) (n cap : Nat) (ns : List Int) (hn : n ≤ 1000) (w : World) (R : Rd shI w a n ns) :
    Calls Try.prog 12 #[.slice a n cap] w fun e w' => ∃ g c, e = .returned (.slice (some ⟨g, 0, none⟩) n c) ∧ Held shI w' w.heap.size g n c (outR ns) ∧ Since w w' := by
  have T0 := (Held.empty (S := shI) w).since ((Since.refl _).alloc (.cells #[.bool false, .int .i64 0, .int .i64 0, .int .i64 0] 28))
  have B0 := Blk.new (w.alloc (.cells #[] 3)) #[.bool false, .int .i64 0, .int .i64 0, .int .i64 0] 28
  rw [World.size_alloc] at B0
  have G0 := ((Since.refl w).alloc (.cells #[] 3)).alloc (.cells #[.bool false, .int .i64 0, .int .i64 0, .int .i64 0] 28)
  go_enter Try.func12, Try.ntmps12
  go_wp2
  go_loopw [3, 5] (fun v i wr => ∃ (k g c : Nat), k ≤ n ∧ i = .int .i64 k ∧ v = .slice (some ⟨g, 0, none⟩) k c ∧ Held shI wr w.heap.size g k c (outR (ns.take k)) ∧ Blk (w.heap.size + 1) wr #[.bool (stR (ns.take k)).1, .int .i64 (stR (ns.take k)).2.1, .int .i64 (stR (ns.take k)).2.2.1, .int .i64 (stR (ns.take k)).2.2.2] ∧ g ≠ w.heap.size + 1 ∧ Since w wr) (fun _ i _ => n - (intOf i).toNat)
  case atStart => exact ⟨0, w.heap.size, 0, by omega, rfl, rfl, T0, B0, by omega, G0⟩
  case round =>
    obtain ⟨k, g, c, hk, rfl, rfl, T, B, hg, S⟩ := hrel
    have hsz := S.le
    by_cases hlt : k < n
    · have hlt' : (k : Int) < (n : Int) := by omega
      have hkl : k < ns.length := by rw [R.len]; exact hlt
      have hnx := stR_next ns k hkl
      obtain ⟨⟨ta, ts, tv, td⟩, ht⟩ : ∃ t, stR (ns.take k) = t := ⟨_, rfl⟩
      rw [ht] at B hnx
      have c0 := B.cell 0
      have c1 := B.cell 1
      have c2 := B.cell 2
      have c3 := B.cell 3
      simp at c0 c1 c2 c3
      obtain ⟨x0, rfl, hb, q0⟩ := (R.since S).num k hlt
      generalize hO : iAt ns k = O at q0 hnx
      obtain ⟨⟨ua, us, uv, ud⟩, hu⟩ : ∃ u, stepR (ta, ts, tv, td) O = u := ⟨_, rfl⟩
      rw [hu] at hnx
      replace hnx : Hid _ := hnx
      unfold stepR at hu
      clear R T0 B0 G0 ht hO
      by_cases hneg : O < 0
      · rw [if_pos hneg] at hu
        replace hu : backV ta ts tv td = (ua, us, uv, ud) := hu
        go_wp2_with (fail)
        refine (specBack ta ts tv td _).mono ?_
        rw [back_form _ _ _ _ _ hu]
        rintro _ w2 ⟨rfl, g2⟩
        have T2 := T.since g2
        have B2 := B.since g2
        have S2 := S.trans g2
        have b0 := B2.cell 0
        have b1 := B2.cell 1
        have b2 := B2.cell 2
        have b3 := B2.cell 3
        simp at b0 b1 b2 b3
        have f0 := B2.fz 0
        have f1 := B2.fz 1
        have f2 := B2.fz 2
        have f3 := B2.fz 3
        obtain ⟨y, hy, ty, By⟩ := stored4 B2 (.bool ua) (.int .i64 us) (.int .i64 uv) (.int .i64 ud)
        have s0 := By.cell 0
        have s1 := By.cell 1
        have s2 := By.cell 2
        have s3 := By.cell 3
        simp at s0 s1 s2 s3
        unfold rttVal
        clear hu
        go_wp2_with (fail)
        clear s0 s1 s2 s3 hy f0 f1 f2 f3 b0 b1 b2 b3
        have Ty := T2.touch ty hg
        have Sy := since_touch S2 ty (by omega)
        refine (specWait ua us uv ud y).mono ?_
        rintro _ w3 ⟨rfl, g3⟩
        have hw : Hid (wR (ua, us, uv, ud) = waitOf ua us uv ud) := rfl
        generalize waitOf ua us uv ud = q at hw ⊢
        have T3 := Ty.since g3
        have B3 := By.since g3
        have S3 := Sy.trans g3
        have gZ := (Since.refl w3).alloc (.cells #[.int .i64 q] 3)
        have TZ := T3.since gZ
        have BZ := B3.since gZ
        have RZ := Rd.one (S := shI) w3 q 3 w3.heap.size rfl
        have hz3 := S3.le
        go_wp2_with (at_builtin; refine app_own (v := .slice (some ⟨g, 0, none⟩) k c) laidI rfl _ _ rfl rfl TZ rfl RZ (by omega) (by unfold maxLen; omega) (by omega) (by simp; omega) _ rfl ?_; intro g' c' w5 T5 hg5 hat5)
        have hlo := TZ.low'
        have S5 := since_grown (S3.trans gZ) hg5 (fun j e => by have e' : g = j := (by simpa [Value.ownBlock] using e); omega)
        have B5 := blkGrown BZ hg5 (fun e => by have e' : g = w.heap.size + 1 := (by simpa [Value.ownBlock] using e); omega)
        have hzb := B3.lt
        have hg' : g' ≠ w.heap.size + 1 := by
          rcases hat5 with e | e
          · have e' : g = g' := by simpa [Value.ownBlock] using e
            omega
          · simp at e
            omega
        go_roundw
        case rel =>
          refine ⟨k + 1, g', c', by omega, by go_num, rfl, ?_, ?_, hg', S5⟩
          · rw [outR_next ns k hkl, hnx, hw.out]
            exact T5
          · rw [hnx]
            exact B5
        case measure => simp [intOf]; omega
      · rw [if_neg hneg] at hu
        replace hu : sampV ta ts tv td O = (ua, us, uv, ud) := hu
        have hpos : 0 ≤ O := by omega
        go_wp2_with (fail)
        refine wp_region_tail (wb := wr) 6 (fun i x v => match i with
            | 0 => v = .agg #[.bool ta, .int .i64 ts, .int .i64 tv, .int .i64 td]
            | 1 => v = .slice (some x0) n cap
            | 2 => v = .int .i64 k
            | 3 => v = .pointer (some (x0.add k))
            | 4 => v = .int .i64 O
            | 5 => v = .agg #[.bool ua, .int .i64 us, .int .i64 uv, .int .i64 ud]
            | _ => True) (fun v => { tmps := #[Value.slice (some x0) n cap, undef, Value.slice none 0 0, Value.slice (some ⟨g, 0, none⟩) k c, Value.pointer (some ⟨w.heap.size + 1, 0, none⟩), Value.int IntKind.i64 (k : Int), Value.slice (some ⟨w.heap.size, 0, none⟩) 0 0, Value.slice (some x0) n cap, Value.int IntKind.i64 (n : Int), Value.bool (decide (1000 < (n : Int))), undef, Value.agg #[Value.bool false, Value.int IntKind.i64 0, Value.int IntKind.i64 0, Value.int IntKind.i64 0], Value.int IntKind.i64 (k : Int), Value.slice (some x0) n cap, Value.int IntKind.i64 (n : Int), Value.bool true, u16, u17, Value.slice (some x0) n cap, Value.int IntKind.i64 (k : Int), Value.pointer (some (x0.add k)), Value.int IntKind.i64 O, Value.bool false, u23, u24, v 0, v 1, v 2, v 3, v 4, v 5, u31, u32, u33, u34, u35, undef], defers := [] }) (by kernel_rfl) (by kernel_rfl) (by kernel_rfl) (Since.refl _) ?_ (fun vals => by kernel_rfl) ?_ ?_
        case refine_1 =>
          intro j x x' v h1 h2
          match j, h2 with
          | 0, h2 | 1, h2 | 2, h2 | 3, h2 | 4, h2 | 5, h2 => exact h2
          | n + 6, _ => trivial
        case refine_2 =>
          repeat (first | exact eachDoes_nil | refine eachDoes_cons ?_ ?_)
          all_goals intro vals x hx hv
          all_goals simp [Region.binds] at hv
          · simp [does, doesUpon, go_sem, hv]
            refine (specSample ta ts tv td O x).mono ?_
            rw [samp_form _ _ _ _ _ _ hu]
            rintro _ x' ⟨rfl, h1⟩
            simp [h1, rttVal]
          · have e0 := (Below.cell hx (p := x0.add k) (by rw [add_block]; exact hb)).trans q0
            simp [does, doesUpon, go_sem, hv, e0, Since.refl]
          · simp [does, doesUpon, go_sem, hv, hlt, Since.refl]
          · simp [does, doesUpon, go_sem, Since.refl]
          · simp [does, doesUpon, go_sem, Since.refl]
          · have e0 := (B.since hx).cell 0
            have e1 := (B.since hx).cell 1
            have e2 := (B.since hx).cell 2
            have e3 := (B.since hx).cell 3
            simp at e0 e1 e2 e3
            simp [does, doesUpon, go_sem, e0, e1, e2, e3, Since.refl]
        case refine_3 =>
          intro vals x hx hv
          have h5 : vals 5 = _ := hv 5 (by decide)
          clear hv
          simp only [h5]
          have g2 : Since wr x := hx
          have T2 := T.since g2
          have B2 := B.since g2
          have S2 := S.trans g2
          have b0 := B2.cell 0
          have b1 := B2.cell 1
          have b2 := B2.cell 2
          have b3 := B2.cell 3
          simp at b0 b1 b2 b3
          have f0 := B2.fz 0
          have f1 := B2.fz 1
          have f2 := B2.fz 2
          have f3 := B2.fz 3
          obtain ⟨y, hy, ty, By⟩ := stored4 B2 (.bool ua) (.int .i64 us) (.int .i64 uv) (.int .i64 ud)
          have s0 := By.cell 0
          have s1 := By.cell 1
          have s2 := By.cell 2
          have s3 := By.cell 3
          simp at s0 s1 s2 s3
          clear hu
          go_wp2_with (fail)
          clear s0 s1 s2 s3 hy f0 f1 f2 f3 b0 b1 b2 b3
          have Ty := T2.touch ty hg
          have Sy := since_touch S2 ty (by omega)
          refine (specWait ua us uv ud y).mono ?_
          rintro _ w3 ⟨rfl, g3⟩
          have hw : Hid (wR (ua, us, uv, ud) = waitOf ua us uv ud) := rfl
          generalize waitOf ua us uv ud = q at hw ⊢
          have T3 := Ty.since g3
          have B3 := By.since g3
          have S3 := Sy.trans g3
          have gZ := (Since.refl w3).alloc (.cells #[.int .i64 q] 3)
          have TZ := T3.since gZ
          have BZ := B3.since gZ
          have RZ := Rd.one (S := shI) w3 q 3 w3.heap.size rfl
          have hz3 := S3.le
          go_wp2_with (at_builtin; refine app_own (v := .slice (some ⟨g, 0, none⟩) k c) laidI rfl _ _ rfl rfl TZ rfl RZ (by omega) (by unfold maxLen; omega) (by omega) (by simp; omega) _ rfl ?_; intro g' c' w5 T5 hg5 hat5)
          have hlo := TZ.low'
          have S5 := since_grown (S3.trans gZ) hg5 (fun j e => by have e' : g = j := (by simpa [Value.ownBlock] using e); omega)
          have B5 := blkGrown BZ hg5 (fun e => by have e' : g = w.heap.size + 1 := (by simpa [Value.ownBlock] using e); omega)
          have hzb := B3.lt
          have hg' : g' ≠ w.heap.size + 1 := by
            rcases hat5 with e | e
            · have e' : g = g' := by simpa [Value.ownBlock] using e
              omega
            · simp at e
              omega
          go_roundw
          case rel =>
            refine ⟨k + 1, g', c', by omega, by go_num, rfl, ?_, ?_, hg', S5⟩
            · rw [outR_next ns k hkl, hnx, hw.out]
              exact T5
            · rw [hnx]
              exact B5
          case measure => simp [intOf]; omega
    · have hkn : k = n := by omega
      subst hkn
      have e : ns.take k = ns := List.take_of_length_le (Nat.le_of_eq R.len)
      rw [e] at T
      clear e T0 B0 G0 R B
      go_wp2
      go_ret
      exact ⟨g, c, rfl, T, S⟩

theorem specRunOut (a : Option Addr) (n cap : Nat) (hn : 1000 < n) (hm : n ≤ 9223372036854775807) (w : World) :
    Calls Try.prog 12 #[.slice a n cap] w fun e w' => ∃ g c, e = .returned (.slice (some ⟨g, 0, none⟩) 0 c) ∧ Held shI w' w.heap.size g 0 c [] ∧ Since w w' := by
  have T0 := Held.empty (S := shI) w
  go_enter Try.func12, Try.ntmps12
  go_wp2
  go_ret
  exact ⟨_, _, rfl, T0, (Since.refl w).alloc _⟩

end Go.Proofs.Ytppmanjeeffddaa
