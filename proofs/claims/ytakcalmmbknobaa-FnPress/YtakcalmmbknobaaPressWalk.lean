/-
  The walk of FnPress.
-/
import Derived.Test.YtakcalmmbknobaaDrawCong
namespace Go.Proofs.Ytakcalmmbknobaa
open Go.ChangeShapes Go.WideShapes Go.ChangeAt Go.RowKit Go.Deep
set_option linter.unusedVariables false

theorem big9 (a : Option Addr) (len cap : Nat) (w : World) :
    Calls Try.prog 9 #[.slice a len cap] w fun e w' => e = .returned (.bool (decide ((1048576 : Int) < (len : Int)))) ∧ w = w' := by
  go_enter Try.func9, Try.ntmps9
  go_wp2
  go_ret
  exact ⟨by simp, rfl⟩

/-- What CongAck answers is in its bounds, is never less where no loss is mended, and where the next ones are to be sent again one is. -/
theorem ack_facts {f le : Bool} {x t d n : Int} (x0 : 100 ≤ x) (x1 : x ≤ 8000) (t0 : 200 ≤ t) (t1 : t ≤ 8000) (d0 : 0 ≤ d) (d1 : d ≤ 1000000) (n0 : 0 ≤ n) (n1 : n ≤ 8000) :
    congOk (ackX true f le x t n) t (ackD true f le d) = true ∧ (f = false → x ≤ ackX true f le x t n ∧ ackB true f le = false) ∧ (ackB true f le = true → ackF true f le = true) := by
  obtain ⟨q0, q1⟩ := quo_bounds x x0 x1
  refine ⟨?_, ?_, ?_⟩
  · cases f <;> cases le <;> simp [congOk, ackX, ackD] <;> (try split) <;> omega
  · intro h
    subst h
    refine ⟨?_, by simp [ackB]⟩
    simp only [ackX, if_true, Bool.false_eq_true, if_false]
    split <;> omega
  · cases f <;> cases le <;> simp [ackB, ackF]

/-- CongAck where it answers c as it is. -/
theorem implAckSame (x t d : Int) (f : Bool) (r n b : Int) (hk : (congOk x t d && decide (0 ≤ n ∧ n ≤ 8000)) = false) (w : World) :
    Calls Try.prog 11 #[.agg #[.int .i64 x, .int .i64 t, .int .i64 d, .bool f, .int .u32 r], .int .i64 n, .int .u32 b] w fun e w' => e = .returned (.tuple #[.agg #[.int .i64 x, .int .i64 t, .int .i64 d, .bool f, .int .u32 r], .bool false]) ∧ Since w w' := implAckNot x t d f r n b hk w

/-- CongAck where all is right. -/
theorem implAckRight (x t d : Int) (f : Bool) (r n b : Int) (hr : IsWord r) (hb : IsWord b) (hk : (congOk x t d && decide (0 ≤ n ∧ n ≤ 8000)) = true) :
    ∃ (X D : Int) (F B : Bool), (congOk X t D = true ∧ (f = false → x ≤ X ∧ B = false) ∧ (B = true → F = true)) ∧ ∀ w, Calls Try.prog 11 #[.agg #[.int .i64 x, .int .i64 t, .int .i64 d, .bool f, .int .u32 r], .int .i64 n, .int .u32 b] w fun e w' => e = .returned (.tuple #[.agg #[.int .i64 X, .int .i64 t, .int .i64 D, .bool F, .int .u32 r], .bool B]) ∧ Since w w' := by
  obtain ⟨s, hs⟩ := isDist_ex r b
  obtain ⟨⟨x0, x1⟩, ⟨t0, t1⟩, ⟨d0, d1⟩, n0, n1⟩ := ok_both hk
  refine ⟨_, _, _, _, ack_facts (f := f) (le := decide (0 ≤ s)) (n := n) x0 x1 t0 t1 d0 d1 n0 n1, fun w => ?_⟩
  have h := implAck x t d f r n b s hr hb hs w
  rw [hk] at h
  exact h

theorem implDup0 (t n b : Int) (i : Int) (hi : i = 0 ∨ i = 1) (t0 : 200 ≤ t) (t1 : t ≤ 8000) (n0 : 0 ≤ n) (n1 : n ≤ 8000) (w : World) :
    Calls Try.prog 15 #[.agg #[.int .i64 200, .int .i64 t, .int .i64 i, .bool false, .int .u32 0], .int .i64 n, .int .u32 b] w fun e w' => e = .returned (.tuple #[.agg #[.int .i64 200, .int .i64 t, .int .i64 (i + 1), .bool false, .int .u32 0], .bool false]) ∧ Since w w' := by
  have h := implDup 200 t i false 0 n b w
  have hk : (congOk 200 t i && decide (0 ≤ n ∧ n ≤ 8000)) = true := by
    simp [congOk]
    omega
  rw [hk] at h
  have hv : dupVal true false 200 t i 0 n b = .tuple #[.agg #[.int .i64 200, .int .i64 t, .int .i64 (i + 1), .bool false, .int .u32 0], .bool false] := by
    have h2 : ¬ i = 2 := by omega
    simp [dupVal, dupX, dupT, dupD, dupF, dupR, third, h2, congVal]
    omega
  rw [hv] at h
  exact h

theorem implDup2 (t n b : Int) (t0 : 200 ≤ t) (t1 : t ≤ 8000) (n0 : 0 ≤ n) (n1 : n ≤ 8000) (w : World) :
    Calls Try.prog 15 #[.agg #[.int .i64 200, .int .i64 t, .int .i64 2, .bool false, .int .u32 0], .int .i64 n, .int .u32 b] w fun e w' => e = .returned (.tuple #[.agg #[.int .i64 (max (n / 2) 200 + 300), .int .i64 (max (n / 2) 200), .int .i64 3, .bool true, .int .u32 b], .bool true]) ∧ Since w w' := by
  have h := implDup 200 t 2 false 0 n b w
  have hk : (congOk 200 t 2 && decide (0 ≤ n ∧ n ≤ 8000)) = true := by
    simp [congOk]
    omega
  rw [hk] at h
  have hv : dupVal true false 200 t 2 0 n b = .tuple #[.agg #[.int .i64 (max (n / 2) 200 + 300), .int .i64 (max (n / 2) 200), .int .i64 3, .bool true, .int .u32 b], .bool true] := by
    simp [dupVal, dupX, dupT, dupD, dupF, dupR, third, congVal]
    rfl
  rw [hv] at h
  exact h

theorem implLostRight (x t d : Int) (f : Bool) (r n : Int) (hk : (congOk x t d && decide (0 ≤ n ∧ n ≤ 8000)) = true) (w : World) :
    Calls Try.prog 16 #[.agg #[.int .i64 x, .int .i64 t, .int .i64 d, .bool f, .int .u32 r], .int .i64 n] w fun e w' => e = .returned (.agg #[.int .i64 100, .int .i64 (max (n / 2) 200), .int .i64 0, .bool false, .int .u32 0]) ∧ Since w w' := by
  have h := implLost x t d f r n w
  rw [hk] at h
  exact h

theorem implStartRight (t : Int) (t0 : 200 ≤ t) (t1 : t ≤ 8000) (w : World) :
    Calls Try.prog 14 #[.int .i64 t] w fun e w' => e = .returned (.agg #[.int .i64 200, .int .i64 t, .int .i64 0, .bool false, .int .u32 0]) ∧ Since w w' := by
  have h := implStart t w
  rw [show min (max t 200) 8000 = t by omega] at h
  exact h

theorem implOkS (x t d : Int) (f : Bool) (r : Int) (w : World) :
    Calls Try.prog 13 #[.agg #[.int .i64 x, .int .i64 t, .int .i64 d, .bool f, .int .u32 r]] w fun e w' => e = .returned (.bool (congOk x t d)) ∧ Since w w' :=
  (implCongOk x t d f r w).mono fun e w' ⟨h, k⟩ => ⟨h, by rw [k]; exact (Since.refl _).alloc _⟩

theorem specOkS (x t d : Int) (f : Bool) (r : Int) (w : World) :
    Calls Try.prog 12 #[.agg #[.int .i64 x, .int .i64 t, .int .i64 d, .bool f, .int .u32 r]] w fun e w' => e = .returned (.bool (congOk x t d)) ∧ Since w w' :=
  (specCongOk x t d f r w).mono fun e w' ⟨h, k⟩ => ⟨h, by rw [k]; exact (Since.refl _).alloc _⟩

set_option maxHeartbeats 4000000 in
set_option maxRecDepth 20000 in
theorem walkPress (a0 : Option Addr) (len0 cap0 : Nat) (z0 : List Int) (w : World) (hb : Bytes w a0 len0 z0) :
    Calls Try.prog 3 #[.slice a0 len0 cap0] w fun e w' => e = .returned (.bool true) ∧ Below w.heap.size w w' := by
  have hbig := fun wx => big9 a0 len0 cap0 wx
  by_cases hm : ¬ len0 ≤ 1048576
  · rw [show decide ((1048576 : Int) < (len0 : Int)) = true by simp; omega] at hbig
    clear hb
    go_enter Try.func3, Try.ntmps3
    go_wp2_with (go_at_call 9; refine (hbig _).mono ?_; rintro _ _ ⟨rfl, rfl⟩)
    go_ret
    exact ⟨rfl, Since.refl _⟩
  replace hm := Decidable.not_not.1 hm
  rw [show decide ((1048576 : Int) < (len0 : Int)) = false by simp; omega] at hbig
  go_enter Try.func3, Try.ntmps3
  go_wp2_with (go_at_call 9; refine (hbig _).mono ?_; rintro _ _ ⟨rfl, rfl⟩)
  clear hbig
  refine (drawAck9 a0 len0 cap0 z0 w hb hm).mono ?_
  rintro _ w1 ⟨x, t, d, f, r, n, b, rfl, hr, hbw, G⟩
  clear hb hm
  unfold congVal
  have A := Blk.new w1 #[.int .i64 x, .int .i64 t, .int .i64 d, .bool f, .int .u32 r] 26
  replace G := G.alloc (.cells #[.int .i64 x, .int .i64 t, .int .i64 d, .bool f, .int .u32 r] 26)
  go_wp2_with (fail)
  cases hk : (congOk x t d && decide (0 ≤ n ∧ n ≤ 8000))
  case false =>
    refine (implAckSame x t d f r n b hk _).mono ?_
    rintro _ w2 ⟨rfl, g2⟩
    replace G := G.trans g2
    replace A := A.since g2
    have N := Blk.new w2 #[.int .i64 x, .int .i64 t, .int .i64 d, .bool f, .int .u32 r] 26
    have g2' := (Since.refl w2).alloc (.cells #[.int .i64 x, .int .i64 t, .int .i64 d, .bool f, .int .u32 r] 26)
    replace G := G.trans g2'
    replace A := A.since g2'
    have cA0 := A.cell 0
    have cA1 := A.cell 1
    have cA2 := A.cell 2
    have cA3 := A.cell 3
    have cA4 := A.cell 4
    simp at cA0 cA1 cA2 cA3 cA4
    go_wp2_with (fail)
    refine (specOkS x t d f r _).mono ?_
    rintro _ w3 ⟨rfl, g3⟩
    replace G := G.trans g3
    replace A := A.since g3
    replace N := N.since g3
    clear cA0 cA1 cA2 cA3 cA4
    have cA0 := A.cell 0
    have cA1 := A.cell 1
    have cA2 := A.cell 2
    have cA3 := A.cell 3
    have cA4 := A.cell 4
    simp at cA0 cA1 cA2 cA3 cA4
    have cN0 := N.cell 0
    have cN1 := N.cell 1
    have cN2 := N.cell 2
    have cN3 := N.cell 3
    have cN4 := N.cell 4
    simp at cN0 cN1 cN2 cN3 cN4
    generalize congOk x t d = k at hk ⊢
    cases k
    · go_wp2_with (fail)
      go_ret
      exact ⟨rfl, G⟩
    · have hn : ¬ (0 ≤ n ∧ n ≤ 8000) := by simpa using hk
      by_cases hn0 : n < 0
      · go_wp2_with (fail)
        go_ret
        exact ⟨rfl, G⟩
      · have hn1 : 8000 < n := by omega
        go_wp2_with (fail)
        go_ret
        exact ⟨rfl, G⟩
  case true =>
    obtain ⟨⟨x0, x1⟩, ⟨t0, t1⟩, ⟨d0, d1⟩, n0, n1⟩ := ok_both hk
    obtain ⟨X, D, F, B, ⟨p1, p2, p3⟩, hack⟩ := implAckRight x t d f r n b hr hbw hk
    have hok : congOk x t d = true := (Bool.and_eq_true _ _ ▸ hk).1
    refine (hack _).mono ?_
    rintro _ w2 ⟨rfl, g2⟩
    clear hack
    replace G := G.trans g2
    replace A := A.since g2
    have N := Blk.new w2 #[.int .i64 X, .int .i64 t, .int .i64 D, .bool F, .int .u32 r] 26
    have g2' := (Since.refl w2).alloc (.cells #[.int .i64 X, .int .i64 t, .int .i64 D, .bool F, .int .u32 r] 26)
    replace G := G.trans g2'
    replace A := A.since g2'
    clear g2 g2'
    have cA0 := A.cell 0
    have cA1 := A.cell 1
    have cA2 := A.cell 2
    have cA3 := A.cell 3
    have cA4 := A.cell 4
    simp at cA0 cA1 cA2 cA3 cA4
    go_wp2_with (fail)
    refine (specOkS x t d f r _).mono ?_
    rw [hok]
    rintro _ w3 ⟨rfl, g3⟩
    replace G := G.trans g3
    replace A := A.since g3
    replace N := N.since g3
    clear cA0 cA1 cA2 cA3 cA4 g3 hok
    have cA0 := A.cell 0
    have cA1 := A.cell 1
    have cA2 := A.cell 2
    have cA3 := A.cell 3
    have cA4 := A.cell 4
    simp at cA0 cA1 cA2 cA3 cA4
    have cN0 := N.cell 0
    have cN1 := N.cell 1
    have cN2 := N.cell 2
    have cN3 := N.cell 3
    have cN4 := N.cell 4
    simp at cN0 cN1 cN2 cN3 cN4
    go_wp2_with (fail)
    refine (implOkS X t D F r _).mono ?_
    rw [p1]
    rintro _ w4 ⟨rfl, g4⟩
    replace G := G.trans g4
    replace A := A.since g4
    replace N := N.since g4
    clear cA0 cA1 cA2 cA3 cA4 cN0 cN1 cN2 cN3 cN4 g4 p1
    have cA0 := A.cell 0
    have cA1 := A.cell 1
    have cA2 := A.cell 2
    have cA3 := A.cell 3
    have cA4 := A.cell 4
    simp at cA0 cA1 cA2 cA3 cA4
    have cN0 := N.cell 0
    have cN1 := N.cell 1
    have cN2 := N.cell 2
    have cN3 := N.cell 3
    have cN4 := N.cell 4
    simp at cN0 cN1 cN2 cN3 cN4
    have hlost := fun wx => implLostRight x t d f r n hk wx
    have hlok : congOk 100 (max (n / 2) 200) 0 = true := by
      simp [congOk]
      omega
    have d2 := fun wx => implDup2 t n b t0 t1 n0 n1 wx
    have m0 : 200 ≤ max (n / 2) 200 := by omega
    have m1 : max (n / 2) 200 ≤ 4000 := by omega
    have m2 : max (n / 2) 200 ≤ 200 + n / 2 := by omega
    generalize max (n / 2) 200 = m at hlost hlok d2 m0 m1 m2
    clear hk
    replace hlost : Hid _ := hlost
    replace d2 : Hid _ := d2
    replace hlok : Hid _ := hlok
    cases f
    · obtain ⟨p4, rfl⟩ := p2 rfl
      clear p2 p3
      go_wp2_with (fail)
      refine (implStartRight t t0 t1 _).mono ?_
      rintro _ w5 ⟨rfl, g5⟩
      clear cA0 cA1 cA2 cA3 cA4 cN0 cN1 cN2 cN3 cN4 N
      replace G := G.trans g5
      replace A := A.since g5
      have Fr := Blk.new w5 #[.int .i64 200, .int .i64 t, .int .i64 0, .bool false, .int .u32 0] 26
      have g5' := (Since.refl w5).alloc (.cells #[.int .i64 200, .int .i64 t, .int .i64 0, .bool false, .int .u32 0] 26)
      have hA := A.lt
      have hG := G.size
      replace G := G.trans g5'
      replace A := A.since g5'
      clear g5 g5'
      go_wp2_with (fail)
      go_loopw [9, 10] (fun dv i wr => ∃ k : Nat, k ≤ 3 ∧ i = .int .i64 k ∧ dv = .bool (decide (k = 3)) ∧ Blk w1.heap.size wr #[.int .i64 x, .int .i64 t, .int .i64 d, .bool false, .int .u32 r] ∧ Blk w5.heap.size wr (if k = 3 then #[.int .i64 (m + 300), .int .i64 m, .int .i64 3, .bool true, .int .u32 b] else #[.int .i64 200, .int .i64 t, .int .i64 k, .bool false, .int .u32 0]) ∧ Since w wr) (fun _ i _ => 3 - (intOf i).toNat)
      case atStart => exact ⟨0, by omega, rfl, rfl, A, Fr, G⟩
      case round =>
        clear A Fr G
        obtain ⟨k, hk, rfl, rfl, A, Fr, G⟩ := hrel
        obtain rfl | rfl | rfl | rfl : k = 0 ∨ k = 1 ∨ k = 2 ∨ k = 3 := by omega
        · simp only [Nat.reduceEqDiff, if_false] at Fr
          have cF0 := Fr.cell 0
          have cF1 := Fr.cell 1
          have cF2 := Fr.cell 2
          have cF3 := Fr.cell 3
          have cF4 := Fr.cell 4
          simp at cF0 cF1 cF2 cF3 cF4
          go_wp2_with (fail)
          refine (implDup0 t n b 0 (by omega) t0 t1 n0 n1 _).mono ?_
          rintro _ w6 ⟨rfl, g6⟩
          clear cF0 cF1 cF2 cF3 cF4
          replace G := G.trans g6
          replace A := A.since g6
          replace Fr := Fr.since g6
          have g6' := (Since.refl w6).alloc (.cells #[.int .i64 200, .int .i64 t, .int .i64 1, .bool false, .int .u32 0] 26)
          replace G := G.trans g6'
          replace A := A.since g6'
          replace Fr := Fr.since g6'
          clear g6 g6'
          have cF0 := Fr.cell 0
          have cF1 := Fr.cell 1
          have cF2 := Fr.cell 2
          have cF3 := Fr.cell 3
          have cF4 := Fr.cell 4
          simp at cF0 cF1 cF2 cF3 cF4
          have fF0 := Fr.fz 0
          have fF1 := Fr.fz 1
          have fF2 := Fr.fz 2
          have fF3 := Fr.fz 3
          have fF4 := Fr.fz 4
          obtain ⟨y, hy, ty, Fy⟩ := stored5 Fr (.int .i64 200) (.int .i64 t) (.int .i64 1) (.bool false) (.int .u32 0)
          replace A := A.touch ty (by omega)
          replace G := since_touch G ty (by omega)
          clear Fr ty
          go_wp2_with (fail)
          clear cF0 cF1 cF2 cF3 cF4 fF0 fF1 fF2 fF3 fF4 hy
          go_roundw
          case rel => exact ⟨1, by omega, rfl, rfl, A, Fy, G⟩
          case measure => simp [intOf]
        · simp only [Nat.reduceEqDiff, if_false] at Fr
          have cF0 := Fr.cell 0
          have cF1 := Fr.cell 1
          have cF2 := Fr.cell 2
          have cF3 := Fr.cell 3
          have cF4 := Fr.cell 4
          simp at cF0 cF1 cF2 cF3 cF4
          go_wp2_with (fail)
          refine (implDup0 t n b 1 (by omega) t0 t1 n0 n1 _).mono ?_
          rintro _ w6 ⟨rfl, g6⟩
          clear cF0 cF1 cF2 cF3 cF4
          replace G := G.trans g6
          replace A := A.since g6
          replace Fr := Fr.since g6
          have g6' := (Since.refl w6).alloc (.cells #[.int .i64 200, .int .i64 t, .int .i64 2, .bool false, .int .u32 0] 26)
          replace G := G.trans g6'
          replace A := A.since g6'
          replace Fr := Fr.since g6'
          clear g6 g6'
          have cF0 := Fr.cell 0
          have cF1 := Fr.cell 1
          have cF2 := Fr.cell 2
          have cF3 := Fr.cell 3
          have cF4 := Fr.cell 4
          simp at cF0 cF1 cF2 cF3 cF4
          have fF0 := Fr.fz 0
          have fF1 := Fr.fz 1
          have fF2 := Fr.fz 2
          have fF3 := Fr.fz 3
          have fF4 := Fr.fz 4
          obtain ⟨y, hy, ty, Fy⟩ := stored5 Fr (.int .i64 200) (.int .i64 t) (.int .i64 2) (.bool false) (.int .u32 0)
          replace A := A.touch ty (by omega)
          replace G := since_touch G ty (by omega)
          clear Fr ty
          go_wp2_with (fail)
          clear cF0 cF1 cF2 cF3 cF4 fF0 fF1 fF2 fF3 fF4 hy
          go_roundw
          case rel => exact ⟨2, by omega, rfl, rfl, A, Fy, G⟩
          case measure => simp [intOf]
        · simp only [Nat.reduceEqDiff, if_false] at Fr
          have cF0 := Fr.cell 0
          have cF1 := Fr.cell 1
          have cF2 := Fr.cell 2
          have cF3 := Fr.cell 3
          have cF4 := Fr.cell 4
          simp at cF0 cF1 cF2 cF3 cF4
          go_wp2_with (fail)
          refine (d2.out _).mono ?_
          rintro _ w6 ⟨rfl, g6⟩
          clear cF0 cF1 cF2 cF3 cF4
          replace G := G.trans g6
          replace A := A.since g6
          replace Fr := Fr.since g6
          have g6' := (Since.refl w6).alloc (.cells #[.int .i64 (m + 300), .int .i64 m, .int .i64 3, .bool true, .int .u32 b] 26)
          replace G := G.trans g6'
          replace A := A.since g6'
          replace Fr := Fr.since g6'
          clear g6 g6'
          have cF0 := Fr.cell 0
          have cF1 := Fr.cell 1
          have cF2 := Fr.cell 2
          have cF3 := Fr.cell 3
          have cF4 := Fr.cell 4
          simp at cF0 cF1 cF2 cF3 cF4
          have fF0 := Fr.fz 0
          have fF1 := Fr.fz 1
          have fF2 := Fr.fz 2
          have fF3 := Fr.fz 3
          have fF4 := Fr.fz 4
          obtain ⟨y, hy, ty, Fy⟩ := stored5 Fr (.int .i64 (m + 300)) (.int .i64 m) (.int .i64 3) (.bool true) (.int .u32 b)
          replace A := A.touch ty (by omega)
          replace G := since_touch G ty (by omega)
          clear Fr ty
          go_wp2_with (fail)
          clear cF0 cF1 cF2 cF3 cF4 fF0 fF1 fF2 fF3 fF4 hy
          go_roundw
          case rel => exact ⟨3, by omega, rfl, rfl, A, Fy, G⟩
          case measure => simp [intOf]
        · simp only [if_true] at Fr
          have cA0 := A.cell 0
          have cA1 := A.cell 1
          have cA2 := A.cell 2
          have cA3 := A.cell 3
          have cA4 := A.cell 4
          simp at cA0 cA1 cA2 cA3 cA4
          go_wp2_with (fail)
          refine (hlost.out _).mono ?_
          rintro _ w6 ⟨rfl, g6⟩
          replace G := G.trans g6
          replace Fr := Fr.since g6
          have L := Blk.new w6 #[.int .i64 100, .int .i64 m, .int .i64 0, .bool false, .int .u32 0] 26
          have g6' := (Since.refl w6).alloc (.cells #[.int .i64 100, .int .i64 m, .int .i64 0, .bool false, .int .u32 0] 26)
          replace G := G.trans g6'
          replace Fr := Fr.since g6'
          clear g6 g6' cA0 cA1 cA2 cA3 cA4 A
          have cF0 := Fr.cell 0
          have cF1 := Fr.cell 1
          have cF2 := Fr.cell 2
          have cF3 := Fr.cell 3
          have cF4 := Fr.cell 4
          simp at cF0 cF1 cF2 cF3 cF4
          go_wp2_with (fail)
          refine (implOkS 100 m 0 false 0 _).mono ?_
          rw [hlok.out]
          rintro _ w7 ⟨rfl, g7⟩
          replace G := G.trans g7
          replace Fr := Fr.since g7
          replace L := L.since g7
          clear g7 cF0 cF1 cF2 cF3 cF4
          have cF0 := Fr.cell 0
          have cF1 := Fr.cell 1
          have cF2 := Fr.cell 2
          have cF3 := Fr.cell 3
          have cF4 := Fr.cell 4
          simp at cF0 cF1 cF2 cF3 cF4
          have cL0 := L.cell 0
          have cL1 := L.cell 1
          have cL2 := L.cell 2
          have cL3 := L.cell 3
          have cL4 := L.cell 4
          simp at cL0 cL1 cL2 cL3 cL4
          go_wp2_with (fail)
          go_ret
          exact ⟨rfl, G⟩
    · clear p2
      cases B
      · clear p3
        go_wp2_with (fail)
        refine (implStartRight t t0 t1 _).mono ?_
        rintro _ w5 ⟨rfl, g5⟩
        clear cA0 cA1 cA2 cA3 cA4 cN0 cN1 cN2 cN3 cN4 N
        replace G := G.trans g5
        replace A := A.since g5
        have Fr := Blk.new w5 #[.int .i64 200, .int .i64 t, .int .i64 0, .bool false, .int .u32 0] 26
        have g5' := (Since.refl w5).alloc (.cells #[.int .i64 200, .int .i64 t, .int .i64 0, .bool false, .int .u32 0] 26)
        have hA := A.lt
        have hG := G.size
        replace G := G.trans g5'
        replace A := A.since g5'
        clear g5 g5'
        go_wp2_with (fail)
        go_loopw [9, 10] (fun dv i wr => ∃ k : Nat, k ≤ 3 ∧ i = .int .i64 k ∧ dv = .bool (decide (k = 3)) ∧ Blk w1.heap.size wr #[.int .i64 x, .int .i64 t, .int .i64 d, .bool true, .int .u32 r] ∧ Blk w5.heap.size wr (if k = 3 then #[.int .i64 (m + 300), .int .i64 m, .int .i64 3, .bool true, .int .u32 b] else #[.int .i64 200, .int .i64 t, .int .i64 k, .bool false, .int .u32 0]) ∧ Since w wr) (fun _ i _ => 3 - (intOf i).toNat)
        case atStart => exact ⟨0, by omega, rfl, rfl, A, Fr, G⟩
        case round =>
          clear A Fr G
          obtain ⟨k, hk, rfl, rfl, A, Fr, G⟩ := hrel
          obtain rfl | rfl | rfl | rfl : k = 0 ∨ k = 1 ∨ k = 2 ∨ k = 3 := by omega
          · simp only [Nat.reduceEqDiff, if_false] at Fr
            have cF0 := Fr.cell 0
            have cF1 := Fr.cell 1
            have cF2 := Fr.cell 2
            have cF3 := Fr.cell 3
            have cF4 := Fr.cell 4
            simp at cF0 cF1 cF2 cF3 cF4
            go_wp2_with (fail)
            refine (implDup0 t n b 0 (by omega) t0 t1 n0 n1 _).mono ?_
            rintro _ w6 ⟨rfl, g6⟩
            clear cF0 cF1 cF2 cF3 cF4
            replace G := G.trans g6
            replace A := A.since g6
            replace Fr := Fr.since g6
            have g6' := (Since.refl w6).alloc (.cells #[.int .i64 200, .int .i64 t, .int .i64 1, .bool false, .int .u32 0] 26)
            replace G := G.trans g6'
            replace A := A.since g6'
            replace Fr := Fr.since g6'
            clear g6 g6'
            have cF0 := Fr.cell 0
            have cF1 := Fr.cell 1
            have cF2 := Fr.cell 2
            have cF3 := Fr.cell 3
            have cF4 := Fr.cell 4
            simp at cF0 cF1 cF2 cF3 cF4
            have fF0 := Fr.fz 0
            have fF1 := Fr.fz 1
            have fF2 := Fr.fz 2
            have fF3 := Fr.fz 3
            have fF4 := Fr.fz 4
            obtain ⟨y, hy, ty, Fy⟩ := stored5 Fr (.int .i64 200) (.int .i64 t) (.int .i64 1) (.bool false) (.int .u32 0)
            replace A := A.touch ty (by omega)
            replace G := since_touch G ty (by omega)
            clear Fr ty
            go_wp2_with (fail)
            clear cF0 cF1 cF2 cF3 cF4 fF0 fF1 fF2 fF3 fF4 hy
            go_roundw
            case rel => exact ⟨1, by omega, rfl, rfl, A, Fy, G⟩
            case measure => simp [intOf]
          · simp only [Nat.reduceEqDiff, if_false] at Fr
            have cF0 := Fr.cell 0
            have cF1 := Fr.cell 1
            have cF2 := Fr.cell 2
            have cF3 := Fr.cell 3
            have cF4 := Fr.cell 4
            simp at cF0 cF1 cF2 cF3 cF4
            go_wp2_with (fail)
            refine (implDup0 t n b 1 (by omega) t0 t1 n0 n1 _).mono ?_
            rintro _ w6 ⟨rfl, g6⟩
            clear cF0 cF1 cF2 cF3 cF4
            replace G := G.trans g6
            replace A := A.since g6
            replace Fr := Fr.since g6
            have g6' := (Since.refl w6).alloc (.cells #[.int .i64 200, .int .i64 t, .int .i64 2, .bool false, .int .u32 0] 26)
            replace G := G.trans g6'
            replace A := A.since g6'
            replace Fr := Fr.since g6'
            clear g6 g6'
            have cF0 := Fr.cell 0
            have cF1 := Fr.cell 1
            have cF2 := Fr.cell 2
            have cF3 := Fr.cell 3
            have cF4 := Fr.cell 4
            simp at cF0 cF1 cF2 cF3 cF4
            have fF0 := Fr.fz 0
            have fF1 := Fr.fz 1
            have fF2 := Fr.fz 2
            have fF3 := Fr.fz 3
            have fF4 := Fr.fz 4
            obtain ⟨y, hy, ty, Fy⟩ := stored5 Fr (.int .i64 200) (.int .i64 t) (.int .i64 2) (.bool false) (.int .u32 0)
            replace A := A.touch ty (by omega)
            replace G := since_touch G ty (by omega)
            clear Fr ty
            go_wp2_with (fail)
            clear cF0 cF1 cF2 cF3 cF4 fF0 fF1 fF2 fF3 fF4 hy
            go_roundw
            case rel => exact ⟨2, by omega, rfl, rfl, A, Fy, G⟩
            case measure => simp [intOf]
          · simp only [Nat.reduceEqDiff, if_false] at Fr
            have cF0 := Fr.cell 0
            have cF1 := Fr.cell 1
            have cF2 := Fr.cell 2
            have cF3 := Fr.cell 3
            have cF4 := Fr.cell 4
            simp at cF0 cF1 cF2 cF3 cF4
            go_wp2_with (fail)
            refine (d2.out _).mono ?_
            rintro _ w6 ⟨rfl, g6⟩
            clear cF0 cF1 cF2 cF3 cF4
            replace G := G.trans g6
            replace A := A.since g6
            replace Fr := Fr.since g6
            have g6' := (Since.refl w6).alloc (.cells #[.int .i64 (m + 300), .int .i64 m, .int .i64 3, .bool true, .int .u32 b] 26)
            replace G := G.trans g6'
            replace A := A.since g6'
            replace Fr := Fr.since g6'
            clear g6 g6'
            have cF0 := Fr.cell 0
            have cF1 := Fr.cell 1
            have cF2 := Fr.cell 2
            have cF3 := Fr.cell 3
            have cF4 := Fr.cell 4
            simp at cF0 cF1 cF2 cF3 cF4
            have fF0 := Fr.fz 0
            have fF1 := Fr.fz 1
            have fF2 := Fr.fz 2
            have fF3 := Fr.fz 3
            have fF4 := Fr.fz 4
            obtain ⟨y, hy, ty, Fy⟩ := stored5 Fr (.int .i64 (m + 300)) (.int .i64 m) (.int .i64 3) (.bool true) (.int .u32 b)
            replace A := A.touch ty (by omega)
            replace G := since_touch G ty (by omega)
            clear Fr ty
            go_wp2_with (fail)
            clear cF0 cF1 cF2 cF3 cF4 fF0 fF1 fF2 fF3 fF4 hy
            go_roundw
            case rel => exact ⟨3, by omega, rfl, rfl, A, Fy, G⟩
            case measure => simp [intOf]
          · simp only [if_true] at Fr
            have cA0 := A.cell 0
            have cA1 := A.cell 1
            have cA2 := A.cell 2
            have cA3 := A.cell 3
            have cA4 := A.cell 4
            simp at cA0 cA1 cA2 cA3 cA4
            go_wp2_with (fail)
            refine (hlost.out _).mono ?_
            rintro _ w6 ⟨rfl, g6⟩
            replace G := G.trans g6
            replace Fr := Fr.since g6
            have L := Blk.new w6 #[.int .i64 100, .int .i64 m, .int .i64 0, .bool false, .int .u32 0] 26
            have g6' := (Since.refl w6).alloc (.cells #[.int .i64 100, .int .i64 m, .int .i64 0, .bool false, .int .u32 0] 26)
            replace G := G.trans g6'
            replace Fr := Fr.since g6'
            clear g6 g6' cA0 cA1 cA2 cA3 cA4 A
            have cF0 := Fr.cell 0
            have cF1 := Fr.cell 1
            have cF2 := Fr.cell 2
            have cF3 := Fr.cell 3
            have cF4 := Fr.cell 4
            simp at cF0 cF1 cF2 cF3 cF4
            go_wp2_with (fail)
            refine (implOkS 100 m 0 false 0 _).mono ?_
            rw [hlok.out]
            rintro _ w7 ⟨rfl, g7⟩
            replace G := G.trans g7
            replace Fr := Fr.since g7
            replace L := L.since g7
            clear g7 cF0 cF1 cF2 cF3 cF4
            have cF0 := Fr.cell 0
            have cF1 := Fr.cell 1
            have cF2 := Fr.cell 2
            have cF3 := Fr.cell 3
            have cF4 := Fr.cell 4
            simp at cF0 cF1 cF2 cF3 cF4
            have cL0 := L.cell 0
            have cL1 := L.cell 1
            have cL2 := L.cell 2
            have cL3 := L.cell 3
            have cL4 := L.cell 4
            simp at cL0 cL1 cL2 cL3 cL4
            go_wp2_with (fail)
            go_ret
            exact ⟨rfl, G⟩
      · obtain rfl := p3 rfl
        clear p3
        go_wp2_with (fail)
        refine (implStartRight t t0 t1 _).mono ?_
        rintro _ w5 ⟨rfl, g5⟩
        clear cA0 cA1 cA2 cA3 cA4 cN0 cN1 cN2 cN3 cN4 N
        replace G := G.trans g5
        replace A := A.since g5
        have Fr := Blk.new w5 #[.int .i64 200, .int .i64 t, .int .i64 0, .bool false, .int .u32 0] 26
        have g5' := (Since.refl w5).alloc (.cells #[.int .i64 200, .int .i64 t, .int .i64 0, .bool false, .int .u32 0] 26)
        have hA := A.lt
        have hG := G.size
        replace G := G.trans g5'
        replace A := A.since g5'
        clear g5 g5'
        go_wp2_with (fail)
        go_loopw [9, 10] (fun dv i wr => ∃ k : Nat, k ≤ 3 ∧ i = .int .i64 k ∧ dv = .bool (decide (k = 3)) ∧ Blk w1.heap.size wr #[.int .i64 x, .int .i64 t, .int .i64 d, .bool true, .int .u32 r] ∧ Blk w5.heap.size wr (if k = 3 then #[.int .i64 (m + 300), .int .i64 m, .int .i64 3, .bool true, .int .u32 b] else #[.int .i64 200, .int .i64 t, .int .i64 k, .bool false, .int .u32 0]) ∧ Since w wr) (fun _ i _ => 3 - (intOf i).toNat)
        case atStart => exact ⟨0, by omega, rfl, rfl, A, Fr, G⟩
        case round =>
          clear A Fr G
          obtain ⟨k, hk, rfl, rfl, A, Fr, G⟩ := hrel
          obtain rfl | rfl | rfl | rfl : k = 0 ∨ k = 1 ∨ k = 2 ∨ k = 3 := by omega
          · simp only [Nat.reduceEqDiff, if_false] at Fr
            have cF0 := Fr.cell 0
            have cF1 := Fr.cell 1
            have cF2 := Fr.cell 2
            have cF3 := Fr.cell 3
            have cF4 := Fr.cell 4
            simp at cF0 cF1 cF2 cF3 cF4
            go_wp2_with (fail)
            refine (implDup0 t n b 0 (by omega) t0 t1 n0 n1 _).mono ?_
            rintro _ w6 ⟨rfl, g6⟩
            clear cF0 cF1 cF2 cF3 cF4
            replace G := G.trans g6
            replace A := A.since g6
            replace Fr := Fr.since g6
            have g6' := (Since.refl w6).alloc (.cells #[.int .i64 200, .int .i64 t, .int .i64 1, .bool false, .int .u32 0] 26)
            replace G := G.trans g6'
            replace A := A.since g6'
            replace Fr := Fr.since g6'
            clear g6 g6'
            have cF0 := Fr.cell 0
            have cF1 := Fr.cell 1
            have cF2 := Fr.cell 2
            have cF3 := Fr.cell 3
            have cF4 := Fr.cell 4
            simp at cF0 cF1 cF2 cF3 cF4
            have fF0 := Fr.fz 0
            have fF1 := Fr.fz 1
            have fF2 := Fr.fz 2
            have fF3 := Fr.fz 3
            have fF4 := Fr.fz 4
            obtain ⟨y, hy, ty, Fy⟩ := stored5 Fr (.int .i64 200) (.int .i64 t) (.int .i64 1) (.bool false) (.int .u32 0)
            replace A := A.touch ty (by omega)
            replace G := since_touch G ty (by omega)
            clear Fr ty
            go_wp2_with (fail)
            clear cF0 cF1 cF2 cF3 cF4 fF0 fF1 fF2 fF3 fF4 hy
            go_roundw
            case rel => exact ⟨1, by omega, rfl, rfl, A, Fy, G⟩
            case measure => simp [intOf]
          · simp only [Nat.reduceEqDiff, if_false] at Fr
            have cF0 := Fr.cell 0
            have cF1 := Fr.cell 1
            have cF2 := Fr.cell 2
            have cF3 := Fr.cell 3
            have cF4 := Fr.cell 4
            simp at cF0 cF1 cF2 cF3 cF4
            go_wp2_with (fail)
            refine (implDup0 t n b 1 (by omega) t0 t1 n0 n1 _).mono ?_
            rintro _ w6 ⟨rfl, g6⟩
            clear cF0 cF1 cF2 cF3 cF4
            replace G := G.trans g6
            replace A := A.since g6
            replace Fr := Fr.since g6
            have g6' := (Since.refl w6).alloc (.cells #[.int .i64 200, .int .i64 t, .int .i64 2, .bool false, .int .u32 0] 26)
            replace G := G.trans g6'
            replace A := A.since g6'
            replace Fr := Fr.since g6'
            clear g6 g6'
            have cF0 := Fr.cell 0
            have cF1 := Fr.cell 1
            have cF2 := Fr.cell 2
            have cF3 := Fr.cell 3
            have cF4 := Fr.cell 4
            simp at cF0 cF1 cF2 cF3 cF4
            have fF0 := Fr.fz 0
            have fF1 := Fr.fz 1
            have fF2 := Fr.fz 2
            have fF3 := Fr.fz 3
            have fF4 := Fr.fz 4
            obtain ⟨y, hy, ty, Fy⟩ := stored5 Fr (.int .i64 200) (.int .i64 t) (.int .i64 2) (.bool false) (.int .u32 0)
            replace A := A.touch ty (by omega)
            replace G := since_touch G ty (by omega)
            clear Fr ty
            go_wp2_with (fail)
            clear cF0 cF1 cF2 cF3 cF4 fF0 fF1 fF2 fF3 fF4 hy
            go_roundw
            case rel => exact ⟨2, by omega, rfl, rfl, A, Fy, G⟩
            case measure => simp [intOf]
          · simp only [Nat.reduceEqDiff, if_false] at Fr
            have cF0 := Fr.cell 0
            have cF1 := Fr.cell 1
            have cF2 := Fr.cell 2
            have cF3 := Fr.cell 3
            have cF4 := Fr.cell 4
            simp at cF0 cF1 cF2 cF3 cF4
            go_wp2_with (fail)
            refine (d2.out _).mono ?_
            rintro _ w6 ⟨rfl, g6⟩
            clear cF0 cF1 cF2 cF3 cF4
            replace G := G.trans g6
            replace A := A.since g6
            replace Fr := Fr.since g6
            have g6' := (Since.refl w6).alloc (.cells #[.int .i64 (m + 300), .int .i64 m, .int .i64 3, .bool true, .int .u32 b] 26)
            replace G := G.trans g6'
            replace A := A.since g6'
            replace Fr := Fr.since g6'
            clear g6 g6'
            have cF0 := Fr.cell 0
            have cF1 := Fr.cell 1
            have cF2 := Fr.cell 2
            have cF3 := Fr.cell 3
            have cF4 := Fr.cell 4
            simp at cF0 cF1 cF2 cF3 cF4
            have fF0 := Fr.fz 0
            have fF1 := Fr.fz 1
            have fF2 := Fr.fz 2
            have fF3 := Fr.fz 3
            have fF4 := Fr.fz 4
            obtain ⟨y, hy, ty, Fy⟩ := stored5 Fr (.int .i64 (m + 300)) (.int .i64 m) (.int .i64 3) (.bool true) (.int .u32 b)
            replace A := A.touch ty (by omega)
            replace G := since_touch G ty (by omega)
            clear Fr ty
            go_wp2_with (fail)
            clear cF0 cF1 cF2 cF3 cF4 fF0 fF1 fF2 fF3 fF4 hy
            go_roundw
            case rel => exact ⟨3, by omega, rfl, rfl, A, Fy, G⟩
            case measure => simp [intOf]
          · simp only [if_true] at Fr
            have cA0 := A.cell 0
            have cA1 := A.cell 1
            have cA2 := A.cell 2
            have cA3 := A.cell 3
            have cA4 := A.cell 4
            simp at cA0 cA1 cA2 cA3 cA4
            go_wp2_with (fail)
            refine (hlost.out _).mono ?_
            rintro _ w6 ⟨rfl, g6⟩
            replace G := G.trans g6
            replace Fr := Fr.since g6
            have L := Blk.new w6 #[.int .i64 100, .int .i64 m, .int .i64 0, .bool false, .int .u32 0] 26
            have g6' := (Since.refl w6).alloc (.cells #[.int .i64 100, .int .i64 m, .int .i64 0, .bool false, .int .u32 0] 26)
            replace G := G.trans g6'
            replace Fr := Fr.since g6'
            clear g6 g6' cA0 cA1 cA2 cA3 cA4 A
            have cF0 := Fr.cell 0
            have cF1 := Fr.cell 1
            have cF2 := Fr.cell 2
            have cF3 := Fr.cell 3
            have cF4 := Fr.cell 4
            simp at cF0 cF1 cF2 cF3 cF4
            go_wp2_with (fail)
            refine (implOkS 100 m 0 false 0 _).mono ?_
            rw [hlok.out]
            rintro _ w7 ⟨rfl, g7⟩
            replace G := G.trans g7
            replace Fr := Fr.since g7
            replace L := L.since g7
            clear g7 cF0 cF1 cF2 cF3 cF4
            have cF0 := Fr.cell 0
            have cF1 := Fr.cell 1
            have cF2 := Fr.cell 2
            have cF3 := Fr.cell 3
            have cF4 := Fr.cell 4
            simp at cF0 cF1 cF2 cF3 cF4
            have cL0 := L.cell 0
            have cL1 := L.cell 1
            have cL2 := L.cell 2
            have cL3 := L.cell 3
            have cL4 := L.cell 4
            simp at cL0 cL1 cL2 cL3 cL4
            go_wp2_with (fail)
            go_ret
            exact ⟨rfl, G⟩
end Go.Proofs.Ytakcalmmbknobaa
