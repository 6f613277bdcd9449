/-
  Contract of impl's InOk.
-/
import Derived.Test.YtpkenhcglnognaaInPure
import Derived.Test.YtpkenhcglnognaaCmp
import Derived.BigQuiet
namespace Go.Proofs.Ytpkenhcglnognaa
open Go.ChangeShapes Go.WideShapes Go.ChangeAt Go.RowKit Go.Deep
set_option linter.unusedVariables false
set_option maxRecDepth 10000
set_option maxRecDepth 10000

theorem isRoomI (x : Int) (w : World) :
    Calls Try.prog 36 #[.int .i64 x] w fun e w' => e = .returned (.bool (decide (1 ≤ x ∧ x ≤ 4096))) ∧ w = w' := by
  by_cases h1 : 1 ≤ x
  · have e1 : decide (1 ≤ x ∧ x ≤ 4096) = decide (x ≤ 4096) := by simp [h1]
    rw [e1]
    clear e1
    go_enter Try.func36, Try.ntmps36
    go_wp2
    go_ret
    exact ⟨rfl, rfl⟩
  · have e1 : decide (1 ≤ x ∧ x ≤ 4096) = false := by simp [h1]
    rw [e1]
    clear e1
    go_enter Try.func36, Try.ntmps36
    go_wp2
    go_ret
    exact ⟨rfl, rfl⟩

/-- A span as a value. -/
def spVal (s : Int × Int) : Value := .agg #[.int .i64 s.1, .int .i64 s.2]

theorem spanOf (q : Int) (p : Int × ByteArray) (hq : IsWord q) (hp : IsWord p.1) (hs : p.2.size ≤ 1048576) (w : World) :
    Calls Try.prog 72 #[.int .u32 q, .agg #[.int .u32 p.1, .string p.2]] w fun e w' => e = .returned (spVal (spn q p)) ∧ Since w w' := by
  have hdist := fun wx => implDist q p.1 (distI q p.1) hq hp (distI_is _ _) wx
  obtain ⟨hd1, hd2, _⟩ := distI_is q p.1
  unfold spVal spn
  obtain ⟨s, d⟩ := p
  simp only at *
  generalize distI q s = t at *
  have hadd : IntKind.i64.wrap (t + (d.size : Int)) = t + (d.size : Int) := by rw [IntWalk.i64_left]; exact IntWalk.wrap64_in _ ⟨by omega, by omega⟩
  go_enter Try.func72, Try.ntmps72
  go_wp2_with (go_at_call 64; refine (hdist _).mono ?_; rintro _ _ ⟨rfl, rfl⟩)
  refine bodyPost_ret (v := .agg #[.int .i64 t, .int .i64 (t + d.size)]) ?_ rfl ⟨rfl, ?_⟩
  · simp [results, go_sem]
  · repeat (first | exact Since.refl _ | refine since_put1 ?_ (by simp; try omega) _ _ | refine Since.alloc ?_ _)

theorem isEmpty (s : Int × Int) (w : World) :
    Calls Try.prog 73 #[spVal s] w fun e w' => e = .returned (.bool (decide (s.2 ≤ s.1))) ∧ Since w w' := by
  unfold spVal
  go_enter Try.func73, Try.ntmps73
  go_wp2
  go_ret
  exact ⟨rfl, (Since.refl _).alloc _⟩

theorem inRoom (q : Int) (d : ByteArray) (v : Value) (r : Int) (hd : d.size ≤ 1048576) (hr : 0 ≤ r ∧ r ≤ 4096) (w : World) :
    Calls Try.prog 74 #[inVal q d v r] w fun e w' => e = .returned (.int .i64 (r - d.size)) ∧ Since w w' := by
  unfold inVal
  have hsub : IntKind.i64.wrap (r - (d.size : Int)) = r - (d.size : Int) := by rw [IntWalk.i64_left]; exact IntWalk.wrap64_in _ ⟨by omega, by omega⟩
  go_enter Try.func74, Try.ntmps74
  go_wp2
  go_ret
  exact ⟨rfl, (Since.refl _).alloc _⟩

set_option maxHeartbeats 2000000 in
theorem implInOk (q : Int) (d : ByteArray) (r : Int) (a : Option Addr) (n cap : Nat) (ps : List (Int × ByteArray)) (g : Good q d r n ps) (w : World) (R : Rd shP w a n ps) :
    Calls Try.prog 61 #[inVal q d (.slice a n cap) r] w fun e w' => e = .returned (.bool (inOk q d r ps)) ∧ Since w w' := by
  have G : Since w (w.alloc (.cells #[.int .u32 q, .string d, .slice a n cap, .int .i64 r] 47)) := (Since.refl _).alloc _
  have A := Blk.new w #[.int .u32 q, .string d, .slice a n cap, .int .i64 r] 47
  have a0 := A.cell 0
  have a1 := A.cell 1
  have a2 := A.cell 2
  have a3 := A.cell 3
  simp at a0 a1 a2 a3
  have hlen := R.len
  obtain ⟨hq, hd, ⟨hr1, hr2⟩, hn, hp⟩ := g
  have i1 := fun wx => isRoomI r wx
  unfold inVal inOk
  by_cases c1 : 1 ≤ r ∧ r ≤ 4096
  · rw [show decide (1 ≤ r ∧ r ≤ 4096) = true from decide_eq_true c1] at i1 ⊢
    rw [Bool.true_and]
    obtain ⟨c1, c1'⟩ := c1
    by_cases c2 : (d.size : Int) ≤ r
    · rw [show decide ((d.size : Int) ≤ r) = true from decide_eq_true c2, Bool.true_and]
      have Rw := R.since G
      obtain ⟨z, hz⟩ : ∃ z, Hid (okB 0 (r - d.size) (spans q ps) = z) := ⟨_, rfl⟩
      rw [hz.out]
      go_enter Try.func61, Try.ntmps61
      go_wp2_with (go_at_call 36; refine (i1 _).mono ?_; rintro _ _ ⟨rfl, rfl⟩)
      go_loopw [3, 22] (fun e i wr => ∃ (k : Nat) (ev : Int), k ≤ n ∧ i = .int .i64 k ∧ e = .int .i64 ev ∧ 0 ≤ ev ∧ ev ≤ 4096 ∧ Hid (okB ev (r - d.size) ((spans q ps).drop k) = z) ∧ Since (w.alloc (.cells #[.int .u32 q, .string d, .slice a n cap, .int .i64 r] 47)) wr) (fun _ i _ => n - (intOf i).toNat)
      case atStart => exact ⟨0, 0, by omega, rfl, rfl, by omega, by omega, by simpa using hz, Since.refl _⟩
      case round =>
        obtain ⟨k, ev, hk, rfl, rfl, he0, he1, hz', S⟩ := hrel
        have A2 := A.since S
        have b0 := A2.cell 0
        have b1 := A2.cell 1
        have b2 := A2.cell 2
        have b3 := A2.cell 3
        simp at b0 b1 b2 b3
        clear a0 a1 a2 a3 i1
        by_cases hlt : k < n
        · obtain ⟨x, rfl, hb, p0, p1⟩ := (Rw.since S).prt k hlt
          obtain ⟨hp1, hp2⟩ := hp k hlt
          have hz2 := hz'.out
          rw [okB_step (by omega)] at hz2
          have hspan := fun wx => spanOf q (pAt ps k) hq hp1 hp2 wx
          generalize hO : pAt ps k = O at p0 p1 hz2 hspan
          have ht0 : -2147483648 ≤ (spn q O).1 ∧ (spn q O).1 < 2147483648 := ⟨(distI_is q O.1).1, (distI_is q O.1).2.1⟩
          generalize spn q O = t at hz2 hspan ht0
          have hlt' : (k : Int) < (n : Int) := by omega
          unfold spVal at hspan
          clear hp R Rw hz'
          replace hz2 : Hid _ := hz2
          by_cases hc : ev < t.1 ∧ t.1 < t.2 ∧ t.2 ≤ r - (d.size : Int)
          · obtain ⟨hc1, hc2, hc3⟩ := hc
            have hd4 : decide (t.1 ≤ ev) = false := decide_eq_false (by omega)
            have hd5 : decide (t.2 ≤ t.1) = false := decide_eq_false (by omega)
            have hd6 : decide (r - (d.size : Int) < t.2) = false := decide_eq_false (by omega)
            have g3 := (Since.refl wr).alloc (.cells #[.int .u32 O.1, .string O.2] 95)
            have b0' := (A2.since g3).cell 0
            simp at b0'
            go_wp2_with (go_at_call 72; refine (hspan _).mono ?_; rintro _ w2 ⟨rfl, g2⟩)
            have X := Blk.new w2 #[.int .i64 t.1, .int .i64 t.2] 113
            have S3 := (S.trans (g3.trans g2)).alloc (.cells #[.int .i64 t.1, .int .i64 t.2] 113)
            have A3 := A.since S3
            obtain ⟨Y, hY⟩ : ∃ Y, w2.alloc (.cells #[.int .i64 t.1, .int .i64 t.2] 113) = Y := ⟨_, rfl⟩
            rw [hY] at X S3 A3 ⊢
            have k0 : ∀ z : Later Y, z.val.cell? ⟨w.heap.size, 0, none⟩ = some (.int .u32 q) := fun z => by simpa using (A3.since z.ok).cell 0
            have k1 : ∀ z : Later Y, z.val.cell? ⟨w.heap.size, 1, none⟩ = some (.string d) := fun z => by simpa using (A3.since z.ok).cell 1
            have k2 : ∀ z : Later Y, z.val.cell? ⟨w.heap.size, 2, none⟩ = some (.slice (some x) n cap) := fun z => by simpa using (A3.since z.ok).cell 2
            have k3 : ∀ z : Later Y, z.val.cell? ⟨w.heap.size, 3, none⟩ = some (.int .i64 r) := fun z => by simpa using (A3.since z.ok).cell 3
            have m0 : ∀ z : Later Y, z.val.cell? ⟨w2.heap.size, 0, none⟩ = some (.int .i64 t.1) := fun z => by simpa using (X.since z.ok).cell 0
            have m1 : ∀ z : Later Y, z.val.cell? ⟨w2.heap.size, 1, none⟩ = some (.int .i64 t.2) := fun z => by simpa using (X.since z.ok).cell 1
            have hcl1 : ∀ z : Later Y, Calls Try.prog 73 #[.agg #[.int .i64 t.1, .int .i64 t.2]] z.val fun e w'' => e = .returned (.bool (decide (t.2 ≤ t.1))) ∧ ∃ y : Later Y, w'' = y.val := fun z => calm_call (isEmpty t z.val)
            have hcl2 : ∀ z : Later Y, Calls Try.prog 74 #[.agg #[.int .u32 q, .string d, .slice (some x) n cap, .int .i64 r]] z.val fun e w'' => e = .returned (.int .i64 (r - d.size)) ∧ ∃ y : Later Y, w'' = y.val := fun z => calm_call (inRoom q d (.slice (some x) n cap) r hd (by omega) z.val)
            have hne : Nonempty (Later Y) := ⟨⟨Y, Since.refl _⟩⟩
            clear hspan A3 X hY g2 g3 b0 b1 b2 b3 b0'
            refine wp_region_calm (wb := Y) (by kernel_rfl) (by kernel_rfl) (Since.refl _) ?_
            repeat (go_big_quiet_step (first | exact hcl1 _ | exact hcl2 _))
            refine wpQuiet_nil ?_
            rintro _ ⟨y, rfl⟩
            have e0 := k0 y
            have e2 := k2 y
            have n1 := m1 y
            clear k0 k1 k2 k3 m0 m1 hcl1 hcl2
            go_wp2
            have hz3 := hz2.out
            rw [show decide (ev < t.1 ∧ t.1 < t.2 ∧ t.2 ≤ r - (d.size : Int)) = true from decide_eq_true ⟨hc1, hc2, hc3⟩, Bool.true_and] at hz3
            clear hz2
            replace hz3 : Hid _ := hz3
            go_roundw
            case rel => exact ⟨k + 1, t.2, by omega, by go_num, rfl, by omega, by omega, hz3, S3.trans y.ok⟩
            case measure => simp [intOf]; omega
          · by_cases s4 : t.1 ≤ ev
            · have hz3 : z = false := by rw [← hz2.out, decide_eq_false hc, Bool.false_and]
              subst hz3
              clear hz2 hc
              have hd4 : decide (t.1 ≤ ev) = true := decide_eq_true (by omega)
              have g3 := (Since.refl wr).alloc (.cells #[.int .u32 O.1, .string O.2] 95)
              have b0' := (A2.since g3).cell 0
              simp at b0'
              go_wp2_with (go_at_call 72; refine (hspan _).mono ?_; rintro _ w2 ⟨rfl, g2⟩)
              have X := Blk.new w2 #[.int .i64 t.1, .int .i64 t.2] 113
              have S3 := (S.trans (g3.trans g2)).alloc (.cells #[.int .i64 t.1, .int .i64 t.2] 113)
              have A3 := A.since S3
              obtain ⟨Y, hY⟩ : ∃ Y, w2.alloc (.cells #[.int .i64 t.1, .int .i64 t.2] 113) = Y := ⟨_, rfl⟩
              rw [hY] at X S3 A3 ⊢
              have k0 : ∀ z : Later Y, z.val.cell? ⟨w.heap.size, 0, none⟩ = some (.int .u32 q) := fun z => by simpa using (A3.since z.ok).cell 0
              have k1 : ∀ z : Later Y, z.val.cell? ⟨w.heap.size, 1, none⟩ = some (.string d) := fun z => by simpa using (A3.since z.ok).cell 1
              have k2 : ∀ z : Later Y, z.val.cell? ⟨w.heap.size, 2, none⟩ = some (.slice (some x) n cap) := fun z => by simpa using (A3.since z.ok).cell 2
              have k3 : ∀ z : Later Y, z.val.cell? ⟨w.heap.size, 3, none⟩ = some (.int .i64 r) := fun z => by simpa using (A3.since z.ok).cell 3
              have m0 : ∀ z : Later Y, z.val.cell? ⟨w2.heap.size, 0, none⟩ = some (.int .i64 t.1) := fun z => by simpa using (X.since z.ok).cell 0
              have m1 : ∀ z : Later Y, z.val.cell? ⟨w2.heap.size, 1, none⟩ = some (.int .i64 t.2) := fun z => by simpa using (X.since z.ok).cell 1
              have hc1 : ∀ z : Later Y, Calls Try.prog 73 #[.agg #[.int .i64 t.1, .int .i64 t.2]] z.val fun e w'' => e = .returned (.bool (decide (t.2 ≤ t.1))) ∧ ∃ y : Later Y, w'' = y.val := fun z => calm_call (isEmpty t z.val)
              have hc2 : ∀ z : Later Y, Calls Try.prog 74 #[.agg #[.int .u32 q, .string d, .slice (some x) n cap, .int .i64 r]] z.val fun e w'' => e = .returned (.int .i64 (r - d.size)) ∧ ∃ y : Later Y, w'' = y.val := fun z => calm_call (inRoom q d (.slice (some x) n cap) r hd (by omega) z.val)
              have hne : Nonempty (Later Y) := ⟨⟨Y, Since.refl _⟩⟩
              clear hspan A3 X hY g2 g3 b0 b1 b2 b3 b0'
              refine wp_region_calm (wb := Y) (by kernel_rfl) (by kernel_rfl) (Since.refl _) ?_
              repeat (go_big_quiet_step (first | exact hc1 _ | exact hc2 _))
              refine wpQuiet_nil ?_
              rintro _ ⟨y, rfl⟩
              have e0 := k0 y
              have e2 := k2 y
              have n1 := m1 y
              clear k0 k1 k2 k3 m0 m1 hc1 hc2
              go_wp2
              go_ret
              exact ⟨rfl, G.trans (S3.trans y.ok)⟩
            by_cases s5 : t.2 ≤ t.1
            · have hz3 : z = false := by rw [← hz2.out, decide_eq_false hc, Bool.false_and]
              subst hz3
              clear hz2 hc
              have hd4 : decide (t.1 ≤ ev) = false := decide_eq_false (by omega)
              have hd5 : decide (t.2 ≤ t.1) = true := decide_eq_true (by omega)
              have g3 := (Since.refl wr).alloc (.cells #[.int .u32 O.1, .string O.2] 95)
              have b0' := (A2.since g3).cell 0
              simp at b0'
              go_wp2_with (go_at_call 72; refine (hspan _).mono ?_; rintro _ w2 ⟨rfl, g2⟩)
              have X := Blk.new w2 #[.int .i64 t.1, .int .i64 t.2] 113
              have S3 := (S.trans (g3.trans g2)).alloc (.cells #[.int .i64 t.1, .int .i64 t.2] 113)
              have A3 := A.since S3
              obtain ⟨Y, hY⟩ : ∃ Y, w2.alloc (.cells #[.int .i64 t.1, .int .i64 t.2] 113) = Y := ⟨_, rfl⟩
              rw [hY] at X S3 A3 ⊢
              have k0 : ∀ z : Later Y, z.val.cell? ⟨w.heap.size, 0, none⟩ = some (.int .u32 q) := fun z => by simpa using (A3.since z.ok).cell 0
              have k1 : ∀ z : Later Y, z.val.cell? ⟨w.heap.size, 1, none⟩ = some (.string d) := fun z => by simpa using (A3.since z.ok).cell 1
              have k2 : ∀ z : Later Y, z.val.cell? ⟨w.heap.size, 2, none⟩ = some (.slice (some x) n cap) := fun z => by simpa using (A3.since z.ok).cell 2
              have k3 : ∀ z : Later Y, z.val.cell? ⟨w.heap.size, 3, none⟩ = some (.int .i64 r) := fun z => by simpa using (A3.since z.ok).cell 3
              have m0 : ∀ z : Later Y, z.val.cell? ⟨w2.heap.size, 0, none⟩ = some (.int .i64 t.1) := fun z => by simpa using (X.since z.ok).cell 0
              have m1 : ∀ z : Later Y, z.val.cell? ⟨w2.heap.size, 1, none⟩ = some (.int .i64 t.2) := fun z => by simpa using (X.since z.ok).cell 1
              have hc1 : ∀ z : Later Y, Calls Try.prog 73 #[.agg #[.int .i64 t.1, .int .i64 t.2]] z.val fun e w'' => e = .returned (.bool (decide (t.2 ≤ t.1))) ∧ ∃ y : Later Y, w'' = y.val := fun z => calm_call (isEmpty t z.val)
              have hc2 : ∀ z : Later Y, Calls Try.prog 74 #[.agg #[.int .u32 q, .string d, .slice (some x) n cap, .int .i64 r]] z.val fun e w'' => e = .returned (.int .i64 (r - d.size)) ∧ ∃ y : Later Y, w'' = y.val := fun z => calm_call (inRoom q d (.slice (some x) n cap) r hd (by omega) z.val)
              have hne : Nonempty (Later Y) := ⟨⟨Y, Since.refl _⟩⟩
              clear hspan A3 X hY g2 g3 b0 b1 b2 b3 b0'
              refine wp_region_calm (wb := Y) (by kernel_rfl) (by kernel_rfl) (Since.refl _) ?_
              repeat (go_big_quiet_step (first | exact hc1 _ | exact hc2 _))
              refine wpQuiet_nil ?_
              rintro _ ⟨y, rfl⟩
              have e0 := k0 y
              have e2 := k2 y
              have n1 := m1 y
              clear k0 k1 k2 k3 m0 m1 hc1 hc2
              go_wp2
              go_ret
              exact ⟨rfl, G.trans (S3.trans y.ok)⟩
            have s6 : r - (d.size : Int) < t.2 := by omega
            have hz3 : z = false := by rw [← hz2.out, decide_eq_false hc, Bool.false_and]
            subst hz3
            clear hz2 hc
            have hd4 : decide (t.1 ≤ ev) = false := decide_eq_false (by omega)
            have hd5 : decide (t.2 ≤ t.1) = false := decide_eq_false (by omega)
            have hd6 : decide (r - (d.size : Int) < t.2) = true := decide_eq_true (by omega)
            have g3 := (Since.refl wr).alloc (.cells #[.int .u32 O.1, .string O.2] 95)
            have b0' := (A2.since g3).cell 0
            simp at b0'
            go_wp2_with (go_at_call 72; refine (hspan _).mono ?_; rintro _ w2 ⟨rfl, g2⟩)
            have X := Blk.new w2 #[.int .i64 t.1, .int .i64 t.2] 113
            have S3 := (S.trans (g3.trans g2)).alloc (.cells #[.int .i64 t.1, .int .i64 t.2] 113)
            have A3 := A.since S3
            obtain ⟨Y, hY⟩ : ∃ Y, w2.alloc (.cells #[.int .i64 t.1, .int .i64 t.2] 113) = Y := ⟨_, rfl⟩
            rw [hY] at X S3 A3 ⊢
            have k0 : ∀ z : Later Y, z.val.cell? ⟨w.heap.size, 0, none⟩ = some (.int .u32 q) := fun z => by simpa using (A3.since z.ok).cell 0
            have k1 : ∀ z : Later Y, z.val.cell? ⟨w.heap.size, 1, none⟩ = some (.string d) := fun z => by simpa using (A3.since z.ok).cell 1
            have k2 : ∀ z : Later Y, z.val.cell? ⟨w.heap.size, 2, none⟩ = some (.slice (some x) n cap) := fun z => by simpa using (A3.since z.ok).cell 2
            have k3 : ∀ z : Later Y, z.val.cell? ⟨w.heap.size, 3, none⟩ = some (.int .i64 r) := fun z => by simpa using (A3.since z.ok).cell 3
            have m0 : ∀ z : Later Y, z.val.cell? ⟨w2.heap.size, 0, none⟩ = some (.int .i64 t.1) := fun z => by simpa using (X.since z.ok).cell 0
            have m1 : ∀ z : Later Y, z.val.cell? ⟨w2.heap.size, 1, none⟩ = some (.int .i64 t.2) := fun z => by simpa using (X.since z.ok).cell 1
            have hc1 : ∀ z : Later Y, Calls Try.prog 73 #[.agg #[.int .i64 t.1, .int .i64 t.2]] z.val fun e w'' => e = .returned (.bool (decide (t.2 ≤ t.1))) ∧ ∃ y : Later Y, w'' = y.val := fun z => calm_call (isEmpty t z.val)
            have hc2 : ∀ z : Later Y, Calls Try.prog 74 #[.agg #[.int .u32 q, .string d, .slice (some x) n cap, .int .i64 r]] z.val fun e w'' => e = .returned (.int .i64 (r - d.size)) ∧ ∃ y : Later Y, w'' = y.val := fun z => calm_call (inRoom q d (.slice (some x) n cap) r hd (by omega) z.val)
            have hne : Nonempty (Later Y) := ⟨⟨Y, Since.refl _⟩⟩
            clear hspan A3 X hY g2 g3 b0 b1 b2 b3 b0'
            refine wp_region_calm (wb := Y) (by kernel_rfl) (by kernel_rfl) (Since.refl _) ?_
            repeat (go_big_quiet_step (first | exact hc1 _ | exact hc2 _))
            refine wpQuiet_nil ?_
            rintro _ ⟨y, rfl⟩
            have e0 := k0 y
            have e2 := k2 y
            have n1 := m1 y
            clear k0 k1 k2 k3 m0 m1 hc1 hc2
            go_wp2
            go_ret
            exact ⟨rfl, G.trans (S3.trans y.ok)⟩
        · have hkn : k = n := by omega
          subst hkn
          have hz2 := hz'.out
          rw [okB_end (by omega)] at hz2
          subst hz2
          clear hp R Rw hz' hz
          go_wp2
          go_ret
          exact ⟨rfl, G.trans S⟩
    · rw [show decide ((d.size : Int) ≤ r) = false from decide_eq_false c2, Bool.false_and]
      clear R hp
      go_enter Try.func61, Try.ntmps61
      go_wp2_with (go_at_call 36; refine (i1 _).mono ?_; rintro _ _ ⟨rfl, rfl⟩)
      go_ret
      exact ⟨rfl, G⟩
  · rw [show decide (1 ≤ r ∧ r ≤ 4096) = false from decide_eq_false c1] at i1 ⊢
    rw [Bool.false_and]
    clear R hp c1
    go_enter Try.func61, Try.ntmps61
    go_wp2_with (go_at_call 36; refine (i1 _).mono ?_; rintro _ _ ⟨rfl, rfl⟩)
    go_ret
    exact ⟨rfl, G⟩
end Go.Proofs.Ytpkenhcglnognaa
