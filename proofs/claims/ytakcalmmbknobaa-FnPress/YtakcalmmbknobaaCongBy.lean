/-
  Contracts of impl's CongAck and CongDup over those of the methods in the table by state.
-/
import Derived.Test.YtakcalmmbknobaaCongI
import Derived.Test.YtakcalmmbknobaaCongJ
import Derived.Test.YtakcalmmbknobaaDrawnTail
import Derived.Test.YtakcalmmbknobaaTab
namespace Go.Proofs.Ytakcalmmbknobaa
open Go.ChangeShapes Go.WideShapes Go.ChangeAt Go.RowKit
set_option linter.unusedVariables false

/-- A struct of five cells stored into a variable. -/
theorem stored5 {b : Nat} {x : World} {c0 c1 c2 c3 c4 : Value} (B : Blk b x #[c0, c1, c2, c3, c4]) (v0 v1 v2 v3 v4 : Value) :
    ∃ y, ((((x.setCell ⟨b, 0, none⟩ v0).setCell ⟨b, 1, none⟩ v1).setCell ⟨b, 2, none⟩ v2).setCell ⟨b, 3, none⟩ v3).setCell ⟨b, 4, none⟩ v4 = y ∧ Touch b x y ∧ Blk b y #[v0, v1, v2, v3, v4] := by
  have k := ((((B.put 0 v0 (by simp)).put 1 v1 (by simp)).put 2 v2 (by simp)).put 3 v3 (by simp)).put 4 v4 (by simp)
  exact ⟨_, rfl, (((((Touch.refl b x).put 0 v0).put 1 v1).put 2 v2).put 3 v3).put 4 v4, by simpa using k⟩

theorem since_touch {w x y : World} {b : Nat} (h : Since w x) (k : Touch b x y) (hb : w.heap.size ≤ b) : Since w y := Touch.below k h hb h.le

theorem implAckNot (x t d : Int) (f : Bool) (r n b : Int) (hk : (congOk x t d && decide (0 ≤ n ∧ n ≤ 8000)) = false) (w : World) :
    Calls Try.prog 11 #[congVal x t d f r, .int .i64 n, .int .u32 b] w fun e w' => e = .returned (.tuple #[congVal x t d f r, .bool false]) ∧ Since w w' := by
  have ho := fun wx => implCongOk x t d f r wx
  have hu := fun wx => isUnderWay n wx
  generalize congOk x t d = k at ho hk
  generalize decide (0 ≤ n ∧ n ≤ 8000) = u at hu hk
  unfold congVal at *
  cases k
  · clear hu hk
    go_enter Try.func11, Try.ntmps11
    go_wp2_with (go_at_call 13; refine (ho _).mono ?_; rintro _ _ ⟨rfl, rfl⟩)
    refine bodyPost_ret (v := .tuple #[.agg #[.int .i64 x, .int .i64 t, .int .i64 d, .bool f, .int .u32 r], .bool false]) ?_ rfl ⟨rfl, by repeat (first | exact Since.refl _ | apply Since.drew | apply Since.alloc)⟩
    simp [results, go_sem]
  · obtain rfl : u = false := by simpa using hk
    clear hk
    go_enter Try.func11, Try.ntmps11
    go_wp2_with (first | (go_at_call 13; refine (ho _).mono ?_; rintro _ _ ⟨rfl, rfl⟩) | (go_at_call 27; refine (hu _).mono ?_; rintro _ _ ⟨rfl, rfl⟩))
    refine bodyPost_ret (v := .tuple #[.agg #[.int .i64 x, .int .i64 t, .int .i64 d, .bool f, .int .u32 r], .bool false]) ?_ rfl ⟨rfl, by repeat (first | exact Since.refl _ | apply Since.drew | apply Since.alloc)⟩
    simp [results, go_sem]

theorem implAckBy (x t d : Int) (f : Bool) (r n b : Int) (hk : (congOk x t d && decide (0 ≤ n ∧ n ≤ 8000)) = true) (p q : FuncId)
    (hst : ∀ wx, Calls Try.prog 28 #[congVal x t d f r] wx fun e w' => e = .returned (.agg #[.func (.func p) #[] #[], .func (.func q) #[] #[]]) ∧ Since wx w') (X T D : Int) (F B : Bool) (R : Int)
    (hrun : ∀ args wx, (callFunc p args).run Try.prog wx = .ok (.enter p args) wx) (hcl : ∀ wx, Calls Try.prog p #[congVal x t d f r, .int .i64 n, .int .u32 b] wx fun e w' => e = .returned (.tuple #[congVal X T D F R, .bool B]) ∧ Since wx w') (w : World) :
    Calls Try.prog 11 #[congVal x t d f r, .int .i64 n, .int .u32 b] w fun e w' => e = .returned (.tuple #[congVal X T D F R, .bool B]) ∧ Since w w' := by
  have hfld : ∀ (u v : Value) (wx : World), (Instr.field 48 (.agg #[u, v]) 0).run Try.prog wx = .ok u wx := fun _ _ _ => by kernel_rfl
  have ho := fun wx => implCongOk x t d f r wx
  have hu := fun wx => isUnderWay n wx
  simp only [Bool.and_eq_true] at hk
  rw [hk.1] at ho
  rw [hk.2] at hu
  clear hk
  unfold congVal at *
  have A0 := (Blk.new w #[.int .i64 x, .int .i64 t, .int .i64 d, .bool f, .int .u32 r] 26)
  go_enter Try.func11, Try.ntmps11
  go_wp2_with (first | (go_at_call 13; refine (ho _).mono ?_; rintro _ _ ⟨rfl, rfl⟩) | (go_at_call 27; refine (hu _).mono ?_; rintro _ _ ⟨rfl, rfl⟩))
  have g1 : Since (w.alloc (.cells #[.int .i64 x, .int .i64 t, .int .i64 d, .bool f, .int .u32 r] 26)) (((w.alloc (.cells #[.int .i64 x, .int .i64 t, .int .i64 d, .bool f, .int .u32 r] 26)).alloc (.cells #[.int .i64 0, .int .i64 0, .int .i64 0, .bool false, .int .u32 0] 26)).alloc (.cells #[.int .i64 x, .int .i64 t, .int .i64 d, .bool f, .int .u32 r] 26)) := by repeat (first | exact Since.refl _ | apply Since.drew | apply Since.alloc)
  have A := A0.since g1
  have Z := (Blk.new (w.alloc (.cells #[.int .i64 x, .int .i64 t, .int .i64 d, .bool f, .int .u32 r] 26)) #[.int .i64 0, .int .i64 0, .int .i64 0, .bool false, .int .u32 0] 26).since ((Since.refl _).alloc (.cells #[.int .i64 x, .int .i64 t, .int .i64 d, .bool f, .int .u32 r] 26))
  have G : Since w (((w.alloc (.cells #[.int .i64 x, .int .i64 t, .int .i64 d, .bool f, .int .u32 r] 26)).alloc (.cells #[.int .i64 0, .int .i64 0, .int .i64 0, .bool false, .int .u32 0] 26)).alloc (.cells #[.int .i64 x, .int .i64 t, .int .i64 d, .bool f, .int .u32 r] 26)) := by repeat (first | exact Since.refl _ | apply Since.drew | apply Since.alloc)
  clear A0 g1
  simp at Z
  generalize (((w.alloc (.cells #[.int .i64 x, .int .i64 t, .int .i64 d, .bool f, .int .u32 r] 26)).alloc (.cells #[.int .i64 0, .int .i64 0, .int .i64 0, .bool false, .int .u32 0] 26)).alloc (.cells #[.int .i64 x, .int .i64 t, .int .i64 d, .bool f, .int .u32 r] 26)) = w1 at A Z G ⊢
  refine wp_region_tail (wb := w1) 9 (fun i y v => match i with
      | 0 => v = .agg #[.int .i64 x, .int .i64 t, .int .i64 d, .bool f, .int .u32 r]
      | 1 => v = .agg #[.func (.func p) #[] #[], .func (.func q) #[] #[]]
      | 2 => v = .func (.func p) #[] #[]
      | 3 => v = .agg #[.int .i64 x, .int .i64 t, .int .i64 d, .bool f, .int .u32 r]
      | 4 => v = .int .i64 n
      | 5 => v = .int .u32 b
      | 6 => v = .tuple #[.agg #[.int .i64 X, .int .i64 T, .int .i64 D, .bool F, .int .u32 R], .bool B]
      | 7 => v = .agg #[.int .i64 X, .int .i64 T, .int .i64 D, .bool F, .int .u32 R]
      | 8 => v = .bool B
      | _ => True) (fun v => { tmps := #[Value.agg #[Value.int IntKind.i64 x, Value.int IntKind.i64 t, Value.int IntKind.i64 d, Value.bool f, Value.int IntKind.u32 r], Value.int IntKind.i64 n, Value.int IntKind.u32 b, Value.pointer (some ⟨w.heap.size, 0, none⟩), undef, undef, Value.pointer (some ⟨w.heap.size + 1, 0, none⟩), Value.bool false, Value.agg #[Value.int IntKind.i64 x, Value.int IntKind.i64 t, Value.int IntKind.i64 d, Value.bool f, Value.int IntKind.u32 r], Value.bool true, Value.bool false, Value.bool false, Value.int IntKind.i64 n, Value.bool true, Value.bool false, Value.bool false, undef, v 0, v 1, v 2, v 3, v 4, v 5, v 6, v 7, v 8], defers := [] }) (by kernel_rfl) (by kernel_rfl) (by kernel_rfl) (Since.refl _) ?_ (fun vals => by kernel_rfl) ?_ ?_
  case refine_1 =>
    intro j x x' v h1 h2
    match j, h2 with
    | 0, h2 | 1, h2 | 2, h2 | 3, h2 | 4, h2 | 5, h2 | 6, h2 | 7, h2 | 8, h2 => exact h2
    | n + 9, _ => trivial
  case refine_2 =>
    repeat (first | exact eachDoes_nil | refine eachDoes_cons ?_ ?_)
    all_goals intro vals y hy hv
    all_goals simp [Region.binds] at hv
    · simp [does, doesUpon, go_sem, hv, Since.refl]
    · simp [does, doesUpon, go_sem, hv, Since.refl]
    · simp [does, doesUpon, go_sem, hv, hrun]
      refine (hcl y).mono ?_
      rintro _ y' ⟨rfl, h1⟩
      simp [h1]
    · simp [does, doesUpon, go_sem, Since.refl]
    · simp [does, doesUpon, go_sem, Since.refl]
    · have e0 := (A.since hy).cell 0
      have e1 := (A.since hy).cell 1
      have e2 := (A.since hy).cell 2
      have e3 := (A.since hy).cell 3
      have e4 := (A.since hy).cell 4
      simp at e0 e1 e2 e3 e4
      simp [does, doesUpon, go_sem, e0, e1, e2, e3, e4, Since.refl]
    · simp [does, doesUpon, go_sem, hv, hfld, Since.refl]
    · simp [does, doesUpon, go_sem, hv]
      refine (hst y).mono ?_
      rintro _ y' ⟨rfl, h1⟩
      simp [h1]
    · have e0 := (A.since hy).cell 0
      have e1 := (A.since hy).cell 1
      have e2 := (A.since hy).cell 2
      have e3 := (A.since hy).cell 3
      have e4 := (A.since hy).cell 4
      simp at e0 e1 e2 e3 e4
      simp [does, doesUpon, go_sem, e0, e1, e2, e3, e4, Since.refl]
  case refine_3 =>
    intro vals y hy hv
    have h7 : vals 7 = _ := hv 7 (by decide)
    have h8 : vals 8 = _ := hv 8 (by decide)
    clear hv
    simp only [h7, h8]
    clear h7 h8
    replace Z := Z.since hy
    have b0 := Z.cell 0
    have b1 := Z.cell 1
    have b2 := Z.cell 2
    have b3 := Z.cell 3
    have b4 := Z.cell 4
    simp at b0 b1 b2 b3 b4
    have f0 := Z.fz 0
    have f1 := Z.fz 1
    have f2 := Z.fz 2
    have f3 := Z.fz 3
    have f4 := Z.fz 4
    obtain ⟨z, hz, tz, Bz⟩ := stored5 Z (.int .i64 X) (.int .i64 T) (.int .i64 D) (.bool F) (.int .u32 R)
    go_wp2_with (fail)
    have c0 := Bz.cell 0
    have c1 := Bz.cell 1
    have c2 := Bz.cell 2
    have c3 := Bz.cell 3
    have c4 := Bz.cell 4
    simp at c0 c1 c2 c3 c4
    clear b0 b1 b2 b3 b4 f0 f1 f2 f3 f4 hz
    refine bodyPost_ret (v := .tuple #[.agg #[.int .i64 X, .int .i64 T, .int .i64 D, .bool F, .int .u32 R], .bool B]) ?_ rfl ⟨rfl, since_touch (G.trans hy) tz (by omega)⟩
    simp [results, go_sem, c0, c1, c2, c3, c4]

theorem implDupNot (x t d : Int) (f : Bool) (r n b : Int) (hk : (congOk x t d && decide (0 ≤ n ∧ n ≤ 8000)) = false) (w : World) :
    Calls Try.prog 15 #[congVal x t d f r, .int .i64 n, .int .u32 b] w fun e w' => e = .returned (.tuple #[congVal x t d f r, .bool false]) ∧ Since w w' := by
  have ho := fun wx => implCongOk x t d f r wx
  have hu := fun wx => isUnderWay n wx
  generalize congOk x t d = k at ho hk
  generalize decide (0 ≤ n ∧ n ≤ 8000) = u at hu hk
  unfold congVal at *
  cases k
  · clear hu hk
    go_enter Try.func15, Try.ntmps15
    go_wp2_with (go_at_call 13; refine (ho _).mono ?_; rintro _ _ ⟨rfl, rfl⟩)
    refine bodyPost_ret (v := .tuple #[.agg #[.int .i64 x, .int .i64 t, .int .i64 d, .bool f, .int .u32 r], .bool false]) ?_ rfl ⟨rfl, by repeat (first | exact Since.refl _ | apply Since.drew | apply Since.alloc)⟩
    simp [results, go_sem]
  · obtain rfl : u = false := by simpa using hk
    clear hk
    go_enter Try.func15, Try.ntmps15
    go_wp2_with (first | (go_at_call 13; refine (ho _).mono ?_; rintro _ _ ⟨rfl, rfl⟩) | (go_at_call 27; refine (hu _).mono ?_; rintro _ _ ⟨rfl, rfl⟩))
    refine bodyPost_ret (v := .tuple #[.agg #[.int .i64 x, .int .i64 t, .int .i64 d, .bool f, .int .u32 r], .bool false]) ?_ rfl ⟨rfl, by repeat (first | exact Since.refl _ | apply Since.drew | apply Since.alloc)⟩
    simp [results, go_sem]

theorem implDupBy (x t d : Int) (f : Bool) (r n b : Int) (hk : (congOk x t d && decide (0 ≤ n ∧ n ≤ 8000)) = true) (p q : FuncId)
    (hst : ∀ wx, Calls Try.prog 28 #[congVal x t d f r] wx fun e w' => e = .returned (.agg #[.func (.func p) #[] #[], .func (.func q) #[] #[]]) ∧ Since wx w') (X T D : Int) (F B : Bool) (R : Int)
    (hrun : ∀ args wx, (callFunc q args).run Try.prog wx = .ok (.enter q args) wx) (hcl : ∀ wx, Calls Try.prog q #[congVal x t d f r, .int .i64 n, .int .u32 b] wx fun e w' => e = .returned (.tuple #[congVal X T D F R, .bool B]) ∧ Since wx w') (w : World) :
    Calls Try.prog 15 #[congVal x t d f r, .int .i64 n, .int .u32 b] w fun e w' => e = .returned (.tuple #[congVal X T D F R, .bool B]) ∧ Since w w' := by
  have hfld : ∀ (u v : Value) (wx : World), (Instr.field 48 (.agg #[u, v]) 1).run Try.prog wx = .ok v wx := fun _ _ _ => by kernel_rfl
  have ho := fun wx => implCongOk x t d f r wx
  have hu := fun wx => isUnderWay n wx
  simp only [Bool.and_eq_true] at hk
  rw [hk.1] at ho
  rw [hk.2] at hu
  clear hk
  unfold congVal at *
  have A0 := (Blk.new w #[.int .i64 x, .int .i64 t, .int .i64 d, .bool f, .int .u32 r] 26)
  go_enter Try.func15, Try.ntmps15
  go_wp2_with (first | (go_at_call 13; refine (ho _).mono ?_; rintro _ _ ⟨rfl, rfl⟩) | (go_at_call 27; refine (hu _).mono ?_; rintro _ _ ⟨rfl, rfl⟩))
  have g1 : Since (w.alloc (.cells #[.int .i64 x, .int .i64 t, .int .i64 d, .bool f, .int .u32 r] 26)) (((w.alloc (.cells #[.int .i64 x, .int .i64 t, .int .i64 d, .bool f, .int .u32 r] 26)).alloc (.cells #[.int .i64 0, .int .i64 0, .int .i64 0, .bool false, .int .u32 0] 26)).alloc (.cells #[.int .i64 x, .int .i64 t, .int .i64 d, .bool f, .int .u32 r] 26)) := by repeat (first | exact Since.refl _ | apply Since.drew | apply Since.alloc)
  have A := A0.since g1
  have Z := (Blk.new (w.alloc (.cells #[.int .i64 x, .int .i64 t, .int .i64 d, .bool f, .int .u32 r] 26)) #[.int .i64 0, .int .i64 0, .int .i64 0, .bool false, .int .u32 0] 26).since ((Since.refl _).alloc (.cells #[.int .i64 x, .int .i64 t, .int .i64 d, .bool f, .int .u32 r] 26))
  have G : Since w (((w.alloc (.cells #[.int .i64 x, .int .i64 t, .int .i64 d, .bool f, .int .u32 r] 26)).alloc (.cells #[.int .i64 0, .int .i64 0, .int .i64 0, .bool false, .int .u32 0] 26)).alloc (.cells #[.int .i64 x, .int .i64 t, .int .i64 d, .bool f, .int .u32 r] 26)) := by repeat (first | exact Since.refl _ | apply Since.drew | apply Since.alloc)
  clear A0 g1
  simp at Z
  generalize (((w.alloc (.cells #[.int .i64 x, .int .i64 t, .int .i64 d, .bool f, .int .u32 r] 26)).alloc (.cells #[.int .i64 0, .int .i64 0, .int .i64 0, .bool false, .int .u32 0] 26)).alloc (.cells #[.int .i64 x, .int .i64 t, .int .i64 d, .bool f, .int .u32 r] 26)) = w1 at A Z G ⊢
  refine wp_region_tail (wb := w1) 9 (fun i y v => match i with
      | 0 => v = .agg #[.int .i64 x, .int .i64 t, .int .i64 d, .bool f, .int .u32 r]
      | 1 => v = .agg #[.func (.func p) #[] #[], .func (.func q) #[] #[]]
      | 2 => v = .func (.func q) #[] #[]
      | 3 => v = .agg #[.int .i64 x, .int .i64 t, .int .i64 d, .bool f, .int .u32 r]
      | 4 => v = .int .i64 n
      | 5 => v = .int .u32 b
      | 6 => v = .tuple #[.agg #[.int .i64 X, .int .i64 T, .int .i64 D, .bool F, .int .u32 R], .bool B]
      | 7 => v = .agg #[.int .i64 X, .int .i64 T, .int .i64 D, .bool F, .int .u32 R]
      | 8 => v = .bool B
      | _ => True) (fun v => { tmps := #[Value.agg #[Value.int IntKind.i64 x, Value.int IntKind.i64 t, Value.int IntKind.i64 d, Value.bool f, Value.int IntKind.u32 r], Value.int IntKind.i64 n, Value.int IntKind.u32 b, Value.pointer (some ⟨w.heap.size, 0, none⟩), undef, undef, Value.pointer (some ⟨w.heap.size + 1, 0, none⟩), Value.bool false, Value.agg #[Value.int IntKind.i64 x, Value.int IntKind.i64 t, Value.int IntKind.i64 d, Value.bool f, Value.int IntKind.u32 r], Value.bool true, Value.bool false, Value.bool false, Value.int IntKind.i64 n, Value.bool true, Value.bool false, Value.bool false, undef, v 0, v 1, v 2, v 3, v 4, v 5, v 6, v 7, v 8], defers := [] }) (by kernel_rfl) (by kernel_rfl) (by kernel_rfl) (Since.refl _) ?_ (fun vals => by kernel_rfl) ?_ ?_
  case refine_1 =>
    intro j x x' v h1 h2
    match j, h2 with
    | 0, h2 | 1, h2 | 2, h2 | 3, h2 | 4, h2 | 5, h2 | 6, h2 | 7, h2 | 8, h2 => exact h2
    | n + 9, _ => trivial
  case refine_2 =>
    repeat (first | exact eachDoes_nil | refine eachDoes_cons ?_ ?_)
    all_goals intro vals y hy hv
    all_goals simp [Region.binds] at hv
    · simp [does, doesUpon, go_sem, hv, Since.refl]
    · simp [does, doesUpon, go_sem, hv, Since.refl]
    · simp [does, doesUpon, go_sem, hv, hrun]
      refine (hcl y).mono ?_
      rintro _ y' ⟨rfl, h1⟩
      simp [h1]
    · simp [does, doesUpon, go_sem, Since.refl]
    · simp [does, doesUpon, go_sem, Since.refl]
    · have e0 := (A.since hy).cell 0
      have e1 := (A.since hy).cell 1
      have e2 := (A.since hy).cell 2
      have e3 := (A.since hy).cell 3
      have e4 := (A.since hy).cell 4
      simp at e0 e1 e2 e3 e4
      simp [does, doesUpon, go_sem, e0, e1, e2, e3, e4, Since.refl]
    · simp [does, doesUpon, go_sem, hv, hfld, Since.refl]
    · simp [does, doesUpon, go_sem, hv]
      refine (hst y).mono ?_
      rintro _ y' ⟨rfl, h1⟩
      simp [h1]
    · have e0 := (A.since hy).cell 0
      have e1 := (A.since hy).cell 1
      have e2 := (A.since hy).cell 2
      have e3 := (A.since hy).cell 3
      have e4 := (A.since hy).cell 4
      simp at e0 e1 e2 e3 e4
      simp [does, doesUpon, go_sem, e0, e1, e2, e3, e4, Since.refl]
  case refine_3 =>
    intro vals y hy hv
    have h7 : vals 7 = _ := hv 7 (by decide)
    have h8 : vals 8 = _ := hv 8 (by decide)
    clear hv
    simp only [h7, h8]
    clear h7 h8
    replace Z := Z.since hy
    have b0 := Z.cell 0
    have b1 := Z.cell 1
    have b2 := Z.cell 2
    have b3 := Z.cell 3
    have b4 := Z.cell 4
    simp at b0 b1 b2 b3 b4
    have f0 := Z.fz 0
    have f1 := Z.fz 1
    have f2 := Z.fz 2
    have f3 := Z.fz 3
    have f4 := Z.fz 4
    obtain ⟨z, hz, tz, Bz⟩ := stored5 Z (.int .i64 X) (.int .i64 T) (.int .i64 D) (.bool F) (.int .u32 R)
    go_wp2_with (fail)
    have c0 := Bz.cell 0
    have c1 := Bz.cell 1
    have c2 := Bz.cell 2
    have c3 := Bz.cell 3
    have c4 := Bz.cell 4
    simp at c0 c1 c2 c3 c4
    clear b0 b1 b2 b3 b4 f0 f1 f2 f3 f4 hz
    refine bodyPost_ret (v := .tuple #[.agg #[.int .i64 X, .int .i64 T, .int .i64 D, .bool F, .int .u32 R], .bool B]) ?_ rfl ⟨rfl, since_touch (G.trans hy) tz (by omega)⟩
    simp [results, go_sem, c0, c1, c2, c3, c4]

end Go.Proofs.Ytakcalmmbknobaa
