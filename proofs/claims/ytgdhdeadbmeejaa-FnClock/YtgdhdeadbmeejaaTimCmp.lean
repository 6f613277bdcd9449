/-
  Contracts of cmp.Compare and cmp.Or at ints, of compareTimers, isTick and turnOf.
-/
import Derived.Test.YtgdhdeadbmeejaaTim
import Derived.Shelf.SlSortCmp.NoneTotal
import Derived.Test.YtgdhdeadbmeejaaDrawnR
import Derived.LoopN
namespace Go.Proofs.Ytgdhdeadbmeejaa
open Go.ChangeShapes Go.WideShapes Go.ChangeAt Go.RowKit Go.Deep Go.Sort
set_option linter.unusedVariables false

theorem isNaN (x : Int) (w : World) : Calls Try.prog 51 #[.int .i64 x] w fun e w' => e = .returned (.bool false) ∧ w = w' := by
  go_enter Try.func51, Try.ntmps51
  go_wp2
  go_ret
  exact ⟨rfl, rfl⟩

theorem compareI (x y : Int) (w : World) : Calls Try.prog 43 #[.int .i64 x, .int .i64 y] w fun e w' => e = .returned (.int .i64 (Lib.compareInt x y)) ∧ w = w' := by
  unfold Lib.compareInt
  by_cases a : x < y
  · rw [if_pos a]
    go_enter Try.func43, Try.ntmps43
    go_wp2_with (go_at_call 51; refine (isNaN _ _).mono ?_; rintro _ _ ⟨rfl, rfl⟩)
    go_ret
    exact ⟨rfl, rfl⟩
  · rw [if_neg a]
    by_cases b : y < x
    · rw [if_pos b]
      go_enter Try.func43, Try.ntmps43
      go_wp2_with (go_at_call 51; refine (isNaN _ _).mono ?_; rintro _ _ ⟨rfl, rfl⟩)
      go_ret
      exact ⟨rfl, rfl⟩
    · rw [if_neg b]
      go_enter Try.func43, Try.ntmps43
      go_wp2_with (go_at_call 51; refine (isNaN _ _).mono ?_; rintro _ _ ⟨rfl, rfl⟩)
      go_ret
      exact ⟨rfl, rfl⟩

/-- The first of two that is not nought. -/
def orI (x y : Int) : Int := if x = 0 then y else x

theorem orTwo (x y : Int) (g : Nat) (w : World) (c0 : w.cell? ⟨g, 0, none⟩ = some (.int .i64 x)) (c1 : w.cell? ⟨g, 1, none⟩ = some (.int .i64 y)) :
    Calls Try.prog 42 #[.slice (some ⟨g, 0, none⟩) 2 2] w fun e w' => e = .returned (.int .i64 (orI x y)) ∧ w = w' := by
  unfold orI
  by_cases a : x = 0
  · subst a
    rw [if_pos rfl]
    by_cases b : y = 0
    · subst b
      go_enter Try.func42, Try.ntmps42
      go_wp2
      refine wp_loop_rounds 3 ?_
      iterate 3
        rw [rounds_succ]
        go_wp2
      go_ret
      exact ⟨rfl, rfl⟩
    · have hb : (y == 0) = false := by simpa using b
      go_enter Try.func42, Try.ntmps42
      go_wp2
      refine wp_loop_rounds 2 ?_
      iterate 2
        rw [rounds_succ]
        go_wp2
      go_ret
      exact ⟨rfl, rfl⟩
  · rw [if_neg a]
    have ha : (x == 0) = false := by simpa using a
    go_enter Try.func42, Try.ntmps42
    go_wp2
    refine wp_loop_rounds 1 ?_
    rw [rounds_succ]
    go_wp2
    go_ret
    exact ⟨rfl, rfl⟩

/-- How compareTimers puts two. -/
def cmpT (x y : Int × Int) : Int := orI (Lib.compareInt x.2 y.2) (Lib.compareInt x.1 y.1)

/-- b is a but for draws. -/
def Drew (a b : World) : Prop := ∃ q, b = a.drewN q

theorem Drew.refl (a : World) : Drew a a := ⟨0, rfl⟩

theorem Drew.trans (a b c : World) (h : Drew a b) (k : Drew b c) : Drew a c := by
  obtain ⟨p, rfl⟩ := h
  obtain ⟨q, rfl⟩ := k
  exact ⟨p + q, by simp [World.drewN, Nat.add_assoc]⟩

set_option maxHeartbeats 2000000 in
theorem compareTimers (x y : Int × Int) (W : World) :
    Calls Try.prog 27 #[.agg #[.int .i64 x.1, .int .i64 x.2], .agg #[.int .i64 y.1, .int .i64 y.2]] W fun e w' => e = .returned (.int .i64 (cmpT x y)) ∧ ∃ q os', w' = grow (W.drewN q) os' := by
  obtain ⟨x1, x2⟩ := x
  obtain ⟨y1, y2⟩ := y
  obtain ⟨r, hr⟩ : ∃ r, Hid (r = cmpT (x1, x2) (y1, y2)) := ⟨_, rfl⟩
  rw [← hr.out]
  go_enter Try.func27, Try.ntmps27
  go_wp2_with (fail)
  generalize hZ : (W.alloc (.cells #[.int .i64 x1, .int .i64 x2] 47)).alloc (.cells #[.int .i64 y1, .int .i64 y2] 47) = Z
  have c0 : ∀ z, Drew Z z → z.cell? ⟨W.heap.size, 0, none⟩ = some (.int .i64 x1) := by rintro z ⟨q, rfl⟩; subst hZ; show World.cell? _ _ = _; simp
  have c1 : ∀ z, Drew Z z → z.cell? ⟨W.heap.size, 1, none⟩ = some (.int .i64 x2) := by rintro z ⟨q, rfl⟩; subst hZ; show World.cell? _ _ = _; simp
  have d0 : ∀ z, Drew Z z → z.cell? ⟨W.heap.size + 1, 0, none⟩ = some (.int .i64 y1) := by rintro z ⟨q, rfl⟩; subst hZ; show World.cell? _ _ = _; simp
  have d1 : ∀ z, Drew Z z → z.cell? ⟨W.heap.size + 1, 1, none⟩ = some (.int .i64 y2) := by rintro z ⟨q, rfl⟩; subst hZ; show World.cell? _ _ = _; simp
  refine wp_region_tailR (wb := Z) Drew 10 (fun i x v => match i with
    | 0 => v = .pointer (some ⟨W.heap.size, 1, none⟩)
    | 1 => v = .int .i64 x2
    | 2 => v = .pointer (some ⟨W.heap.size + 1, 1, none⟩)
    | 3 => v = .int .i64 y2
    | 4 => v = .int .i64 (Lib.compareInt x2 y2)
    | 5 => v = .pointer (some ⟨W.heap.size, 0, none⟩)
    | 6 => v = .int .i64 x1
    | 7 => v = .pointer (some ⟨W.heap.size + 1, 0, none⟩)
    | 8 => v = .int .i64 y1
    | 9 => v = .int .i64 (Lib.compareInt x1 y1)
    | _ => True) (fun v => { tmps := #[Value.agg #[Value.int IntKind.i64 x1, Value.int IntKind.i64 x2], Value.agg #[Value.int IntKind.i64 y1, Value.int IntKind.i64 y2], Value.pointer (some ⟨W.heap.size, 0, none⟩), Value.pointer (some ⟨W.heap.size + 1, 0, none⟩), Value.int IntKind.i64 0, v 0, v 1, v 2, v 3, v 4, v 5, v 6, v 7, v 8, v 9, undef, undef], defers := [] }) (by kernel_rfl) (by kernel_rfl) (by kernel_rfl) Drew.trans ⟨1, rfl⟩ ?_ (fun vals => by kernel_rfl) ?_ ?_
  case refine_1 =>
    intro j' x x' v h1 h2
    match j', h2 with
    | 0, h2 | 1, h2 | 2, h2 | 3, h2 | 4, h2 | 5, h2 | 6, h2 | 7, h2 | 8, h2 | 9, h2 => exact h2
    | n + 10, _ => trivial
  case refine_2 =>
    simp only [List.take_succ_cons, List.take_zero]
    repeat (first | exact eachDoesR_nil | refine eachDoesR_cons ?_ ?_)
    all_goals intro vals x hx hv
    all_goals simp [Region.binds] at hv
    all_goals have e0 := c0 x hx
    all_goals have e1 := c1 x hx
    all_goals have e2 := d0 x hx
    all_goals have e3 := d1 x hx
    all_goals first
      | (simp [does, doesUpon, go_sem, hv, e0, e1, e2, e3, Drew.refl]; done)
      | (simp [does, doesUpon, go_sem, hv]; refine (compareI _ _ _).mono ?_; rintro _ _ ⟨rfl, rfl⟩; simp [Drew.refl])
  case refine_3 =>
    intro vals x hx hv
    have h0 : vals 0 = _ := hv 0 (by decide)
    have h1 : vals 1 = _ := hv 1 (by decide)
    have h2 : vals 2 = _ := hv 2 (by decide)
    have h3 : vals 3 = _ := hv 3 (by decide)
    have h4 : vals 4 = _ := hv 4 (by decide)
    have h5 : vals 5 = _ := hv 5 (by decide)
    have h6 : vals 6 = _ := hv 6 (by decide)
    have h7 : vals 7 = _ := hv 7 (by decide)
    have h8 : vals 8 = _ := hv 8 (by decide)
    have h9 : vals 9 = _ := hv 9 (by decide)
    clear hv c0 c1 d0 d1
    simp only [h0, h1, h2, h3, h4, h5, h6, h7, h8, h9, List.drop_succ_cons, List.drop_zero]
    have ho := orTwo (Lib.compareInt x2 y2) (Lib.compareInt x1 y1) x.heap.size (x.alloc (.cells #[.int .i64 (Lib.compareInt x2 y2), .int .i64 (Lib.compareInt x1 y1)] 3)) (by simp) (by simp)
    rw [show orI (Lib.compareInt x2 y2) (Lib.compareInt x1 y1) = r from hr.out.symm] at ho
    clear h0 h1 h2 h3 h4 h5 h6 h7 h8 h9
    go_wp2_with (go_at_call 42; refine ho.mono ?_; rintro _ _ ⟨rfl, rfl⟩)
    go_ret
    obtain ⟨q, rfl⟩ := hx
    refine ⟨rfl, q, #[.cells #[.int .i64 x1, .int .i64 x2] 47, .cells #[.int .i64 y1, .int .i64 y2] 47, .cells #[.int .i64 (Lib.compareInt x2 y2), .int .i64 (Lib.compareInt x1 y1)] 3], ?_⟩
    subst hZ
    show (((W.drewN q).alloc _).alloc _).alloc _ = _
    rw [alloc_eq_grow, alloc_eq_grow, alloc_eq_grow, grow_grow, grow_grow]
    rfl

theorem isTick (x : Int) (w : World) :
    Calls Try.prog 25 #[.int .i64 x] w fun e w' => e = .returned (.bool (decide (0 ≤ x ∧ x ≤ 1000000000))) ∧ w = w' := by
  by_cases h1 : 0 ≤ x
  · have e1 : decide (0 ≤ x ∧ x ≤ 1000000000) = decide (x ≤ 1000000000) := by simp [h1]
    rw [e1]
    clear e1
    go_enter Try.func25, Try.ntmps25
    go_wp2
    go_ret
    exact ⟨rfl, rfl⟩
  · have e1 : decide (0 ≤ x ∧ x ≤ 1000000000) = false := by simp [h1]
    rw [e1]
    clear e1
    go_enter Try.func25, Try.ntmps25
    go_wp2
    go_ret
    exact ⟨rfl, rfl⟩

theorem turnOf (x : Int) (h : 0 ≤ x) (hm : x ≤ 9000000000000000000) (w : World) :
    Calls Try.prog 37 #[.int .i64 x] w fun e w' => e = .returned (.int .i64 (x / 32)) ∧ w = w' := by
  have e : x.tdiv 32 = x / 32 := Int.tdiv_eq_ediv_of_nonneg h
  have hw : IntKind.i64.wrap (x / 32) = x / 32 := by rw [IntWalk.i64_left]; exact IntWalk.wrap64_in _ ⟨by omega, by omega⟩
  go_enter Try.func37, Try.ntmps37
  go_wp2
  go_ret
  exact ⟨by simp, rfl⟩

/-- One timer stands ahead of another. -/
def aheadT (x y : Int × Int) : Prop := x.2 < y.2 ∨ x.2 = y.2 ∧ x.1 < y.1

instance (x y : Int × Int) : Decidable (aheadT x y) := by unfold aheadT; exact inferInstance

theorem compareInt_neg (x y : Int) : Lib.compareInt x y < 0 ↔ x < y := by
  unfold Lib.compareInt
  by_cases h1 : x < y
  · simp [h1]
  · by_cases h2 : y < x <;> simp [h1, h2]

theorem compareInt_zero (x y : Int) : Lib.compareInt x y = 0 ↔ x = y := by
  unfold Lib.compareInt
  by_cases h1 : x < y
  · simp [h1]; omega
  · by_cases h2 : y < x
    · simp [h1, h2]; omega
    · simp [h1, h2]; omega

theorem cmpT_neg (x y : Int × Int) : cmpT x y < 0 ↔ aheadT x y := by
  unfold cmpT orI aheadT
  by_cases h : Lib.compareInt x.2 y.2 = 0
  · rw [if_pos h, compareInt_neg]
    have := (compareInt_zero _ _).1 h
    omega
  · rw [if_neg h, compareInt_neg]
    have : ¬ x.2 = y.2 := fun e => h ((compareInt_zero _ _).2 e)
    omega

theorem ltT (x y : Int × Int) : ltOf cmpT x y = decide (aheadT x y) := by
  unfold ltOf
  by_cases h : aheadT x y
  · simp [h, (cmpT_neg x y).2 h]
  · simp [h, mt (cmpT_neg x y).1 h]

theorem ltT_t {x y : Int × Int} : ltOf cmpT x y = true ↔ aheadT x y := by rw [ltT, decide_eq_true_iff]

theorem ltT_f {x y : Int × Int} : ltOf cmpT x y = false ↔ ¬ aheadT x y := by rw [ltT, decide_eq_false_iff_not]

theorem swoT : SWO (ltOf cmpT) where
  irrefl x := by rw [ltT_f]; unfold aheadT; omega
  trans x y z h1 h2 := by
    rw [ltT_t] at h1 h2 ⊢
    unfold aheadT at *
    omega
  ntrans x y z h1 h2 := by
    rw [ltT_f] at h1 h2 ⊢
    unfold aheadT at *
    omega

theorem totT (x y : Int × Int) (h1 : ltOf cmpT x y = false) (h2 : ltOf cmpT y x = false) : x = y := by
  rw [ltT_f] at h1 h2
  unfold aheadT at *
  exact Prod.ext (by omega) (by omega)
end Go.Proofs.Ytgdhdeadbmeejaa
