/-
  Pipes: the laws' functions over them, and both sides' PipeOk, RelayStart and RelayHeld.
-/
import Derived.Test.YtipaaddjpmlajaaGreatM2
import Derived.Test.YtipaaddjpmlajaaGreatM6
import Derived.Test.YtipaaddjpmlajaaGreatM5
import Derived.Test.YtipaaddjpmlajaaGreatM10
namespace Go.Proofs.YtipaaddjpmlajaaGreat
open Go.ChangeShapes Go.WideShapes Go.ChangeAt Go.RowKit Go.Deep
set_option linter.unusedVariables false
set_option maxRecDepth 10000

/-- A pipe as a value. -/
def ppVal (r : Int) (d : ByteArray) (e : Bool) (n : Int) : Value := .agg #[.int .i64 r, .string d, .bool e, .int .i64 n]

/-- What PipeOk answers. -/
def pipeOk (r : Int) (d : ByteArray) (n : Int) : Bool := decide (1 ≤ r ∧ r ≤ 2048) && (decide ((d.size : Int) ≤ r) && decide (0 ≤ n ∧ n ≤ 1000000000))

theorem pipeOk_iff (r : Int) (d : ByteArray) (n : Int) : pipeOk r d n = true ↔ 1 ≤ r ∧ r ≤ 2048 ∧ (d.size : Int) ≤ r ∧ 0 ≤ n ∧ n ≤ 1000000000 := by
  unfold pipeOk
  simp
  omega

theorem toPipe (r : Int) (d : ByteArray) (e : Bool) (n : Int) (w : World) :
    Calls Tryz.prog 8 #[ppVal r d e n] w fun x w' => x = .returned (ppVal r d e n) ∧ Since w w' := by
  unfold ppVal
  go_enter Tryz.func8, Tryz.ntmps8
  go_wp2
  refine bodyPost_ret (v := .agg #[.int .i64 r, .string d, .bool e, .int .i64 n]) ?_ rfl ⟨rfl, by repeat (first | exact Since.refl _ | apply Since.drew | apply Since.alloc)⟩
  simp [results, go_sem]

theorem szPipe (r : Int) (d : ByteArray) (e : Bool) (n : Int) (l : Int) (hl : 0 ≤ l ∧ l ≤ 1048576) (hd : d.size ≤ 9223372036854775807) (w : World) :
    Calls Tryz.prog 5 #[ppVal r d e n, .int .i64 l] w fun x w' => x = .returned (.int .i64 (if (d.size : Int) ≤ l then l - d.size else -1)) ∧ Since w w' := by
  unfold ppVal
  by_cases h : (d.size : Int) ≤ l
  · rw [if_pos h]
    go_enter Tryz.func5, Tryz.ntmps5
    go_wp2
    go_ret
    exact ⟨rfl, by repeat (first | exact Since.refl _ | apply Since.drew | apply Since.alloc)⟩
  · rw [if_neg h]
    go_enter Tryz.func5, Tryz.ntmps5
    go_wp2
    go_ret
    exact ⟨rfl, by repeat (first | exact Since.refl _ | apply Since.drew | apply Since.alloc)⟩

theorem eqPipe (r : Int) (d : ByteArray) (e : Bool) (n : Int) (w : World) :
    Calls Tryz.prog 11 #[ppVal r d e n, ppVal r d e n] w fun x w' => x = .returned (.bool true) ∧ Since w w' := by
  unfold ppVal
  go_enter Tryz.func11, Tryz.ntmps11
  go_wp2
  go_ret
  exact ⟨rfl, by repeat (first | exact Since.refl _ | apply Since.drew | apply Since.alloc)⟩

theorem isPipeRoom (x : Int) (w : World) :
    Calls Tryz.prog 68 #[.int .i64 x] w fun e w' => e = .returned (.bool (decide (1 ≤ x ∧ x ≤ 2048))) ∧ w = w' := by
  go_enter Tryz.func68, Tryz.ntmps68
  go_wp2
  all_goals go_ret
  all_goals refine ⟨ret_bool ?_, by first | rfl | simp [*]⟩
  all_goals rw [Bool.eq_iff_iff]
  all_goals simp [*]
  all_goals omega

theorem implPipeOk (r : Int) (d : ByteArray) (e : Bool) (n : Int) (w : World) :
    Calls Tryz.prog 37 #[ppVal r d e n] w fun x w' => x = .returned (.bool (pipeOk r d n)) ∧ Since w w' := by
  unfold ppVal pipeOk
  have i1 := fun wx => isPipeRoom r wx
  have i2 := fun wx => isWithin n 1000000000 wx
  generalize decide (1 ≤ r ∧ r ≤ 2048) = b1 at i1 ⊢
  generalize decide (0 ≤ n ∧ n ≤ 1000000000) = b2 at i2 ⊢
  go_enter Tryz.func37, Tryz.ntmps37
  cases b1
  · go_wp2_with (go_at_call 68; refine (i1 _).mono ?_; rintro _ _ ⟨rfl, rfl⟩)
    go_ret
    exact ⟨rfl, by repeat (first | exact Since.refl _ | apply Since.drew | apply Since.alloc)⟩
  by_cases h : (d.size : Int) ≤ r
  · have e1 : decide ((d.size : Int) ≤ r) = true := by simp [h]
    rw [e1]
    go_wp2_with (first | (go_at_call 68; refine (i1 _).mono ?_; rintro _ _ ⟨rfl, rfl⟩) | (go_at_call 69; refine (i2 _).mono ?_; rintro _ _ ⟨rfl, rfl⟩))
    go_ret
    exact ⟨rfl, by repeat (first | exact Since.refl _ | apply Since.drew | apply Since.alloc)⟩
  · have e1 : decide ((d.size : Int) ≤ r) = false := by simp [h]
    rw [e1]
    go_wp2_with (go_at_call 68; refine (i1 _).mono ?_; rintro _ _ ⟨rfl, rfl⟩)
    go_ret
    exact ⟨rfl, by repeat (first | exact Since.refl _ | apply Since.drew | apply Since.alloc)⟩

theorem specPipeOk (r : Int) (d : ByteArray) (e : Bool) (n : Int) (w : World) :
    Calls Tryz.prog 26 #[ppVal r d e n] w fun x w' => x = .returned (.bool (pipeOk r d n)) ∧ Since w w' := by
  unfold ppVal pipeOk
  have i1 := fun wx => specIn r 1 2048 wx
  have i2 := fun wx => specIn n 0 1000000000 wx
  generalize decide (1 ≤ r ∧ r ≤ 2048) = b1 at i1 ⊢
  generalize decide (0 ≤ n ∧ n ≤ 1000000000) = b2 at i2 ⊢
  go_enter Tryz.func26, Tryz.ntmps26
  cases b1
  · go_wp2_with (go_at_call 56; refine (i1 _).mono ?_; rintro _ _ ⟨rfl, rfl⟩)
    go_ret
    exact ⟨rfl, by repeat (first | exact Since.refl _ | apply Since.drew | apply Since.alloc)⟩
  by_cases h : (d.size : Int) ≤ r
  · have e1 : decide ((d.size : Int) ≤ r) = true := by simp [h]
    rw [e1]
    go_wp2_with (first | (go_at_call 56; refine (i1 _).mono ?_; clear i1; rintro _ _ ⟨rfl, rfl⟩) | (go_at_call 56; refine (i2 _).mono ?_; rintro _ _ ⟨rfl, rfl⟩))
    go_ret
    exact ⟨rfl, by repeat (first | exact Since.refl _ | apply Since.drew | apply Since.alloc)⟩
  · have e1 : decide ((d.size : Int) ≤ r) = false := by simp [h]
    rw [e1]
    go_wp2_with (go_at_call 56; refine (i1 _).mono ?_; rintro _ _ ⟨rfl, rfl⟩)
    go_ret
    exact ⟨rfl, by repeat (first | exact Since.refl _ | apply Since.drew | apply Since.alloc)⟩

/-- A pipe that came in as data, opened. -/
theorem open_pipe {H : Type} {enc : TypeId × Value → H} {W : World} {base : Nat} {v : Value} {d : DataW H} {p : List MemPlace} (hv : Value.okWide Tryz.prog W .any base 23 v) (h : DataW.Trod enc Tryz.prog W 0 (fun _ => true) true 23 v d p) :
    ∃ (r : Int) (d : ByteArray) (e : Bool) (n : Int), v = .agg #[.int .i64 r, .string d, .bool e, .int .i64 n] ∧ (Lit.int .i64 r).wf = true ∧ d.size ≤ maxLen ∧ (Lit.int .i64 n).wf = true := by
  obtain ⟨cs, ys, m, rfl, hcs, _, _, hys, hf⟩ := open_aggs Tryz.underlying23 (by kernel_rfl) (by kernel_rfl) hv h
  obtain ⟨l⟩ := cs
  match l, hcs with
  | [c0, c1, c2, c3], _ =>
    match ys, hys with
    | [y0, y1, y2, y3], _ =>
      obtain ⟨a0, e0, _, w0⟩ := DataW.trod_int Tryz.underlying3 (hf 0 _ rfl c0 y0 rfl rfl)
      obtain ⟨a1, e1, _, w1⟩ := DataW.trod_string Tryz.underlying9 (hf 1 _ rfl c1 y1 rfl rfl)
      obtain ⟨a2, e2, _⟩ := DataW.trod_bool Tryz.underlying4 (hf 2 _ rfl c2 y2 rfl rfl)
      obtain ⟨a3, e3, _, w3⟩ := DataW.trod_int Tryz.underlying3 (hf 3 _ rfl c3 y3 rfl rfl)
      simp only [List.cons.injEq, and_true] at e0 e1 e2 e3
      subst e0
      subst e1
      subst e2
      subst e3
      exact ⟨a0, a1, a2, a3, rfl, w0, w1, w3⟩
end Go.Proofs.YtipaaddjpmlajaaGreat
