/-
  Contracts of the laws' functions over buffers of bytes to be sent, and of impl's and spec's OutOk.
-/
import Derived.Test.YtoadnhkbejnimaaRow
import Derived.Test.YtoadnhkbejnimaaCmp
import Derived.Test.YtoadnhkbejnimaaAgg
namespace Go.Proofs.Ytoadnhkbejnimaa
open Go.ChangeShapes Go.WideShapes Go.ChangeAt Go.RowKit Go.Deep
set_option linter.unusedVariables false
set_option maxRecDepth 10000

/-- A buffer of bytes to be sent, as a value. -/
def outVal (f : Int) (d : ByteArray) (r : Int) : Value := .agg #[.int .u32 f, .string d, .int .i64 r]

/-- What OutOk answers. -/
def outOk (d : ByteArray) (r : Int) : Bool := decide (1 ≤ r ∧ r ≤ 4096) && decide ((d.size : Int) ≤ r)

theorem outOk_iff (d : ByteArray) (r : Int) : outOk d r = true ↔ 1 ≤ r ∧ r ≤ 4096 ∧ (d.size : Int) ≤ r := by
  unfold outOk
  simp
  omega

theorem toOut (f : Int) (d : ByteArray) (r : Int) (w : World) :
    Calls Try.prog 46 #[outVal f d r] w fun e w' => e = .returned (outVal f d r) ∧ Since w w' := by
  unfold outVal
  go_enter Try.func46, Try.ntmps46
  go_wp2
  refine bodyPost_ret (v := .agg #[.int .u32 f, .string d, .int .i64 r]) ?_ rfl ⟨rfl, by repeat (first | exact Since.refl _ | apply Since.drew | apply Since.alloc)⟩
  simp [results, go_sem]

theorem szOut (f : Int) (d : ByteArray) (r : Int) (l : Int) (hl : 0 ≤ l ∧ l ≤ 1048576) (hd : d.size ≤ 9223372036854775807) (w : World) :
    Calls Try.prog 43 #[outVal f d r, .int .i64 l] w fun e w' => e = .returned (.int .i64 (if (d.size : Int) ≤ l then l - d.size else -1)) ∧ Since w w' := by
  unfold outVal
  by_cases h : (d.size : Int) ≤ l
  · rw [if_pos h]
    go_enter Try.func43, Try.ntmps43
    go_wp2
    go_ret
    exact ⟨rfl, by repeat (first | exact Since.refl _ | apply Since.drew | apply Since.alloc)⟩
  · rw [if_neg h]
    go_enter Try.func43, Try.ntmps43
    go_wp2
    go_ret
    exact ⟨rfl, by repeat (first | exact Since.refl _ | apply Since.drew | apply Since.alloc)⟩

theorem eqOut (f : Int) (d : ByteArray) (r : Int) (w : World) :
    Calls Try.prog 35 #[outVal f d r, outVal f d r] w fun e w' => e = .returned (.bool true) ∧ Since w w' := by
  unfold outVal
  go_enter Try.func35, Try.ntmps35
  go_wp2
  go_ret
  exact ⟨rfl, ((Since.refl _).alloc _).alloc _⟩

theorem isRoom (x : Int) (w : World) :
    Calls Try.prog 31 #[.int .i64 x] w fun e w' => e = .returned (.bool (decide (1 ≤ x ∧ x ≤ 4096))) ∧ w = w' := by
  by_cases h1 : 1 ≤ x
  · have e1 : decide (1 ≤ x ∧ x ≤ 4096) = decide (x ≤ 4096) := by simp [h1]
    rw [e1]
    clear e1
    go_enter Try.func31, Try.ntmps31
    go_wp2
    go_ret
    exact ⟨rfl, rfl⟩
  · have e1 : decide (1 ≤ x ∧ x ≤ 4096) = false := by simp [h1]
    rw [e1]
    clear e1
    go_enter Try.func31, Try.ntmps31
    go_wp2
    go_ret
    exact ⟨rfl, rfl⟩

/-- Such a buffer that came in as data, opened. -/
theorem open_out {H : Type} {enc : TypeId × Value → H} {W : World} {base : Nat} {v : Value} {d : DataW H} {p : List MemPlace} (hv : Value.okWide Try.prog W .any base 42 v) (h : DataW.Trod enc Try.prog W 0 (fun _ => true) true 42 v d p) :
    ∃ (f : Int) (s : ByteArray) (r : Int), v = outVal f s r ∧ (Lit.int .u32 f).wf = true ∧ s.size ≤ maxLen ∧ (Lit.int .i64 r).wf = true := by
  obtain ⟨cs, ys, m, rfl, hcs, _, _, hys, hf⟩ := open_aggs Try.underlying42 (by kernel_rfl) (by kernel_rfl) hv h
  obtain ⟨l⟩ := cs
  match l, hcs with
  | [c0, c1, c2], _ =>
    match ys, hys with
    | [y0, y1, y2], _ =>
      obtain ⟨a0, e0, _, w0⟩ := DataW.trod_int Try.underlying22 (hf 0 _ rfl c0 y0 rfl rfl)
      obtain ⟨a1, e1, _, w1⟩ := DataW.trod_string Try.underlying9 (hf 1 _ rfl c1 y1 rfl rfl)
      obtain ⟨a2, e2, _, w2⟩ := DataW.trod_int Try.underlying3 (hf 2 _ rfl c2 y2 rfl rfl)
      simp only [List.cons.injEq, and_true] at e0 e1 e2
      subst e0
      subst e1
      subst e2
      exact ⟨a0, a1, a2, rfl, w0, w1, w2⟩
end Go.Proofs.Ytoadnhkbejnimaa
