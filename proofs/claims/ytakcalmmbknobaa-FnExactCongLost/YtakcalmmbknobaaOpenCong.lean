/-
  What may be under way, come in as data, opened.
-/
import Derived.Test.YtakcalmmbknobaaOpenNet
namespace Go.Proofs.Ytakcalmmbknobaa
open Go.ChangeShapes Go.WideShapes Go.ChangeAt Go.RowKit Go.Deep
set_option linter.unusedVariables false

theorem open_cong {H : Type} {enc : TypeId × Value → H} {W : World} {base : Nat} {v : Value} {d : DataW H} {p : List MemPlace} (hv : Value.okWide Try.prog W .any base 36 v) (h : DataW.Trod enc Try.prog W 0 (fun _ => true) true 36 v d p) :
    ∃ (x t k : Int) (f : Bool) (r : Int), v = .agg #[.int .i64 x, .int .i64 t, .int .i64 k, .bool f, .int .u32 r] ∧ (Lit.int .i64 x).wf = true ∧ (Lit.int .i64 t).wf = true ∧ (Lit.int .i64 k).wf = true ∧ (Lit.int .u32 r).wf = true := by
  obtain ⟨cs, ys, m, rfl, hcs, _, _, hys, hf⟩ := open_aggs Try.underlying36 (by kernel_rfl) (by kernel_rfl) hv h
  obtain ⟨l⟩ := cs
  match l, hcs with
  | [c0, c1, c2, c3, c4], _ =>
    match ys, hys with
    | [y0, y1, y2, y3, y4], _ =>
      obtain ⟨a0, e0, _, w0⟩ := DataW.trod_int Try.underlying3 (hf 0 _ rfl c0 y0 rfl rfl)
      obtain ⟨a1, e1, _, w1⟩ := DataW.trod_int Try.underlying3 (hf 1 _ rfl c1 y1 rfl rfl)
      obtain ⟨a2, e2, _, w2⟩ := DataW.trod_int Try.underlying3 (hf 2 _ rfl c2 y2 rfl rfl)
      obtain ⟨a3, e3, _⟩ := DataW.trod_bool Try.underlying4 (hf 3 _ rfl c3 y3 rfl rfl)
      obtain ⟨a4, e4, _, w4⟩ := DataW.trod_int Try.underlying24 (hf 4 _ rfl c4 y4 rfl rfl)
      simp only [List.cons.injEq, and_true] at e0 e1 e2 e3 e4
      subst e0
      subst e1
      subst e2
      subst e3
      subst e4
      exact ⟨a0, a1, a2, a3, a4, rfl, w0, w1, w2, w4⟩
end Go.Proofs.Ytakcalmmbknobaa
