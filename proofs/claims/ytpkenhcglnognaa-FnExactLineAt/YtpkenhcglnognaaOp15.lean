/-
  A list of words and an address that came in as data, opened.
-/
import Derived.Test.YtpkenhcglnognaaM1
import Derived.Test.YtpkenhcglnognaaAgg
import Derived.Carry
import Derived.Test.YtpkenhcglnognaaTabApp
import Derived.Test.YtpkenhcglnognaaCalm
import Derived.Laws.ByValue
import Derived.Maps.RangeWalk
import Derived.Test.YtpkenhcglnognaaAd15
namespace Go.Proofs.Ytpkenhcglnognaa
open Go.ChangeShapes Go.WideShapes Go.ChangeAt Go.RowKit Go.Deep
set_option linter.unusedVariables false
set_option maxRecDepth 10000

theorem open_addr {H : Type} {enc : TypeId × Value → H} {W : World} {base : Nat} {v : Value} {d : DataW H} {p : List MemPlace} (hv : Value.okWide Try.prog W .any base 35 v) (h : DataW.Trod enc Try.prog W 0 (fun _ => true) true 35 v d p) :
    ∃ (h0 p0 : Int), v = addrVal h0 p0 ∧ (Lit.int .u32 h0).wf = true ∧ (Lit.int .i64 p0).wf = true := by
  obtain ⟨cs, ys, m, rfl, hcs, _, _, hys, hf⟩ := open_aggs Try.underlying35 (by kernel_rfl) (by kernel_rfl) hv h
  obtain ⟨l⟩ := cs
  match l, hcs with
  | [c0, c1], _ =>
    match ys, hys with
    | [y0, y1], _ =>
      obtain ⟨a0, e0, _, w0⟩ := DataW.trod_int Try.underlying22 (hf 0 _ rfl c0 y0 rfl rfl)
      obtain ⟨a1, e1, _, w1⟩ := DataW.trod_int Try.underlying3 (hf 1 _ rfl c1 y1 rfl rfl)
      simp only [List.cons.injEq, and_true] at e0 e1
      subst e0
      subst e1
      exact ⟨a0, a1, rfl, w0, w1⟩
end Go.Proofs.Ytpkenhcglnognaa
