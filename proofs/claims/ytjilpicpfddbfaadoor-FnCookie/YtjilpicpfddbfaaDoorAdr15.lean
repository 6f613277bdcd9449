/-
  Addresses as blocks.
-/
import Derived.Test.YtjilpicpfddbfaaDoorAd15
import Derived.Test.YtjilpicpfddbfaaDoorVl
namespace Go.Proofs.YtjilpicpfddbfaaDoor
open Go.ChangeShapes Go.WideShapes Go.ChangeAt Go.RowKit Go.Deep
set_option linter.unusedVariables false
set_option maxRecDepth 10000

theorem ad_big : IsBig 26 2 := ⟨⟨_, Tryd.underlying26, rfl⟩, by kernel_rfl⟩

theorem results_ad2 {fn : Func} {t u : Tmp} {b c : Nat} {w : World} {x0 x1 y0 y1 : Value} (h : fn.results = #[.cell t 26, .cell u 26]) (tmps : Array Value) (hp : tmps.getD t undef = .pointer (some ⟨b, 0, none⟩)) (hq : tmps.getD u undef = .pointer (some ⟨c, 0, none⟩)) (B : Blk b w #[x0, x1]) (C : Blk c w #[y0, y1]) : (results fn tmps).run Tryd.prog w = .ok (.tuple #[.agg #[x0, x1], .agg #[y0, y1]]) w := by
  have e := var_big ad_big rfl B
  have d := var_big ad_big rfl C
  have hp' : tmps[t]?.getD undef = .pointer (some ⟨b, 0, none⟩) := by simpa using hp
  have hq' : tmps[u]?.getD undef = .pointer (some ⟨c, 0, none⟩) := by simpa using hq
  simp [results, h, hp', hq', asAddr, e, d]

theorem does_valT {op : Oper} {a : Act} {w : World} {R : Value → World → Prop} (v : Value) (w' : World) (h : (execOp a.eval op).run Tryd.prog w = .ok (.value v) w') (k : R v w') : does Tryd.prog op a w R := by
  unfold does
  rw [h]
  exact k
end Go.Proofs.YtjilpicpfddbfaaDoor
