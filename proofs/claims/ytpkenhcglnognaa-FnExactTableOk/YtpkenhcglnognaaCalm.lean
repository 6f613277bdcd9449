/-
  Regions that leave their order open and whose operations read, reckon, or call functions that only make new blocks: one walk in the order of the text serves every order. (The library's law on classes of worlds, at the class 'nothing of what was there has turned'.)
-/
import Derived.Test.YtpkenhcglnognaaM1
import Derived.BigQuiet
import Derived.Deep.QuietTactic
namespace Go.Proofs.Ytpkenhcglnognaa
open Go.ChangeShapes Go.WideShapes Go.ChangeAt Go.RowKit
set_option linter.unusedVariables false
set_option maxRecDepth 10000

/-- A world in which nothing of what wb held has turned. -/
structure Later (wb : World) where
  val : World
  ok : Since wb val

theorem wp_region_calm {P : Program} {id : Nat} {Q : Exit → Act → World → Prop} {a : Act} {w wb : World} {l : List Oper} (hm : P.follows .mixedOrders = true) (hB : Region.lexB .any l.toArray = true) (h0 : Since wb w)
    (h : wpQuiet P l.toArray (fun w' => ∃ x : Later wb, w' = x.val) (fun a' => ∀ w', (∃ x : Later wb, w' = x.val) → Q .normal a' w') l a) : (Code.region id l.toArray true).wp P Q a w :=
  wp_region_quiet (C := fun w' => ∃ x : Later wb, w' = x.val) hm hB ⟨⟨w.drew, h0.drew⟩, rfl⟩ (by simpa using h)

theorem calm_call {P : Program} {f : FuncId} {args : Array Value} {wb : World} {x : Later wb} {v : Value}
    (h : Calls P f args x.val fun e w' => e = .returned v ∧ Since x.val w') : Calls P f args x.val fun e w'' => e = .returned v ∧ ∃ y : Later wb, w'' = y.val :=
  h.mono fun _ w' ⟨he, hs⟩ => ⟨he, ⟨w', x.ok.trans hs⟩, rfl⟩
end Go.Proofs.Ytpkenhcglnognaa
