/-
  NARROWER THAN 'FOR EVERY INPUT', by the rows' own cells (each row's printed sentence says how): FnCookie: laid · FnExactMssOf: laid · FnExactMssStep: laid.
  DERIVED. THE GIVEN ROWS OF THIS SEAT. 3 by the template 'for every input the law returns true; each argument reads behind the call as it read before'; 0 by the template 'total and deterministic' (their statements: YtjilpicpfddbfaaDoorTotals.lean).
  GIVEN WITH THE SEED: the statements are not yours to turn. If you find one false, say at which input.
  Laid BY PROGRAM, IN A SANDBOX (cutbox-rows.mjs): the forced cells as the released guide's own fill.sh prints them over the translation 52c14283575dce53… (all of the seat's roots in one cut). By AI agents, Wed Nov 11 2026. No macro, syntax, notation, axiom, sorry.
-/
import Derived.Test.YtjilpicpfddbfaaDoorChecked
import GoSem.Claim
import GoSem.ClaimJoined
import GoSem.ClaimMapViews
import Derived.JoinedTies
import Derived.KernelRfl
namespace Go.Proofs.YtjilpicpfddbfaaDoor
/- THE CELL 'sum', in the pinned program and in every row, IS THE sha256 OF THE DUMP (.gsa) THAT YtjilpicpfddbfaaDoorProg.lean LOADS. Nothing in Lean hashes anything: it is a label: what it is worth is what the hold of that sum in a sandbox is worth. -/
noncomputable def Tryd.pinned : Pinned := { name := "ytjilpicpfddbfaadoor", sum := "52c14283575dce537654d7823291d98a342516a017683ff683311fa0195ae9c7", checked := Tryd.checked }
namespace Rows
def none {H : Type} : Left H := { results := [], args := [] }

/- WHAT THE LISTED PACKAGE-LEVEL VARIABLES READ AS WHEN THE CALL BEGINS. Each datum BY PROGRAM (the guide's laid-datum.mjs) off the statement by which the dump's own 'gosem.cut.vars' lays the variable. In a bare row this is a premise. The card (YtjilpicpfddbfaaDoorCards.lean) ties it to the program's text. -/
def laid_loop_example_g00107_impl_stepMss {H : Type} : DataW H := .agg [.lit (.int .i64 64), .lit (.int .i64 128), .lit (.int .i64 256), .lit (.int .i64 400), .lit (.int .i64 536), .lit (.int .i64 800), .lit (.int .i64 1200), .lit (.int .i64 1460)]

/-- 'laws.FnCookie': WHATEVER THE INPUT: true; the input reads as it did. -/
def fnCookieSpec : ChangeSpec := { name := "fnCookie", vars := ["loop.example/g00107/impl.stepMss"], fn := fun _ => fun
  | [d, g1] => { results := [.lit (.bool true)], args := [d], vars := [g1] }
  | _ => none }
def fnCookieRow : OpenClaim := { program := "ytjilpicpfddbfaadoor", sum := "52c14283575dce537654d7823291d98a342516a017683ff683311fa0195ae9c7", func := "loop.example/g00107/laws.FnCookie", spec := "fnCookie", named := ["loop.example/g00107/impl.stepMss"], apart := false, laid := [("loop.example/g00107/impl.stepMss", laid_loop_example_g00107_impl_stepMss)] }
def FnCookieSaid : Prop := fnCookieRow.holds Tryd.pinned (OpenSpec.ofChange fnCookieSpec)

/-- ITS FALSE NEIGHBOUR: 'it returns false'. Refute it at one input. -/
def fnCookieWrong : ChangeSpec := { name := "fnCookie", vars := ["loop.example/g00107/impl.stepMss"], fn := fun _ => fun
  | [d, g1] => { results := [.lit (.bool false)], args := [d], vars := [g1] }
  | _ => none }
def FnCookieWrongFalsely : Prop := fnCookieRow.holds Tryd.pinned (OpenSpec.ofChange fnCookieWrong)

/-- 'laws.FnExactMssOf': WHATEVER THE INPUT: true; the input reads as it did. -/
def fnExactMssOfSpec : ChangeSpec := { name := "fnExactMssOf", vars := ["loop.example/g00107/impl.stepMss"], fn := fun _ => fun
  | [d, g1] => { results := [.lit (.bool true)], args := [d], vars := [g1] }
  | _ => none }
def fnExactMssOfRow : OpenClaim := { program := "ytjilpicpfddbfaadoor", sum := "52c14283575dce537654d7823291d98a342516a017683ff683311fa0195ae9c7", func := "loop.example/g00107/laws.FnExactMssOf", spec := "fnExactMssOf", named := ["loop.example/g00107/impl.stepMss"], apart := false, laid := [("loop.example/g00107/impl.stepMss", laid_loop_example_g00107_impl_stepMss)] }
def FnExactMssOfSaid : Prop := fnExactMssOfRow.holds Tryd.pinned (OpenSpec.ofChange fnExactMssOfSpec)

/-- ITS FALSE NEIGHBOUR: 'it returns false'. Refute it at one input. -/
def fnExactMssOfWrong : ChangeSpec := { name := "fnExactMssOf", vars := ["loop.example/g00107/impl.stepMss"], fn := fun _ => fun
  | [d, g1] => { results := [.lit (.bool false)], args := [d], vars := [g1] }
  | _ => none }
def FnExactMssOfWrongFalsely : Prop := fnExactMssOfRow.holds Tryd.pinned (OpenSpec.ofChange fnExactMssOfWrong)

/-- 'laws.FnExactMssStep': WHATEVER THE INPUT: true; the input reads as it did. -/
def fnExactMssStepSpec : ChangeSpec := { name := "fnExactMssStep", vars := ["loop.example/g00107/impl.stepMss"], fn := fun _ => fun
  | [d, g1] => { results := [.lit (.bool true)], args := [d], vars := [g1] }
  | _ => none }
def fnExactMssStepRow : OpenClaim := { program := "ytjilpicpfddbfaadoor", sum := "52c14283575dce537654d7823291d98a342516a017683ff683311fa0195ae9c7", func := "loop.example/g00107/laws.FnExactMssStep", spec := "fnExactMssStep", named := ["loop.example/g00107/impl.stepMss"], apart := false, laid := [("loop.example/g00107/impl.stepMss", laid_loop_example_g00107_impl_stepMss)] }
def FnExactMssStepSaid : Prop := fnExactMssStepRow.holds Tryd.pinned (OpenSpec.ofChange fnExactMssStepSpec)

/-- ITS FALSE NEIGHBOUR: 'it returns false'. Refute it at one input. -/
def fnExactMssStepWrong : ChangeSpec := { name := "fnExactMssStep", vars := ["loop.example/g00107/impl.stepMss"], fn := fun _ => fun
  | [d, g1] => { results := [.lit (.bool false)], args := [d], vars := [g1] }
  | _ => none }
def FnExactMssStepWrongFalsely : Prop := fnExactMssStepRow.holds Tryd.pinned (OpenSpec.ofChange fnExactMssStepWrong)

/- THE SECOND FORM. 'bulk': how many values and letters a reading holds, each counted each time it is reached (what is shared counts as often as it is met; a slice's spare places count too). A statement '..UptoSaid' is the law's where the arguments, and the package variables that the reading takes, are together of bulk at most 1048576: NARROWER than '..Said'. Prove '..Said' where nothing that the law and all that it calls make is longer than what came in: it says more and counts as full. Else prove '..UptoSaid'. A law counts once. -/
mutual
def uptoBulk {H : Type} : DataW H → Nat
  | .lit (.string bytes) => bytes.length + 1
  | .lit _ => 1
  | .nil => 1
  | .ptr d => uptoBulk d + 1
  | .slice elems spare => uptoBulkAll elems + uptoBulkAll spare + 1
  | .agg parts => uptoBulkAll parts + 1
  | .iface _ d => uptoBulk d + 1
  | .map entries => uptoBulkEntries entries + 1
  | .held _ => 1
def uptoBulkAll {H : Type} : List (DataW H) → Nat
  | [] => 0
  | d :: r => uptoBulk d + uptoBulkAll r
def uptoBulkEntries {H : Type} : List (Lit × DataW H) → Nat
  | [] => 0
  | x :: r => uptoBulkEntry x + uptoBulkEntries r
def uptoBulkEntry {H : Type} : Lit × DataW H → Nat
  | (.string bytes, d) => bytes.length + uptoBulk d + 1
  | (_, d) => uptoBulk d + 1
 end
def uptoSmall : (H : Type) → List (DataW H) → Bool := fun _ ds => decide (uptoBulkAll ds ≤ 1048576)
def OpenSpec.upto (s : _root_.Go.ChangeSpec) : _root_.Go.OpenSpec := { _root_.Go.OpenSpec.ofChange s with cond := some uptoSmall }

/-- 'laws.FnCookie', WHERE WHAT IT READS IS OF BULK AT MOST 1048576: true; the input reads as it did. -/
def fnCookieUptoRow : OpenClaim := { program := "ytjilpicpfddbfaadoor", sum := "52c14283575dce537654d7823291d98a342516a017683ff683311fa0195ae9c7", func := "loop.example/g00107/laws.FnCookie", spec := "fnCookie", named := ["loop.example/g00107/impl.stepMss"], apart := false, laid := [("loop.example/g00107/impl.stepMss", laid_loop_example_g00107_impl_stepMss)], narrowed := true }
def FnCookieUptoSaid : Prop := fnCookieUptoRow.holds Tryd.pinned (OpenSpec.upto fnCookieSpec)

/-- 'laws.FnExactMssOf', WHERE WHAT IT READS IS OF BULK AT MOST 1048576: true; the input reads as it did. -/
def fnExactMssOfUptoRow : OpenClaim := { program := "ytjilpicpfddbfaadoor", sum := "52c14283575dce537654d7823291d98a342516a017683ff683311fa0195ae9c7", func := "loop.example/g00107/laws.FnExactMssOf", spec := "fnExactMssOf", named := ["loop.example/g00107/impl.stepMss"], apart := false, laid := [("loop.example/g00107/impl.stepMss", laid_loop_example_g00107_impl_stepMss)], narrowed := true }
def FnExactMssOfUptoSaid : Prop := fnExactMssOfUptoRow.holds Tryd.pinned (OpenSpec.upto fnExactMssOfSpec)

/-- 'laws.FnExactMssStep', WHERE WHAT IT READS IS OF BULK AT MOST 1048576: true; the input reads as it did. -/
def fnExactMssStepUptoRow : OpenClaim := { program := "ytjilpicpfddbfaadoor", sum := "52c14283575dce537654d7823291d98a342516a017683ff683311fa0195ae9c7", func := "loop.example/g00107/laws.FnExactMssStep", spec := "fnExactMssStep", named := ["loop.example/g00107/impl.stepMss"], apart := false, laid := [("loop.example/g00107/impl.stepMss", laid_loop_example_g00107_impl_stepMss)], narrowed := true }
def FnExactMssStepUptoSaid : Prop := fnExactMssStepUptoRow.holds Tryd.pinned (OpenSpec.upto fnExactMssStepSpec)

end Rows
end Go.Proofs.YtjilpicpfddbfaaDoor
