/-
  No cell of these rows narrows 'for every input' (looked for: loops, veiled, ifaces, maps, wideKeys, modest, calm, conditions, laid).
  DERIVED. THE GIVEN ROWS OF THIS SEAT. 4 by the template 'for every input the law returns true; each argument reads behind the call as it read before'; 0 by the template 'total and deterministic' (their statements: YtlccnnoofbclcaaTotals.lean).
  GIVEN WITH THE SEED: the statements are not yours to turn. If you find one false, say at which input.
  Laid BY PROGRAM, IN A SANDBOX (cutbox-rows.mjs): the forced cells as the released guide's own fill.sh prints them over the translation 70553d89adbcd599… (all of the seat's roots in one cut). By AI agents, Wed Nov 11 2026. No macro, syntax, notation, axiom, sorry.
-/
import Derived.Test.YtlccnnoofbclcaaChecked
import GoSem.Claim
import GoSem.ClaimJoined
import GoSem.ClaimMapViews
import Derived.JoinedTies
import Derived.KernelRfl
namespace Go.Proofs.Ytlccnnoofbclcaa
/- THE CELL 'sum', in the pinned program and in every row, IS THE sha256 OF THE DUMP (.gsa) THAT YtlccnnoofbclcaaProg.lean LOADS. Nothing in Lean hashes anything: it is a label: what it is worth is what the hold of that sum in a sandbox is worth. -/
noncomputable def Try.pinned : Pinned := { name := "ytlccnnoofbclcaa", sum := "70553d89adbcd5995527d3e7ccd1e0548a1dbd7edae721ccc9b4e32f1d15a442", checked := Try.checked }
namespace Rows
def none {H : Type} : Left H := { results := [], args := [] }

/-- 'laws.FnExactConnWrite': WHATEVER THE INPUT: true; the input reads as it did. -/
def fnExactConnWriteSpec : ChangeSpec := { name := "fnExactConnWrite", fn := fun _ => fun
  | [d1, d2] => { results := [.lit (.bool true)], args := [d1, d2] }
  | _ => none }
def fnExactConnWriteRow : OpenClaim := { program := "ytlccnnoofbclcaa", sum := "70553d89adbcd5995527d3e7ccd1e0548a1dbd7edae721ccc9b4e32f1d15a442", func := "loop.example/g00107/laws.FnExactConnWrite", spec := "fnExactConnWrite", apart := false }
def FnExactConnWriteSaid : Prop := fnExactConnWriteRow.holds Try.pinned (OpenSpec.ofChange fnExactConnWriteSpec)

/-- ITS FALSE NEIGHBOUR: 'it returns false'. Refute it at one input. -/
def fnExactConnWriteWrong : ChangeSpec := { name := "fnExactConnWrite", fn := fun _ => fun
  | [d1, d2] => { results := [.lit (.bool false)], args := [d1, d2] }
  | _ => none }
def FnExactConnWriteWrongFalsely : Prop := fnExactConnWriteRow.holds Try.pinned (OpenSpec.ofChange fnExactConnWriteWrong)

/-- 'laws.FnExactConnRead': WHATEVER THE INPUT: true; the input reads as it did. -/
def fnExactConnReadSpec : ChangeSpec := { name := "fnExactConnRead", fn := fun _ => fun
  | [d1, d2] => { results := [.lit (.bool true)], args := [d1, d2] }
  | _ => none }
def fnExactConnReadRow : OpenClaim := { program := "ytlccnnoofbclcaa", sum := "70553d89adbcd5995527d3e7ccd1e0548a1dbd7edae721ccc9b4e32f1d15a442", func := "loop.example/g00107/laws.FnExactConnRead", spec := "fnExactConnRead", apart := false }
def FnExactConnReadSaid : Prop := fnExactConnReadRow.holds Try.pinned (OpenSpec.ofChange fnExactConnReadSpec)

/-- ITS FALSE NEIGHBOUR: 'it returns false'. Refute it at one input. -/
def fnExactConnReadWrong : ChangeSpec := { name := "fnExactConnRead", fn := fun _ => fun
  | [d1, d2] => { results := [.lit (.bool false)], args := [d1, d2] }
  | _ => none }
def FnExactConnReadWrongFalsely : Prop := fnExactConnReadRow.holds Try.pinned (OpenSpec.ofChange fnExactConnReadWrong)

/-- 'laws.FnExactConnClose': WHATEVER THE INPUT: true; the input reads as it did. -/
def fnExactConnCloseSpec : ChangeSpec := { name := "fnExactConnClose", fn := fun _ => fun
  | [d] => { results := [.lit (.bool true)], args := [d] }
  | _ => none }
def fnExactConnCloseRow : OpenClaim := { program := "ytlccnnoofbclcaa", sum := "70553d89adbcd5995527d3e7ccd1e0548a1dbd7edae721ccc9b4e32f1d15a442", func := "loop.example/g00107/laws.FnExactConnClose", spec := "fnExactConnClose", apart := false }
def FnExactConnCloseSaid : Prop := fnExactConnCloseRow.holds Try.pinned (OpenSpec.ofChange fnExactConnCloseSpec)

/-- ITS FALSE NEIGHBOUR: 'it returns false'. Refute it at one input. -/
def fnExactConnCloseWrong : ChangeSpec := { name := "fnExactConnClose", fn := fun _ => fun
  | [d] => { results := [.lit (.bool false)], args := [d] }
  | _ => none }
def FnExactConnCloseWrongFalsely : Prop := fnExactConnCloseRow.holds Try.pinned (OpenSpec.ofChange fnExactConnCloseWrong)

/-- 'laws.FnExactConnAbort': WHATEVER THE INPUT: true; the input reads as it did. -/
def fnExactConnAbortSpec : ChangeSpec := { name := "fnExactConnAbort", fn := fun _ => fun
  | [d] => { results := [.lit (.bool true)], args := [d] }
  | _ => none }
def fnExactConnAbortRow : OpenClaim := { program := "ytlccnnoofbclcaa", sum := "70553d89adbcd5995527d3e7ccd1e0548a1dbd7edae721ccc9b4e32f1d15a442", func := "loop.example/g00107/laws.FnExactConnAbort", spec := "fnExactConnAbort", apart := false }
def FnExactConnAbortSaid : Prop := fnExactConnAbortRow.holds Try.pinned (OpenSpec.ofChange fnExactConnAbortSpec)

/-- ITS FALSE NEIGHBOUR: 'it returns false'. Refute it at one input. -/
def fnExactConnAbortWrong : ChangeSpec := { name := "fnExactConnAbort", fn := fun _ => fun
  | [d] => { results := [.lit (.bool false)], args := [d] }
  | _ => none }
def FnExactConnAbortWrongFalsely : Prop := fnExactConnAbortRow.holds Try.pinned (OpenSpec.ofChange fnExactConnAbortWrong)

/- THE SECOND FORM. 'bulk': how many values and letters a reading holds, each counted each time it is reached (what is shared counts as often as it is met; a slice's spare places count too). A statement '..UptoSaid' is the law's where the arguments, and the package variables that the reading takes, are together of bulk at most 1048576: NARROWER than '..Said'. Prove '..Said' where nothing that the law and all that it calls make is longer than what came in: it says more and counts as full. Else prove '..UptoSaid'. A law counts once. -/
mutual
def uptoBulk {H : Type} : DataW H → Nat
  | .lit (.string bytes) => bytes.length + 1
  | .lit _ => 1
  | .nil => 1
  | .ptr d => uptoBulk d + 1
  | .slice elems spare => uptoBulkAll elems + uptoBulkAll spare + 1
  | .agg parts => uptoBulkAll parts + 1
  | .iface _ d => uptoBulk d + 1
  | .map entries => uptoBulkEntries entries + 1
  | .held _ => 1
def uptoBulkAll {H : Type} : List (DataW H) → Nat
  | [] => 0
  | d :: r => uptoBulk d + uptoBulkAll r
def uptoBulkEntries {H : Type} : List (Lit × DataW H) → Nat
  | [] => 0
  | x :: r => uptoBulkEntry x + uptoBulkEntries r
def uptoBulkEntry {H : Type} : Lit × DataW H → Nat
  | (.string bytes, d) => bytes.length + uptoBulk d + 1
  | (_, d) => uptoBulk d + 1
 end
def uptoSmall : (H : Type) → List (DataW H) → Bool := fun _ ds => decide (uptoBulkAll ds ≤ 1048576)
def OpenSpec.upto (s : _root_.Go.ChangeSpec) : _root_.Go.OpenSpec := { _root_.Go.OpenSpec.ofChange s with cond := some uptoSmall }

/-- 'laws.FnExactConnWrite', WHERE WHAT IT READS IS OF BULK AT MOST 1048576: true; the input reads as it did. -/
def fnExactConnWriteUptoRow : OpenClaim := { program := "ytlccnnoofbclcaa", sum := "70553d89adbcd5995527d3e7ccd1e0548a1dbd7edae721ccc9b4e32f1d15a442", func := "loop.example/g00107/laws.FnExactConnWrite", spec := "fnExactConnWrite", apart := false, narrowed := true }
def FnExactConnWriteUptoSaid : Prop := fnExactConnWriteUptoRow.holds Try.pinned (OpenSpec.upto fnExactConnWriteSpec)

/-- 'laws.FnExactConnRead', WHERE WHAT IT READS IS OF BULK AT MOST 1048576: true; the input reads as it did. -/
def fnExactConnReadUptoRow : OpenClaim := { program := "ytlccnnoofbclcaa", sum := "70553d89adbcd5995527d3e7ccd1e0548a1dbd7edae721ccc9b4e32f1d15a442", func := "loop.example/g00107/laws.FnExactConnRead", spec := "fnExactConnRead", apart := false, narrowed := true }
def FnExactConnReadUptoSaid : Prop := fnExactConnReadUptoRow.holds Try.pinned (OpenSpec.upto fnExactConnReadSpec)

/-- 'laws.FnExactConnClose', WHERE WHAT IT READS IS OF BULK AT MOST 1048576: true; the input reads as it did. -/
def fnExactConnCloseUptoRow : OpenClaim := { program := "ytlccnnoofbclcaa", sum := "70553d89adbcd5995527d3e7ccd1e0548a1dbd7edae721ccc9b4e32f1d15a442", func := "loop.example/g00107/laws.FnExactConnClose", spec := "fnExactConnClose", apart := false, narrowed := true }
def FnExactConnCloseUptoSaid : Prop := fnExactConnCloseUptoRow.holds Try.pinned (OpenSpec.upto fnExactConnCloseSpec)

/-- 'laws.FnExactConnAbort', WHERE WHAT IT READS IS OF BULK AT MOST 1048576: true; the input reads as it did. -/
def fnExactConnAbortUptoRow : OpenClaim := { program := "ytlccnnoofbclcaa", sum := "70553d89adbcd5995527d3e7ccd1e0548a1dbd7edae721ccc9b4e32f1d15a442", func := "loop.example/g00107/laws.FnExactConnAbort", spec := "fnExactConnAbort", apart := false, narrowed := true }
def FnExactConnAbortUptoSaid : Prop := fnExactConnAbortUptoRow.holds Try.pinned (OpenSpec.upto fnExactConnAbortSpec)

end Rows
end Go.Proofs.Ytlccnnoofbclcaa
