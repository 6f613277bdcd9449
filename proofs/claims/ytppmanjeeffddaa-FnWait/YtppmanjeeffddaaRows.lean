/-
  No cell of these rows narrows 'for every input' (looked for: loops, veiled, ifaces, maps, wideKeys, modest, calm, conditions, laid).
  DERIVED. THE GIVEN ROWS OF THIS SEAT. 6 by the template 'for every input the law returns true; each argument reads behind the call as it read before'; 0 by the template 'total and deterministic' (their statements: YtppmanjeeffddaaTotals.lean).
  GIVEN WITH THE SEED: the statements are not yours to turn. If you find one false, say at which input.
  Laid BY PROGRAM, IN A SANDBOX (cutbox-rows.mjs): the forced cells as the released guide's own fill.sh prints them over the translation 68137a5a764cf382… (all of the seat's roots in one cut). By AI agents, Wed Nov 11 2026. No macro, syntax, notation, axiom, sorry.
-/
import Derived.Test.YtppmanjeeffddaaChecked
import GoSem.Claim
import GoSem.ClaimJoined
import GoSem.ClaimMapViews
import Derived.JoinedTies
import Derived.KernelRfl
namespace Go.Proofs.Ytppmanjeeffddaa
/- THE CELL 'sum', in the pinned program and in every row, IS THE sha256 OF THE DUMP (.gsa) THAT YtppmanjeeffddaaProg.lean LOADS. Nothing in Lean hashes anything: it is a label: what it is worth is what the hold of that sum in a sandbox is worth. -/
noncomputable def Try.pinned : Pinned := { name := "ytppmanjeeffddaa", sum := "68137a5a764cf382701e631120d3a2435fa7b2ec93ce89dfca862703ca5fbf46", checked := Try.checked }
namespace Rows
def none {H : Type} : Left H := { results := [], args := [] }

/-- 'laws.FnWait': WHATEVER THE INPUT: true; the input reads as it did. -/
def fnWaitSpec : ChangeSpec := { name := "fnWait", fn := fun _ => fun
  | [d] => { results := [.lit (.bool true)], args := [d] }
  | _ => none }
def fnWaitRow : OpenClaim := { program := "ytppmanjeeffddaa", sum := "68137a5a764cf382701e631120d3a2435fa7b2ec93ce89dfca862703ca5fbf46", func := "loop.example/g00107/laws.FnWait", spec := "fnWait", unfollowed := true, recurses := true, apart := false }
def FnWaitSaid : Prop := fnWaitRow.holds Try.pinned (OpenSpec.ofChange fnWaitSpec)

/-- ITS FALSE NEIGHBOUR: 'it returns false'. Refute it at one input. -/
def fnWaitWrong : ChangeSpec := { name := "fnWait", fn := fun _ => fun
  | [d] => { results := [.lit (.bool false)], args := [d] }
  | _ => none }
def FnWaitWrongFalsely : Prop := fnWaitRow.holds Try.pinned (OpenSpec.ofChange fnWaitWrong)

/-- 'laws.FnExactRttOk': WHATEVER THE INPUT: true; the input reads as it did. -/
def fnExactRttOkSpec : ChangeSpec := { name := "fnExactRttOk", fn := fun _ => fun
  | [d] => { results := [.lit (.bool true)], args := [d] }
  | _ => none }
def fnExactRttOkRow : OpenClaim := { program := "ytppmanjeeffddaa", sum := "68137a5a764cf382701e631120d3a2435fa7b2ec93ce89dfca862703ca5fbf46", func := "loop.example/g00107/laws.FnExactRttOk", spec := "fnExactRttOk", apart := false }
def FnExactRttOkSaid : Prop := fnExactRttOkRow.holds Try.pinned (OpenSpec.ofChange fnExactRttOkSpec)

/-- ITS FALSE NEIGHBOUR: 'it returns false'. Refute it at one input. -/
def fnExactRttOkWrong : ChangeSpec := { name := "fnExactRttOk", fn := fun _ => fun
  | [d] => { results := [.lit (.bool false)], args := [d] }
  | _ => none }
def FnExactRttOkWrongFalsely : Prop := fnExactRttOkRow.holds Try.pinned (OpenSpec.ofChange fnExactRttOkWrong)

/-- 'laws.FnExactRttSample': WHATEVER THE INPUT: true; the input reads as it did. -/
def fnExactRttSampleSpec : ChangeSpec := { name := "fnExactRttSample", fn := fun _ => fun
  | [d1, d2] => { results := [.lit (.bool true)], args := [d1, d2] }
  | _ => none }
def fnExactRttSampleRow : OpenClaim := { program := "ytppmanjeeffddaa", sum := "68137a5a764cf382701e631120d3a2435fa7b2ec93ce89dfca862703ca5fbf46", func := "loop.example/g00107/laws.FnExactRttSample", spec := "fnExactRttSample", unfollowed := true, recurses := true, apart := false }
def FnExactRttSampleSaid : Prop := fnExactRttSampleRow.holds Try.pinned (OpenSpec.ofChange fnExactRttSampleSpec)

/-- ITS FALSE NEIGHBOUR: 'it returns false'. Refute it at one input. -/
def fnExactRttSampleWrong : ChangeSpec := { name := "fnExactRttSample", fn := fun _ => fun
  | [d1, d2] => { results := [.lit (.bool false)], args := [d1, d2] }
  | _ => none }
def FnExactRttSampleWrongFalsely : Prop := fnExactRttSampleRow.holds Try.pinned (OpenSpec.ofChange fnExactRttSampleWrong)

/-- 'laws.FnExactRttBack': WHATEVER THE INPUT: true; the input reads as it did. -/
def fnExactRttBackSpec : ChangeSpec := { name := "fnExactRttBack", fn := fun _ => fun
  | [d] => { results := [.lit (.bool true)], args := [d] }
  | _ => none }
def fnExactRttBackRow : OpenClaim := { program := "ytppmanjeeffddaa", sum := "68137a5a764cf382701e631120d3a2435fa7b2ec93ce89dfca862703ca5fbf46", func := "loop.example/g00107/laws.FnExactRttBack", spec := "fnExactRttBack", apart := false }
def FnExactRttBackSaid : Prop := fnExactRttBackRow.holds Try.pinned (OpenSpec.ofChange fnExactRttBackSpec)

/-- ITS FALSE NEIGHBOUR: 'it returns false'. Refute it at one input. -/
def fnExactRttBackWrong : ChangeSpec := { name := "fnExactRttBack", fn := fun _ => fun
  | [d] => { results := [.lit (.bool false)], args := [d] }
  | _ => none }
def FnExactRttBackWrongFalsely : Prop := fnExactRttBackRow.holds Try.pinned (OpenSpec.ofChange fnExactRttBackWrong)

/-- 'laws.FnExactRttWait': WHATEVER THE INPUT: true; the input reads as it did. -/
def fnExactRttWaitSpec : ChangeSpec := { name := "fnExactRttWait", fn := fun _ => fun
  | [d] => { results := [.lit (.bool true)], args := [d] }
  | _ => none }
def fnExactRttWaitRow : OpenClaim := { program := "ytppmanjeeffddaa", sum := "68137a5a764cf382701e631120d3a2435fa7b2ec93ce89dfca862703ca5fbf46", func := "loop.example/g00107/laws.FnExactRttWait", spec := "fnExactRttWait", apart := false }
def FnExactRttWaitSaid : Prop := fnExactRttWaitRow.holds Try.pinned (OpenSpec.ofChange fnExactRttWaitSpec)

/-- ITS FALSE NEIGHBOUR: 'it returns false'. Refute it at one input. -/
def fnExactRttWaitWrong : ChangeSpec := { name := "fnExactRttWait", fn := fun _ => fun
  | [d] => { results := [.lit (.bool false)], args := [d] }
  | _ => none }
def FnExactRttWaitWrongFalsely : Prop := fnExactRttWaitRow.holds Try.pinned (OpenSpec.ofChange fnExactRttWaitWrong)

/-- 'laws.FnExactRttRun': WHATEVER THE INPUT: true; the input reads as it did. -/
def fnExactRttRunSpec : ChangeSpec := { name := "fnExactRttRun", fn := fun _ => fun
  | [d] => { results := [.lit (.bool true)], args := [d] }
  | _ => none }
def fnExactRttRunRow : OpenClaim := { program := "ytppmanjeeffddaa", sum := "68137a5a764cf382701e631120d3a2435fa7b2ec93ce89dfca862703ca5fbf46", func := "loop.example/g00107/laws.FnExactRttRun", spec := "fnExactRttRun", unfollowed := true, recurses := true, apart := false }
def FnExactRttRunSaid : Prop := fnExactRttRunRow.holds Try.pinned (OpenSpec.ofChange fnExactRttRunSpec)

/-- ITS FALSE NEIGHBOUR: 'it returns false'. Refute it at one input. -/
def fnExactRttRunWrong : ChangeSpec := { name := "fnExactRttRun", fn := fun _ => fun
  | [d] => { results := [.lit (.bool false)], args := [d] }
  | _ => none }
def FnExactRttRunWrongFalsely : Prop := fnExactRttRunRow.holds Try.pinned (OpenSpec.ofChange fnExactRttRunWrong)

/- THE SECOND FORM. 'bulk': how many values and letters a reading holds, each counted each time it is reached (what is shared counts as often as it is met; a slice's spare places count too). A statement '..UptoSaid' is the law's where the arguments, and the package variables that the reading takes, are together of bulk at most 1048576: NARROWER than '..Said'. Prove '..Said' where nothing that the law and all that it calls make is longer than what came in: it says more and counts as full. Else prove '..UptoSaid'. A law counts once. -/
mutual
def uptoBulk {H : Type} : DataW H → Nat
  | .lit (.string bytes) => bytes.length + 1
  | .lit _ => 1
  | .nil => 1
  | .ptr d => uptoBulk d + 1
  | .slice elems spare => uptoBulkAll elems + uptoBulkAll spare + 1
  | .agg parts => uptoBulkAll parts + 1
  | .iface _ d => uptoBulk d + 1
  | .map entries => uptoBulkEntries entries + 1
  | .held _ => 1
def uptoBulkAll {H : Type} : List (DataW H) → Nat
  | [] => 0
  | d :: r => uptoBulk d + uptoBulkAll r
def uptoBulkEntries {H : Type} : List (Lit × DataW H) → Nat
  | [] => 0
  | x :: r => uptoBulkEntry x + uptoBulkEntries r
def uptoBulkEntry {H : Type} : Lit × DataW H → Nat
  | (.string bytes, d) => bytes.length + uptoBulk d + 1
  | (_, d) => uptoBulk d + 1
 end
def uptoSmall : (H : Type) → List (DataW H) → Bool := fun _ ds => decide (uptoBulkAll ds ≤ 1048576)
def OpenSpec.upto (s : _root_.Go.ChangeSpec) : _root_.Go.OpenSpec := { _root_.Go.OpenSpec.ofChange s with cond := some uptoSmall }

/-- 'laws.FnWait', WHERE WHAT IT READS IS OF BULK AT MOST 1048576: true; the input reads as it did. -/
def fnWaitUptoRow : OpenClaim := { program := "ytppmanjeeffddaa", sum := "68137a5a764cf382701e631120d3a2435fa7b2ec93ce89dfca862703ca5fbf46", func := "loop.example/g00107/laws.FnWait", spec := "fnWait", unfollowed := true, recurses := true, apart := false, narrowed := true }
def FnWaitUptoSaid : Prop := fnWaitUptoRow.holds Try.pinned (OpenSpec.upto fnWaitSpec)

/-- 'laws.FnExactRttOk', WHERE WHAT IT READS IS OF BULK AT MOST 1048576: true; the input reads as it did. -/
def fnExactRttOkUptoRow : OpenClaim := { program := "ytppmanjeeffddaa", sum := "68137a5a764cf382701e631120d3a2435fa7b2ec93ce89dfca862703ca5fbf46", func := "loop.example/g00107/laws.FnExactRttOk", spec := "fnExactRttOk", apart := false, narrowed := true }
def FnExactRttOkUptoSaid : Prop := fnExactRttOkUptoRow.holds Try.pinned (OpenSpec.upto fnExactRttOkSpec)

/-- 'laws.FnExactRttSample', WHERE WHAT IT READS IS OF BULK AT MOST 1048576: true; the input reads as it did. -/
def fnExactRttSampleUptoRow : OpenClaim := { program := "ytppmanjeeffddaa", sum := "68137a5a764cf382701e631120d3a2435fa7b2ec93ce89dfca862703ca5fbf46", func := "loop.example/g00107/laws.FnExactRttSample", spec := "fnExactRttSample", unfollowed := true, recurses := true, apart := false, narrowed := true }
def FnExactRttSampleUptoSaid : Prop := fnExactRttSampleUptoRow.holds Try.pinned (OpenSpec.upto fnExactRttSampleSpec)

/-- 'laws.FnExactRttBack', WHERE WHAT IT READS IS OF BULK AT MOST 1048576: true; the input reads as it did. -/
def fnExactRttBackUptoRow : OpenClaim := { program := "ytppmanjeeffddaa", sum := "68137a5a764cf382701e631120d3a2435fa7b2ec93ce89dfca862703ca5fbf46", func := "loop.example/g00107/laws.FnExactRttBack", spec := "fnExactRttBack", apart := false, narrowed := true }
def FnExactRttBackUptoSaid : Prop := fnExactRttBackUptoRow.holds Try.pinned (OpenSpec.upto fnExactRttBackSpec)

/-- 'laws.FnExactRttWait', WHERE WHAT IT READS IS OF BULK AT MOST 1048576: true; the input reads as it did. -/
def fnExactRttWaitUptoRow : OpenClaim := { program := "ytppmanjeeffddaa", sum := "68137a5a764cf382701e631120d3a2435fa7b2ec93ce89dfca862703ca5fbf46", func := "loop.example/g00107/laws.FnExactRttWait", spec := "fnExactRttWait", apart := false, narrowed := true }
def FnExactRttWaitUptoSaid : Prop := fnExactRttWaitUptoRow.holds Try.pinned (OpenSpec.upto fnExactRttWaitSpec)

/-- 'laws.FnExactRttRun', WHERE WHAT IT READS IS OF BULK AT MOST 1048576: true; the input reads as it did. -/
def fnExactRttRunUptoRow : OpenClaim := { program := "ytppmanjeeffddaa", sum := "68137a5a764cf382701e631120d3a2435fa7b2ec93ce89dfca862703ca5fbf46", func := "loop.example/g00107/laws.FnExactRttRun", spec := "fnExactRttRun", unfollowed := true, recurses := true, apart := false, narrowed := true }
def FnExactRttRunUptoSaid : Prop := fnExactRttRunUptoRow.holds Try.pinned (OpenSpec.upto fnExactRttRunSpec)

end Rows
end Go.Proofs.Ytppmanjeeffddaa
