/-
  No cell of these rows narrows 'for every input' (looked for: loops, veiled, ifaces, maps, wideKeys, modest, calm, conditions, laid).
  DERIVED. THE GIVEN ROWS OF THIS SEAT. 6 by the template 'for every input the law returns true; each argument reads behind the call as it read before'; 0 by the template 'total and deterministic' (their statements: YtffjedjkfhdolaaTotals.lean).
  GIVEN WITH THE SEED: the statements are not yours to turn. If you find one false, say at which input.
  Laid BY PROGRAM, IN A SANDBOX (cutbox-rows.mjs): the forced cells as the released guide's own fill.sh prints them over the translation 9fe80ba23db3e6a7… (all of the seat's roots in one cut). By AI agents, Wed Nov 11 2026. No macro, syntax, notation, axiom, sorry.
-/
import Derived.Test.YtffjedjkfhdolaaChecked
import GoSem.Claim
import GoSem.ClaimJoined
import GoSem.ClaimMapViews
import Derived.JoinedTies
import Derived.KernelRfl
namespace Go.Proofs.Ytffjedjkfhdolaa
/- THE CELL 'sum', in the pinned program and in every row, IS THE sha256 OF THE DUMP (.gsa) THAT YtffjedjkfhdolaaProg.lean LOADS. Nothing in Lean hashes anything: it is a label: what it is worth is what the hold of that sum in a sandbox is worth. -/
noncomputable def Try.pinned : Pinned := { name := "ytffjedjkfhdolaa", sum := "9fe80ba23db3e6a7f46cb6406cb46b260af0bb4793918ef5a0f18fab5a975bfc", checked := Try.checked }
namespace Rows
def none {H : Type} : Left H := { results := [], args := [] }

/-- 'laws.FnSeq': WHATEVER THE INPUT: true; the input reads as it did. -/
def fnSeqSpec : ChangeSpec := { name := "fnSeq", fn := fun _ => fun
  | [d] => { results := [.lit (.bool true)], args := [d] }
  | _ => none }
def fnSeqRow : OpenClaim := { program := "ytffjedjkfhdolaa", sum := "9fe80ba23db3e6a7f46cb6406cb46b260af0bb4793918ef5a0f18fab5a975bfc", func := "loop.example/g00107/laws.FnSeq", spec := "fnSeq", apart := false }
def FnSeqSaid : Prop := fnSeqRow.holds Try.pinned (OpenSpec.ofChange fnSeqSpec)

/-- ITS FALSE NEIGHBOUR: 'it returns false'. Refute it at one input. -/
def fnSeqWrong : ChangeSpec := { name := "fnSeq", fn := fun _ => fun
  | [d] => { results := [.lit (.bool false)], args := [d] }
  | _ => none }
def FnSeqWrongFalsely : Prop := fnSeqRow.holds Try.pinned (OpenSpec.ofChange fnSeqWrong)

/-- 'laws.FnWindow': WHATEVER THE INPUT: true; the input reads as it did. -/
def fnWindowSpec : ChangeSpec := { name := "fnWindow", fn := fun _ => fun
  | [d] => { results := [.lit (.bool true)], args := [d] }
  | _ => none }
def fnWindowRow : OpenClaim := { program := "ytffjedjkfhdolaa", sum := "9fe80ba23db3e6a7f46cb6406cb46b260af0bb4793918ef5a0f18fab5a975bfc", func := "loop.example/g00107/laws.FnWindow", spec := "fnWindow", apart := false }
def FnWindowSaid : Prop := fnWindowRow.holds Try.pinned (OpenSpec.ofChange fnWindowSpec)

/-- ITS FALSE NEIGHBOUR: 'it returns false'. Refute it at one input. -/
def fnWindowWrong : ChangeSpec := { name := "fnWindow", fn := fun _ => fun
  | [d] => { results := [.lit (.bool false)], args := [d] }
  | _ => none }
def FnWindowWrongFalsely : Prop := fnWindowRow.holds Try.pinned (OpenSpec.ofChange fnWindowWrong)

/-- 'laws.FnExactSeqLess': WHATEVER THE INPUT: true; the input reads as it did. -/
def fnExactSeqLessSpec : ChangeSpec := { name := "fnExactSeqLess", fn := fun _ => fun
  | [d1, d2] => { results := [.lit (.bool true)], args := [d1, d2] }
  | _ => none }
def fnExactSeqLessRow : OpenClaim := { program := "ytffjedjkfhdolaa", sum := "9fe80ba23db3e6a7f46cb6406cb46b260af0bb4793918ef5a0f18fab5a975bfc", func := "loop.example/g00107/laws.FnExactSeqLess", spec := "fnExactSeqLess", apart := false }
def FnExactSeqLessSaid : Prop := fnExactSeqLessRow.holds Try.pinned (OpenSpec.ofChange fnExactSeqLessSpec)

/-- ITS FALSE NEIGHBOUR: 'it returns false'. Refute it at one input. -/
def fnExactSeqLessWrong : ChangeSpec := { name := "fnExactSeqLess", fn := fun _ => fun
  | [d1, d2] => { results := [.lit (.bool false)], args := [d1, d2] }
  | _ => none }
def FnExactSeqLessWrongFalsely : Prop := fnExactSeqLessRow.holds Try.pinned (OpenSpec.ofChange fnExactSeqLessWrong)

/-- 'laws.FnExactSeqLessEq': WHATEVER THE INPUT: true; the input reads as it did. -/
def fnExactSeqLessEqSpec : ChangeSpec := { name := "fnExactSeqLessEq", fn := fun _ => fun
  | [d1, d2] => { results := [.lit (.bool true)], args := [d1, d2] }
  | _ => none }
def fnExactSeqLessEqRow : OpenClaim := { program := "ytffjedjkfhdolaa", sum := "9fe80ba23db3e6a7f46cb6406cb46b260af0bb4793918ef5a0f18fab5a975bfc", func := "loop.example/g00107/laws.FnExactSeqLessEq", spec := "fnExactSeqLessEq", apart := false }
def FnExactSeqLessEqSaid : Prop := fnExactSeqLessEqRow.holds Try.pinned (OpenSpec.ofChange fnExactSeqLessEqSpec)

/-- ITS FALSE NEIGHBOUR: 'it returns false'. Refute it at one input. -/
def fnExactSeqLessEqWrong : ChangeSpec := { name := "fnExactSeqLessEq", fn := fun _ => fun
  | [d1, d2] => { results := [.lit (.bool false)], args := [d1, d2] }
  | _ => none }
def FnExactSeqLessEqWrongFalsely : Prop := fnExactSeqLessEqRow.holds Try.pinned (OpenSpec.ofChange fnExactSeqLessEqWrong)

/-- 'laws.FnExactSeqMax': WHATEVER THE INPUT: true; the input reads as it did. -/
def fnExactSeqMaxSpec : ChangeSpec := { name := "fnExactSeqMax", fn := fun _ => fun
  | [d1, d2] => { results := [.lit (.bool true)], args := [d1, d2] }
  | _ => none }
def fnExactSeqMaxRow : OpenClaim := { program := "ytffjedjkfhdolaa", sum := "9fe80ba23db3e6a7f46cb6406cb46b260af0bb4793918ef5a0f18fab5a975bfc", func := "loop.example/g00107/laws.FnExactSeqMax", spec := "fnExactSeqMax", apart := false }
def FnExactSeqMaxSaid : Prop := fnExactSeqMaxRow.holds Try.pinned (OpenSpec.ofChange fnExactSeqMaxSpec)

/-- ITS FALSE NEIGHBOUR: 'it returns false'. Refute it at one input. -/
def fnExactSeqMaxWrong : ChangeSpec := { name := "fnExactSeqMax", fn := fun _ => fun
  | [d1, d2] => { results := [.lit (.bool false)], args := [d1, d2] }
  | _ => none }
def FnExactSeqMaxWrongFalsely : Prop := fnExactSeqMaxRow.holds Try.pinned (OpenSpec.ofChange fnExactSeqMaxWrong)

/-- 'laws.FnExactSeqDist': WHATEVER THE INPUT: true; the input reads as it did. -/
def fnExactSeqDistSpec : ChangeSpec := { name := "fnExactSeqDist", fn := fun _ => fun
  | [d1, d2] => { results := [.lit (.bool true)], args := [d1, d2] }
  | _ => none }
def fnExactSeqDistRow : OpenClaim := { program := "ytffjedjkfhdolaa", sum := "9fe80ba23db3e6a7f46cb6406cb46b260af0bb4793918ef5a0f18fab5a975bfc", func := "loop.example/g00107/laws.FnExactSeqDist", spec := "fnExactSeqDist", apart := false }
def FnExactSeqDistSaid : Prop := fnExactSeqDistRow.holds Try.pinned (OpenSpec.ofChange fnExactSeqDistSpec)

/-- ITS FALSE NEIGHBOUR: 'it returns false'. Refute it at one input. -/
def fnExactSeqDistWrong : ChangeSpec := { name := "fnExactSeqDist", fn := fun _ => fun
  | [d1, d2] => { results := [.lit (.bool false)], args := [d1, d2] }
  | _ => none }
def FnExactSeqDistWrongFalsely : Prop := fnExactSeqDistRow.holds Try.pinned (OpenSpec.ofChange fnExactSeqDistWrong)

/- THE SECOND FORM. 'bulk': how many values and letters a reading holds, each counted each time it is reached (what is shared counts as often as it is met; a slice's spare places count too). A statement '..UptoSaid' is the law's where the arguments, and the package variables that the reading takes, are together of bulk at most 1048576: NARROWER than '..Said'. Prove '..Said' where nothing that the law and all that it calls make is longer than what came in: it says more and counts as full. Else prove '..UptoSaid'. A law counts once. -/
mutual
def uptoBulk {H : Type} : DataW H → Nat
  | .lit (.string bytes) => bytes.length + 1
  | .lit _ => 1
  | .nil => 1
  | .ptr d => uptoBulk d + 1
  | .slice elems spare => uptoBulkAll elems + uptoBulkAll spare + 1
  | .agg parts => uptoBulkAll parts + 1
  | .iface _ d => uptoBulk d + 1
  | .map entries => uptoBulkEntries entries + 1
  | .held _ => 1
def uptoBulkAll {H : Type} : List (DataW H) → Nat
  | [] => 0
  | d :: r => uptoBulk d + uptoBulkAll r
def uptoBulkEntries {H : Type} : List (Lit × DataW H) → Nat
  | [] => 0
  | x :: r => uptoBulkEntry x + uptoBulkEntries r
def uptoBulkEntry {H : Type} : Lit × DataW H → Nat
  | (.string bytes, d) => bytes.length + uptoBulk d + 1
  | (_, d) => uptoBulk d + 1
 end
def uptoSmall : (H : Type) → List (DataW H) → Bool := fun _ ds => decide (uptoBulkAll ds ≤ 1048576)
def OpenSpec.upto (s : _root_.Go.ChangeSpec) : _root_.Go.OpenSpec := { _root_.Go.OpenSpec.ofChange s with cond := some uptoSmall }

/-- 'laws.FnSeq', WHERE WHAT IT READS IS OF BULK AT MOST 1048576: true; the input reads as it did. -/
def fnSeqUptoRow : OpenClaim := { program := "ytffjedjkfhdolaa", sum := "9fe80ba23db3e6a7f46cb6406cb46b260af0bb4793918ef5a0f18fab5a975bfc", func := "loop.example/g00107/laws.FnSeq", spec := "fnSeq", apart := false, narrowed := true }
def FnSeqUptoSaid : Prop := fnSeqUptoRow.holds Try.pinned (OpenSpec.upto fnSeqSpec)

/-- 'laws.FnWindow', WHERE WHAT IT READS IS OF BULK AT MOST 1048576: true; the input reads as it did. -/
def fnWindowUptoRow : OpenClaim := { program := "ytffjedjkfhdolaa", sum := "9fe80ba23db3e6a7f46cb6406cb46b260af0bb4793918ef5a0f18fab5a975bfc", func := "loop.example/g00107/laws.FnWindow", spec := "fnWindow", apart := false, narrowed := true }
def FnWindowUptoSaid : Prop := fnWindowUptoRow.holds Try.pinned (OpenSpec.upto fnWindowSpec)

/-- 'laws.FnExactSeqLess', WHERE WHAT IT READS IS OF BULK AT MOST 1048576: true; the input reads as it did. -/
def fnExactSeqLessUptoRow : OpenClaim := { program := "ytffjedjkfhdolaa", sum := "9fe80ba23db3e6a7f46cb6406cb46b260af0bb4793918ef5a0f18fab5a975bfc", func := "loop.example/g00107/laws.FnExactSeqLess", spec := "fnExactSeqLess", apart := false, narrowed := true }
def FnExactSeqLessUptoSaid : Prop := fnExactSeqLessUptoRow.holds Try.pinned (OpenSpec.upto fnExactSeqLessSpec)

/-- 'laws.FnExactSeqLessEq', WHERE WHAT IT READS IS OF BULK AT MOST 1048576: true; the input reads as it did. -/
def fnExactSeqLessEqUptoRow : OpenClaim := { program := "ytffjedjkfhdolaa", sum := "9fe80ba23db3e6a7f46cb6406cb46b260af0bb4793918ef5a0f18fab5a975bfc", func := "loop.example/g00107/laws.FnExactSeqLessEq", spec := "fnExactSeqLessEq", apart := false, narrowed := true }
def FnExactSeqLessEqUptoSaid : Prop := fnExactSeqLessEqUptoRow.holds Try.pinned (OpenSpec.upto fnExactSeqLessEqSpec)

/-- 'laws.FnExactSeqMax', WHERE WHAT IT READS IS OF BULK AT MOST 1048576: true; the input reads as it did. -/
def fnExactSeqMaxUptoRow : OpenClaim := { program := "ytffjedjkfhdolaa", sum := "9fe80ba23db3e6a7f46cb6406cb46b260af0bb4793918ef5a0f18fab5a975bfc", func := "loop.example/g00107/laws.FnExactSeqMax", spec := "fnExactSeqMax", apart := false, narrowed := true }
def FnExactSeqMaxUptoSaid : Prop := fnExactSeqMaxUptoRow.holds Try.pinned (OpenSpec.upto fnExactSeqMaxSpec)

/-- 'laws.FnExactSeqDist', WHERE WHAT IT READS IS OF BULK AT MOST 1048576: true; the input reads as it did. -/
def fnExactSeqDistUptoRow : OpenClaim := { program := "ytffjedjkfhdolaa", sum := "9fe80ba23db3e6a7f46cb6406cb46b260af0bb4793918ef5a0f18fab5a975bfc", func := "loop.example/g00107/laws.FnExactSeqDist", spec := "fnExactSeqDist", apart := false, narrowed := true }
def FnExactSeqDistUptoSaid : Prop := fnExactSeqDistUptoRow.holds Try.pinned (OpenSpec.upto fnExactSeqDistSpec)

end Rows
end Go.Proofs.Ytffjedjkfhdolaa
