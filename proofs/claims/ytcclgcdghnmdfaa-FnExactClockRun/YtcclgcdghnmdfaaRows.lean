/-
  No cell of these rows narrows 'for every input' (looked for: loops, veiled, ifaces, maps, wideKeys, modest, calm, conditions, laid).
  DERIVED. THE GIVEN ROWS OF THIS SEAT. 6 by the template 'for every input the law returns true; each argument reads behind the call as it read before'; 0 by the template 'total and deterministic' (their statements: YtcclgcdghnmdfaaTotals.lean).
  GIVEN WITH THE SEED: the statements are not yours to turn. If you find one false, say at which input.
  Laid BY PROGRAM, IN A SANDBOX (cutbox-rows.mjs): the forced cells as the released guide's own fill.sh prints them over the translation d160a85c25b3d65f… (all of the seat's roots in one cut). By AI agents, Wed Nov 11 2026. No macro, syntax, notation, axiom, sorry.
-/
import Derived.Test.YtcclgcdghnmdfaaChecked
import GoSem.Claim
import GoSem.ClaimJoined
import GoSem.ClaimMapViews
import Derived.JoinedTies
import Derived.KernelRfl
namespace Go.Proofs.Ytcclgcdghnmdfaa
/- THE CELL 'sum', in the pinned program and in every row, IS THE sha256 OF THE DUMP (.gsa) THAT YtcclgcdghnmdfaaProg.lean LOADS. Nothing in Lean hashes anything: it is a label: what it is worth is what the hold of that sum in a sandbox is worth. -/
noncomputable def Try.pinned : Pinned := { name := "ytcclgcdghnmdfaa", sum := "d160a85c25b3d65fe902c17f2b8c97c4a11050832404408c35f51b64a2279785", checked := Try.checked }
namespace Rows
def none {H : Type} : Left H := { results := [], args := [] }

/-- 'laws.FnExactClockOk': WHATEVER THE INPUT: true; the input reads as it did. -/
def fnExactClockOkSpec : ChangeSpec := { name := "fnExactClockOk", fn := fun _ => fun
  | [d] => { results := [.lit (.bool true)], args := [d] }
  | _ => none }
def fnExactClockOkRow : OpenClaim := { program := "ytcclgcdghnmdfaa", sum := "d160a85c25b3d65fe902c17f2b8c97c4a11050832404408c35f51b64a2279785", func := "loop.example/g00107/laws.FnExactClockOk", spec := "fnExactClockOk", unfollowed := true, recurses := true, apart := false }
def FnExactClockOkSaid : Prop := fnExactClockOkRow.holds Try.pinned (OpenSpec.ofChange fnExactClockOkSpec)

/-- ITS FALSE NEIGHBOUR: 'it returns false'. Refute it at one input. -/
def fnExactClockOkWrong : ChangeSpec := { name := "fnExactClockOk", fn := fun _ => fun
  | [d] => { results := [.lit (.bool false)], args := [d] }
  | _ => none }
def FnExactClockOkWrongFalsely : Prop := fnExactClockOkRow.holds Try.pinned (OpenSpec.ofChange fnExactClockOkWrong)

/-- 'laws.FnExactClockSet': WHATEVER THE INPUT: true; the input reads as it did. -/
def fnExactClockSetSpec : ChangeSpec := { name := "fnExactClockSet", fn := fun _ => fun
  | [d1, d2, d3] => { results := [.lit (.bool true)], args := [d1, d2, d3] }
  | _ => none }
def fnExactClockSetRow : OpenClaim := { program := "ytcclgcdghnmdfaa", sum := "d160a85c25b3d65fe902c17f2b8c97c4a11050832404408c35f51b64a2279785", func := "loop.example/g00107/laws.FnExactClockSet", spec := "fnExactClockSet", unfollowed := true, recurses := true, apart := false }
def FnExactClockSetSaid : Prop := fnExactClockSetRow.holds Try.pinned (OpenSpec.ofChange fnExactClockSetSpec)

/-- ITS FALSE NEIGHBOUR: 'it returns false'. Refute it at one input. -/
def fnExactClockSetWrong : ChangeSpec := { name := "fnExactClockSet", fn := fun _ => fun
  | [d1, d2, d3] => { results := [.lit (.bool false)], args := [d1, d2, d3] }
  | _ => none }
def FnExactClockSetWrongFalsely : Prop := fnExactClockSetRow.holds Try.pinned (OpenSpec.ofChange fnExactClockSetWrong)

/-- 'laws.FnExactClockStop': WHATEVER THE INPUT: true; the input reads as it did. -/
def fnExactClockStopSpec : ChangeSpec := { name := "fnExactClockStop", fn := fun _ => fun
  | [d1, d2] => { results := [.lit (.bool true)], args := [d1, d2] }
  | _ => none }
def fnExactClockStopRow : OpenClaim := { program := "ytcclgcdghnmdfaa", sum := "d160a85c25b3d65fe902c17f2b8c97c4a11050832404408c35f51b64a2279785", func := "loop.example/g00107/laws.FnExactClockStop", spec := "fnExactClockStop", unfollowed := true, recurses := true, apart := false }
def FnExactClockStopSaid : Prop := fnExactClockStopRow.holds Try.pinned (OpenSpec.ofChange fnExactClockStopSpec)

/-- ITS FALSE NEIGHBOUR: 'it returns false'. Refute it at one input. -/
def fnExactClockStopWrong : ChangeSpec := { name := "fnExactClockStop", fn := fun _ => fun
  | [d1, d2] => { results := [.lit (.bool false)], args := [d1, d2] }
  | _ => none }
def FnExactClockStopWrongFalsely : Prop := fnExactClockStopRow.holds Try.pinned (OpenSpec.ofChange fnExactClockStopWrong)

/-- 'laws.FnExactClockGo': WHATEVER THE INPUT: true; the input reads as it did. -/
def fnExactClockGoSpec : ChangeSpec := { name := "fnExactClockGo", fn := fun _ => fun
  | [d1, d2] => { results := [.lit (.bool true)], args := [d1, d2] }
  | _ => none }
def fnExactClockGoRow : OpenClaim := { program := "ytcclgcdghnmdfaa", sum := "d160a85c25b3d65fe902c17f2b8c97c4a11050832404408c35f51b64a2279785", func := "loop.example/g00107/laws.FnExactClockGo", spec := "fnExactClockGo", unfollowed := true, recurses := true, apart := false }
def FnExactClockGoSaid : Prop := fnExactClockGoRow.holds Try.pinned (OpenSpec.ofChange fnExactClockGoSpec)

/-- ITS FALSE NEIGHBOUR: 'it returns false'. Refute it at one input. -/
def fnExactClockGoWrong : ChangeSpec := { name := "fnExactClockGo", fn := fun _ => fun
  | [d1, d2] => { results := [.lit (.bool false)], args := [d1, d2] }
  | _ => none }
def FnExactClockGoWrongFalsely : Prop := fnExactClockGoRow.holds Try.pinned (OpenSpec.ofChange fnExactClockGoWrong)

/-- 'laws.FnExactClockNext': WHATEVER THE INPUT: true; the input reads as it did. -/
def fnExactClockNextSpec : ChangeSpec := { name := "fnExactClockNext", fn := fun _ => fun
  | [d] => { results := [.lit (.bool true)], args := [d] }
  | _ => none }
def fnExactClockNextRow : OpenClaim := { program := "ytcclgcdghnmdfaa", sum := "d160a85c25b3d65fe902c17f2b8c97c4a11050832404408c35f51b64a2279785", func := "loop.example/g00107/laws.FnExactClockNext", spec := "fnExactClockNext", unfollowed := true, recurses := true, apart := false }
def FnExactClockNextSaid : Prop := fnExactClockNextRow.holds Try.pinned (OpenSpec.ofChange fnExactClockNextSpec)

/-- ITS FALSE NEIGHBOUR: 'it returns false'. Refute it at one input. -/
def fnExactClockNextWrong : ChangeSpec := { name := "fnExactClockNext", fn := fun _ => fun
  | [d] => { results := [.lit (.bool false)], args := [d] }
  | _ => none }
def FnExactClockNextWrongFalsely : Prop := fnExactClockNextRow.holds Try.pinned (OpenSpec.ofChange fnExactClockNextWrong)

/-- 'laws.FnExactClockRun': WHATEVER THE INPUT: true; the input reads as it did. -/
def fnExactClockRunSpec : ChangeSpec := { name := "fnExactClockRun", fn := fun _ => fun
  | [d] => { results := [.lit (.bool true)], args := [d] }
  | _ => none }
def fnExactClockRunRow : OpenClaim := { program := "ytcclgcdghnmdfaa", sum := "d160a85c25b3d65fe902c17f2b8c97c4a11050832404408c35f51b64a2279785", func := "loop.example/g00107/laws.FnExactClockRun", spec := "fnExactClockRun", unfollowed := true, recurses := true, apart := false }
def FnExactClockRunSaid : Prop := fnExactClockRunRow.holds Try.pinned (OpenSpec.ofChange fnExactClockRunSpec)

/-- ITS FALSE NEIGHBOUR: 'it returns false'. Refute it at one input. -/
def fnExactClockRunWrong : ChangeSpec := { name := "fnExactClockRun", fn := fun _ => fun
  | [d] => { results := [.lit (.bool false)], args := [d] }
  | _ => none }
def FnExactClockRunWrongFalsely : Prop := fnExactClockRunRow.holds Try.pinned (OpenSpec.ofChange fnExactClockRunWrong)

/- THE SECOND FORM. 'bulk': how many values and letters a reading holds, each counted each time it is reached (what is shared counts as often as it is met; a slice's spare places count too). A statement '..UptoSaid' is the law's where the arguments, and the package variables that the reading takes, are together of bulk at most 1048576: NARROWER than '..Said'. Prove '..Said' where nothing that the law and all that it calls make is longer than what came in: it says more and counts as full. Else prove '..UptoSaid'. A law counts once. -/
mutual
def uptoBulk {H : Type} : DataW H → Nat
  | .lit (.string bytes) => bytes.length + 1
  | .lit _ => 1
  | .nil => 1
  | .ptr d => uptoBulk d + 1
  | .slice elems spare => uptoBulkAll elems + uptoBulkAll spare + 1
  | .agg parts => uptoBulkAll parts + 1
  | .iface _ d => uptoBulk d + 1
  | .map entries => uptoBulkEntries entries + 1
  | .held _ => 1
def uptoBulkAll {H : Type} : List (DataW H) → Nat
  | [] => 0
  | d :: r => uptoBulk d + uptoBulkAll r
def uptoBulkEntries {H : Type} : List (Lit × DataW H) → Nat
  | [] => 0
  | x :: r => uptoBulkEntry x + uptoBulkEntries r
def uptoBulkEntry {H : Type} : Lit × DataW H → Nat
  | (.string bytes, d) => bytes.length + uptoBulk d + 1
  | (_, d) => uptoBulk d + 1
 end
def uptoSmall : (H : Type) → List (DataW H) → Bool := fun _ ds => decide (uptoBulkAll ds ≤ 1048576)
def OpenSpec.upto (s : _root_.Go.ChangeSpec) : _root_.Go.OpenSpec := { _root_.Go.OpenSpec.ofChange s with cond := some uptoSmall }

/-- 'laws.FnExactClockOk', WHERE WHAT IT READS IS OF BULK AT MOST 1048576: true; the input reads as it did. -/
def fnExactClockOkUptoRow : OpenClaim := { program := "ytcclgcdghnmdfaa", sum := "d160a85c25b3d65fe902c17f2b8c97c4a11050832404408c35f51b64a2279785", func := "loop.example/g00107/laws.FnExactClockOk", spec := "fnExactClockOk", unfollowed := true, recurses := true, apart := false, narrowed := true }
def FnExactClockOkUptoSaid : Prop := fnExactClockOkUptoRow.holds Try.pinned (OpenSpec.upto fnExactClockOkSpec)

/-- 'laws.FnExactClockSet', WHERE WHAT IT READS IS OF BULK AT MOST 1048576: true; the input reads as it did. -/
def fnExactClockSetUptoRow : OpenClaim := { program := "ytcclgcdghnmdfaa", sum := "d160a85c25b3d65fe902c17f2b8c97c4a11050832404408c35f51b64a2279785", func := "loop.example/g00107/laws.FnExactClockSet", spec := "fnExactClockSet", unfollowed := true, recurses := true, apart := false, narrowed := true }
def FnExactClockSetUptoSaid : Prop := fnExactClockSetUptoRow.holds Try.pinned (OpenSpec.upto fnExactClockSetSpec)

/-- 'laws.FnExactClockStop', WHERE WHAT IT READS IS OF BULK AT MOST 1048576: true; the input reads as it did. -/
def fnExactClockStopUptoRow : OpenClaim := { program := "ytcclgcdghnmdfaa", sum := "d160a85c25b3d65fe902c17f2b8c97c4a11050832404408c35f51b64a2279785", func := "loop.example/g00107/laws.FnExactClockStop", spec := "fnExactClockStop", unfollowed := true, recurses := true, apart := false, narrowed := true }
def FnExactClockStopUptoSaid : Prop := fnExactClockStopUptoRow.holds Try.pinned (OpenSpec.upto fnExactClockStopSpec)

/-- 'laws.FnExactClockGo', WHERE WHAT IT READS IS OF BULK AT MOST 1048576: true; the input reads as it did. -/
def fnExactClockGoUptoRow : OpenClaim := { program := "ytcclgcdghnmdfaa", sum := "d160a85c25b3d65fe902c17f2b8c97c4a11050832404408c35f51b64a2279785", func := "loop.example/g00107/laws.FnExactClockGo", spec := "fnExactClockGo", unfollowed := true, recurses := true, apart := false, narrowed := true }
def FnExactClockGoUptoSaid : Prop := fnExactClockGoUptoRow.holds Try.pinned (OpenSpec.upto fnExactClockGoSpec)

/-- 'laws.FnExactClockNext', WHERE WHAT IT READS IS OF BULK AT MOST 1048576: true; the input reads as it did. -/
def fnExactClockNextUptoRow : OpenClaim := { program := "ytcclgcdghnmdfaa", sum := "d160a85c25b3d65fe902c17f2b8c97c4a11050832404408c35f51b64a2279785", func := "loop.example/g00107/laws.FnExactClockNext", spec := "fnExactClockNext", unfollowed := true, recurses := true, apart := false, narrowed := true }
def FnExactClockNextUptoSaid : Prop := fnExactClockNextUptoRow.holds Try.pinned (OpenSpec.upto fnExactClockNextSpec)

/-- 'laws.FnExactClockRun', WHERE WHAT IT READS IS OF BULK AT MOST 1048576: true; the input reads as it did. -/
def fnExactClockRunUptoRow : OpenClaim := { program := "ytcclgcdghnmdfaa", sum := "d160a85c25b3d65fe902c17f2b8c97c4a11050832404408c35f51b64a2279785", func := "loop.example/g00107/laws.FnExactClockRun", spec := "fnExactClockRun", unfollowed := true, recurses := true, apart := false, narrowed := true }
def FnExactClockRunUptoSaid : Prop := fnExactClockRunUptoRow.holds Try.pinned (OpenSpec.upto fnExactClockRunSpec)

end Rows
end Go.Proofs.Ytcclgcdghnmdfaa
