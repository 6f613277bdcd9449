/-
  No cell of these rows narrows 'for every input' (looked for: loops, veiled, ifaces, maps, wideKeys, modest, calm, conditions, laid).
  DERIVED. THE GIVEN ROWS OF THIS SEAT. 2 by the template 'for every input the law returns true; each argument reads behind the call as it read before'; 0 by the template 'total and deterministic' (their statements: YtneicghhggidnabTotals.lean).
  GIVEN WITH THE SEED: the statements are not yours to turn. If you find one false, say at which input.
  Laid BY PROGRAM, IN A SANDBOX (cutbox-rows.mjs): the forced cells as the released guide's own fill.sh prints them over the translation 846f998e459dd75b… (all of the seat's roots in one cut). By AI agents, Wed Nov 11 2026. No macro, syntax, notation, axiom, sorry.
-/
import Derived.Test.YtneicghhggidnabChecked
import GoSem.Claim
import GoSem.ClaimJoined
import GoSem.ClaimMapViews
import Derived.JoinedTies
import Derived.KernelRfl
namespace Go.Proofs.Ytneicghhggidnab
/- THE CELL 'sum', in the pinned program and in every row, IS THE sha256 OF THE DUMP (.gsa) THAT YtneicghhggidnabProg.lean LOADS. Nothing in Lean hashes anything: it is a label: what it is worth is what the hold of that sum in a sandbox is worth. -/
noncomputable def Try.pinned : Pinned := { name := "ytneicghhggidnab", sum := "846f998e459dd75b3f3af0a3b6275e6d2bef73683c11a9a9ab0077eb518ba90f", checked := Try.checked }
namespace Rows
def none {H : Type} : Left H := { results := [], args := [] }

/-- 'laws.FnExactPutDatagram': WHATEVER THE INPUT: true; the input reads as it did. -/
def fnExactPutDatagramSpec : ChangeSpec := { name := "fnExactPutDatagram", fn := fun _ => fun
  | [d1, d2, d3, d4] => { results := [.lit (.bool true)], args := [d1, d2, d3, d4] }
  | _ => none }
def fnExactPutDatagramRow : OpenClaim := { program := "ytneicghhggidnab", sum := "846f998e459dd75b3f3af0a3b6275e6d2bef73683c11a9a9ab0077eb518ba90f", func := "loop.example/g00107/laws.FnExactPutDatagram", spec := "fnExactPutDatagram", unfollowed := true, recurses := true, apart := false }
def FnExactPutDatagramSaid : Prop := fnExactPutDatagramRow.holds Try.pinned (OpenSpec.ofChange fnExactPutDatagramSpec)

/-- ITS FALSE NEIGHBOUR: 'it returns false'. Refute it at one input. -/
def fnExactPutDatagramWrong : ChangeSpec := { name := "fnExactPutDatagram", fn := fun _ => fun
  | [d1, d2, d3, d4] => { results := [.lit (.bool false)], args := [d1, d2, d3, d4] }
  | _ => none }
def FnExactPutDatagramWrongFalsely : Prop := fnExactPutDatagramRow.holds Try.pinned (OpenSpec.ofChange fnExactPutDatagramWrong)

/-- 'laws.FnExactGetDatagram': WHATEVER THE INPUT: true; the input reads as it did. -/
def fnExactGetDatagramSpec : ChangeSpec := { name := "fnExactGetDatagram", fn := fun _ => fun
  | [d] => { results := [.lit (.bool true)], args := [d] }
  | _ => none }
def fnExactGetDatagramRow : OpenClaim := { program := "ytneicghhggidnab", sum := "846f998e459dd75b3f3af0a3b6275e6d2bef73683c11a9a9ab0077eb518ba90f", func := "loop.example/g00107/laws.FnExactGetDatagram", spec := "fnExactGetDatagram", unfollowed := true, recurses := true, apart := false }
def FnExactGetDatagramSaid : Prop := fnExactGetDatagramRow.holds Try.pinned (OpenSpec.ofChange fnExactGetDatagramSpec)

/-- ITS FALSE NEIGHBOUR: 'it returns false'. Refute it at one input. -/
def fnExactGetDatagramWrong : ChangeSpec := { name := "fnExactGetDatagram", fn := fun _ => fun
  | [d] => { results := [.lit (.bool false)], args := [d] }
  | _ => none }
def FnExactGetDatagramWrongFalsely : Prop := fnExactGetDatagramRow.holds Try.pinned (OpenSpec.ofChange fnExactGetDatagramWrong)

/- THE SECOND FORM. 'bulk': how many values and letters a reading holds, each counted each time it is reached (what is shared counts as often as it is met; a slice's spare places count too). A statement '..UptoSaid' is the law's where the arguments, and the package variables that the reading takes, are together of bulk at most 1048576: NARROWER than '..Said'. Prove '..Said' where nothing that the law and all that it calls make is longer than what came in: it says more and counts as full. Else prove '..UptoSaid'. A law counts once. -/
mutual
def uptoBulk {H : Type} : DataW H → Nat
  | .lit (.string bytes) => bytes.length + 1
  | .lit _ => 1
  | .nil => 1
  | .ptr d => uptoBulk d + 1
  | .slice elems spare => uptoBulkAll elems + uptoBulkAll spare + 1
  | .agg parts => uptoBulkAll parts + 1
  | .iface _ d => uptoBulk d + 1
  | .map entries => uptoBulkEntries entries + 1
  | .held _ => 1
def uptoBulkAll {H : Type} : List (DataW H) → Nat
  | [] => 0
  | d :: r => uptoBulk d + uptoBulkAll r
def uptoBulkEntries {H : Type} : List (Lit × DataW H) → Nat
  | [] => 0
  | x :: r => uptoBulkEntry x + uptoBulkEntries r
def uptoBulkEntry {H : Type} : Lit × DataW H → Nat
  | (.string bytes, d) => bytes.length + uptoBulk d + 1
  | (_, d) => uptoBulk d + 1
 end
def uptoSmall : (H : Type) → List (DataW H) → Bool := fun _ ds => decide (uptoBulkAll ds ≤ 1048576)
def OpenSpec.upto (s : _root_.Go.ChangeSpec) : _root_.Go.OpenSpec := { _root_.Go.OpenSpec.ofChange s with cond := some uptoSmall }

/-- 'laws.FnExactPutDatagram', WHERE WHAT IT READS IS OF BULK AT MOST 1048576: true; the input reads as it did. -/
def fnExactPutDatagramUptoRow : OpenClaim := { program := "ytneicghhggidnab", sum := "846f998e459dd75b3f3af0a3b6275e6d2bef73683c11a9a9ab0077eb518ba90f", func := "loop.example/g00107/laws.FnExactPutDatagram", spec := "fnExactPutDatagram", unfollowed := true, recurses := true, apart := false, narrowed := true }
def FnExactPutDatagramUptoSaid : Prop := fnExactPutDatagramUptoRow.holds Try.pinned (OpenSpec.upto fnExactPutDatagramSpec)

/-- 'laws.FnExactGetDatagram', WHERE WHAT IT READS IS OF BULK AT MOST 1048576: true; the input reads as it did. -/
def fnExactGetDatagramUptoRow : OpenClaim := { program := "ytneicghhggidnab", sum := "846f998e459dd75b3f3af0a3b6275e6d2bef73683c11a9a9ab0077eb518ba90f", func := "loop.example/g00107/laws.FnExactGetDatagram", spec := "fnExactGetDatagram", unfollowed := true, recurses := true, apart := false, narrowed := true }
def FnExactGetDatagramUptoSaid : Prop := fnExactGetDatagramUptoRow.holds Try.pinned (OpenSpec.upto fnExactGetDatagramSpec)

end Rows
end Go.Proofs.Ytneicghhggidnab
