/-
  No cell of these rows narrows 'for every input' (looked for: loops, veiled, ifaces, maps, wideKeys, modest, calm, conditions, laid).
  DERIVED. THE GIVEN ROWS OF THIS SEAT. 6 by the template 'for every input the law returns true; each argument reads behind the call as it read before'; 0 by the template 'total and deterministic' (their statements: YtelinafcekacfaaTotals.lean).
  GIVEN WITH THE SEED: the statements are not yours to turn. If you find one false, say at which input.
  Laid BY PROGRAM, IN A SANDBOX (cutbox-rows.mjs): the forced cells as the released guide's own fill.sh prints them over the translation 33315d8b20f0b975… (all of the seat's roots in one cut). By AI agents, Wed Nov 11 2026. No macro, syntax, notation, axiom, sorry.
-/
import Derived.Test.YtelinafcekacfaaChecked
import GoSem.Claim
import GoSem.ClaimJoined
import GoSem.ClaimMapViews
import Derived.JoinedTies
import Derived.KernelRfl
namespace Go.Proofs.Ytelinafcekacfaa
/- THE CELL 'sum', in the pinned program and in every row, IS THE sha256 OF THE DUMP (.gsa) THAT YtelinafcekacfaaProg.lean LOADS. Nothing in Lean hashes anything: it is a label: what it is worth is what the hold of that sum in a sandbox is worth. -/
noncomputable def Try.pinned : Pinned := { name := "ytelinafcekacfaa", sum := "33315d8b20f0b9754581cb10f9a432007f69f572ab95cc51589eef011f8ffbd9", checked := Try.checked }
namespace Rows
def none {H : Type} : Left H := { results := [], args := [] }

/-- 'laws.FnSum': WHATEVER THE INPUT: true; the input reads as it did. -/
def fnSumSpec : ChangeSpec := { name := "fnSum", fn := fun _ => fun
  | [d] => { results := [.lit (.bool true)], args := [d] }
  | _ => none }
def fnSumRow : OpenClaim := { program := "ytelinafcekacfaa", sum := "33315d8b20f0b9754581cb10f9a432007f69f572ab95cc51589eef011f8ffbd9", func := "loop.example/g00107/laws.FnSum", spec := "fnSum", unfollowed := true, recurses := true, apart := false }
def FnSumSaid : Prop := fnSumRow.holds Try.pinned (OpenSpec.ofChange fnSumSpec)

/-- ITS FALSE NEIGHBOUR: 'it returns false'. Refute it at one input. -/
def fnSumWrong : ChangeSpec := { name := "fnSum", fn := fun _ => fun
  | [d] => { results := [.lit (.bool false)], args := [d] }
  | _ => none }
def FnSumWrongFalsely : Prop := fnSumRow.holds Try.pinned (OpenSpec.ofChange fnSumWrong)

/-- 'laws.FnExactOnesSum': WHATEVER THE INPUT: true; the input reads as it did. -/
def fnExactOnesSumSpec : ChangeSpec := { name := "fnExactOnesSum", fn := fun _ => fun
  | [d] => { results := [.lit (.bool true)], args := [d] }
  | _ => none }
def fnExactOnesSumRow : OpenClaim := { program := "ytelinafcekacfaa", sum := "33315d8b20f0b9754581cb10f9a432007f69f572ab95cc51589eef011f8ffbd9", func := "loop.example/g00107/laws.FnExactOnesSum", spec := "fnExactOnesSum", unfollowed := true, recurses := true, apart := false }
def FnExactOnesSumSaid : Prop := fnExactOnesSumRow.holds Try.pinned (OpenSpec.ofChange fnExactOnesSumSpec)

/-- ITS FALSE NEIGHBOUR: 'it returns false'. Refute it at one input. -/
def fnExactOnesSumWrong : ChangeSpec := { name := "fnExactOnesSum", fn := fun _ => fun
  | [d] => { results := [.lit (.bool false)], args := [d] }
  | _ => none }
def FnExactOnesSumWrongFalsely : Prop := fnExactOnesSumRow.holds Try.pinned (OpenSpec.ofChange fnExactOnesSumWrong)

/-- 'laws.FnExactChecksum': WHATEVER THE INPUT: true; the input reads as it did. -/
def fnExactChecksumSpec : ChangeSpec := { name := "fnExactChecksum", fn := fun _ => fun
  | [d] => { results := [.lit (.bool true)], args := [d] }
  | _ => none }
def fnExactChecksumRow : OpenClaim := { program := "ytelinafcekacfaa", sum := "33315d8b20f0b9754581cb10f9a432007f69f572ab95cc51589eef011f8ffbd9", func := "loop.example/g00107/laws.FnExactChecksum", spec := "fnExactChecksum", unfollowed := true, recurses := true, apart := false }
def FnExactChecksumSaid : Prop := fnExactChecksumRow.holds Try.pinned (OpenSpec.ofChange fnExactChecksumSpec)

/-- ITS FALSE NEIGHBOUR: 'it returns false'. Refute it at one input. -/
def fnExactChecksumWrong : ChangeSpec := { name := "fnExactChecksum", fn := fun _ => fun
  | [d] => { results := [.lit (.bool false)], args := [d] }
  | _ => none }
def FnExactChecksumWrongFalsely : Prop := fnExactChecksumRow.holds Try.pinned (OpenSpec.ofChange fnExactChecksumWrong)

/-- 'laws.FnExactSumUpdate': WHATEVER THE INPUT: true; the input reads as it did. -/
def fnExactSumUpdateSpec : ChangeSpec := { name := "fnExactSumUpdate", fn := fun _ => fun
  | [d1, d2, d3] => { results := [.lit (.bool true)], args := [d1, d2, d3] }
  | _ => none }
def fnExactSumUpdateRow : OpenClaim := { program := "ytelinafcekacfaa", sum := "33315d8b20f0b9754581cb10f9a432007f69f572ab95cc51589eef011f8ffbd9", func := "loop.example/g00107/laws.FnExactSumUpdate", spec := "fnExactSumUpdate", apart := false }
def FnExactSumUpdateSaid : Prop := fnExactSumUpdateRow.holds Try.pinned (OpenSpec.ofChange fnExactSumUpdateSpec)

/-- ITS FALSE NEIGHBOUR: 'it returns false'. Refute it at one input. -/
def fnExactSumUpdateWrong : ChangeSpec := { name := "fnExactSumUpdate", fn := fun _ => fun
  | [d1, d2, d3] => { results := [.lit (.bool false)], args := [d1, d2, d3] }
  | _ => none }
def FnExactSumUpdateWrongFalsely : Prop := fnExactSumUpdateRow.holds Try.pinned (OpenSpec.ofChange fnExactSumUpdateWrong)

/-- 'laws.FnExactTurned': WHATEVER THE INPUT: true; the input reads as it did. -/
def fnExactTurnedSpec : ChangeSpec := { name := "fnExactTurned", fn := fun _ => fun
  | [d1, d2, d3] => { results := [.lit (.bool true)], args := [d1, d2, d3] }
  | _ => none }
def fnExactTurnedRow : OpenClaim := { program := "ytelinafcekacfaa", sum := "33315d8b20f0b9754581cb10f9a432007f69f572ab95cc51589eef011f8ffbd9", func := "loop.example/g00107/laws.FnExactTurned", spec := "fnExactTurned", apart := false }
def FnExactTurnedSaid : Prop := fnExactTurnedRow.holds Try.pinned (OpenSpec.ofChange fnExactTurnedSpec)

/-- ITS FALSE NEIGHBOUR: 'it returns false'. Refute it at one input. -/
def fnExactTurnedWrong : ChangeSpec := { name := "fnExactTurned", fn := fun _ => fun
  | [d1, d2, d3] => { results := [.lit (.bool false)], args := [d1, d2, d3] }
  | _ => none }
def FnExactTurnedWrongFalsely : Prop := fnExactTurnedRow.holds Try.pinned (OpenSpec.ofChange fnExactTurnedWrong)

/-- 'laws.FnExactTurnShows': WHATEVER THE INPUT: true; the input reads as it did. -/
def fnExactTurnShowsSpec : ChangeSpec := { name := "fnExactTurnShows", fn := fun _ => fun
  | [d1, d2, d3] => { results := [.lit (.bool true)], args := [d1, d2, d3] }
  | _ => none }
def fnExactTurnShowsRow : OpenClaim := { program := "ytelinafcekacfaa", sum := "33315d8b20f0b9754581cb10f9a432007f69f572ab95cc51589eef011f8ffbd9", func := "loop.example/g00107/laws.FnExactTurnShows", spec := "fnExactTurnShows", unfollowed := true, recurses := true, apart := false }
def FnExactTurnShowsSaid : Prop := fnExactTurnShowsRow.holds Try.pinned (OpenSpec.ofChange fnExactTurnShowsSpec)

/-- ITS FALSE NEIGHBOUR: 'it returns false'. Refute it at one input. -/
def fnExactTurnShowsWrong : ChangeSpec := { name := "fnExactTurnShows", fn := fun _ => fun
  | [d1, d2, d3] => { results := [.lit (.bool false)], args := [d1, d2, d3] }
  | _ => none }
def FnExactTurnShowsWrongFalsely : Prop := fnExactTurnShowsRow.holds Try.pinned (OpenSpec.ofChange fnExactTurnShowsWrong)

/- THE SECOND FORM. 'bulk': how many values and letters a reading holds, each counted each time it is reached (what is shared counts as often as it is met; a slice's spare places count too). A statement '..UptoSaid' is the law's where the arguments, and the package variables that the reading takes, are together of bulk at most 1048576: NARROWER than '..Said'. Prove '..Said' where nothing that the law and all that it calls make is longer than what came in: it says more and counts as full. Else prove '..UptoSaid'. A law counts once. -/
mutual
def uptoBulk {H : Type} : DataW H → Nat
  | .lit (.string bytes) => bytes.length + 1
  | .lit _ => 1
  | .nil => 1
  | .ptr d => uptoBulk d + 1
  | .slice elems spare => uptoBulkAll elems + uptoBulkAll spare + 1
  | .agg parts => uptoBulkAll parts + 1
  | .iface _ d => uptoBulk d + 1
  | .map entries => uptoBulkEntries entries + 1
  | .held _ => 1
def uptoBulkAll {H : Type} : List (DataW H) → Nat
  | [] => 0
  | d :: r => uptoBulk d + uptoBulkAll r
def uptoBulkEntries {H : Type} : List (Lit × DataW H) → Nat
  | [] => 0
  | x :: r => uptoBulkEntry x + uptoBulkEntries r
def uptoBulkEntry {H : Type} : Lit × DataW H → Nat
  | (.string bytes, d) => bytes.length + uptoBulk d + 1
  | (_, d) => uptoBulk d + 1
 end
def uptoSmall : (H : Type) → List (DataW H) → Bool := fun _ ds => decide (uptoBulkAll ds ≤ 1048576)
def OpenSpec.upto (s : _root_.Go.ChangeSpec) : _root_.Go.OpenSpec := { _root_.Go.OpenSpec.ofChange s with cond := some uptoSmall }

/-- 'laws.FnSum', WHERE WHAT IT READS IS OF BULK AT MOST 1048576: true; the input reads as it did. -/
def fnSumUptoRow : OpenClaim := { program := "ytelinafcekacfaa", sum := "33315d8b20f0b9754581cb10f9a432007f69f572ab95cc51589eef011f8ffbd9", func := "loop.example/g00107/laws.FnSum", spec := "fnSum", unfollowed := true, recurses := true, apart := false, narrowed := true }
def FnSumUptoSaid : Prop := fnSumUptoRow.holds Try.pinned (OpenSpec.upto fnSumSpec)

/-- 'laws.FnExactOnesSum', WHERE WHAT IT READS IS OF BULK AT MOST 1048576: true; the input reads as it did. -/
def fnExactOnesSumUptoRow : OpenClaim := { program := "ytelinafcekacfaa", sum := "33315d8b20f0b9754581cb10f9a432007f69f572ab95cc51589eef011f8ffbd9", func := "loop.example/g00107/laws.FnExactOnesSum", spec := "fnExactOnesSum", unfollowed := true, recurses := true, apart := false, narrowed := true }
def FnExactOnesSumUptoSaid : Prop := fnExactOnesSumUptoRow.holds Try.pinned (OpenSpec.upto fnExactOnesSumSpec)

/-- 'laws.FnExactChecksum', WHERE WHAT IT READS IS OF BULK AT MOST 1048576: true; the input reads as it did. -/
def fnExactChecksumUptoRow : OpenClaim := { program := "ytelinafcekacfaa", sum := "33315d8b20f0b9754581cb10f9a432007f69f572ab95cc51589eef011f8ffbd9", func := "loop.example/g00107/laws.FnExactChecksum", spec := "fnExactChecksum", unfollowed := true, recurses := true, apart := false, narrowed := true }
def FnExactChecksumUptoSaid : Prop := fnExactChecksumUptoRow.holds Try.pinned (OpenSpec.upto fnExactChecksumSpec)

/-- 'laws.FnExactSumUpdate', WHERE WHAT IT READS IS OF BULK AT MOST 1048576: true; the input reads as it did. -/
def fnExactSumUpdateUptoRow : OpenClaim := { program := "ytelinafcekacfaa", sum := "33315d8b20f0b9754581cb10f9a432007f69f572ab95cc51589eef011f8ffbd9", func := "loop.example/g00107/laws.FnExactSumUpdate", spec := "fnExactSumUpdate", apart := false, narrowed := true }
def FnExactSumUpdateUptoSaid : Prop := fnExactSumUpdateUptoRow.holds Try.pinned (OpenSpec.upto fnExactSumUpdateSpec)

/-- 'laws.FnExactTurned', WHERE WHAT IT READS IS OF BULK AT MOST 1048576: true; the input reads as it did. -/
def fnExactTurnedUptoRow : OpenClaim := { program := "ytelinafcekacfaa", sum := "33315d8b20f0b9754581cb10f9a432007f69f572ab95cc51589eef011f8ffbd9", func := "loop.example/g00107/laws.FnExactTurned", spec := "fnExactTurned", apart := false, narrowed := true }
def FnExactTurnedUptoSaid : Prop := fnExactTurnedUptoRow.holds Try.pinned (OpenSpec.upto fnExactTurnedSpec)

/-- 'laws.FnExactTurnShows', WHERE WHAT IT READS IS OF BULK AT MOST 1048576: true; the input reads as it did. -/
def fnExactTurnShowsUptoRow : OpenClaim := { program := "ytelinafcekacfaa", sum := "33315d8b20f0b9754581cb10f9a432007f69f572ab95cc51589eef011f8ffbd9", func := "loop.example/g00107/laws.FnExactTurnShows", spec := "fnExactTurnShows", unfollowed := true, recurses := true, apart := false, narrowed := true }
def FnExactTurnShowsUptoSaid : Prop := fnExactTurnShowsUptoRow.holds Try.pinned (OpenSpec.upto fnExactTurnShowsSpec)

end Rows
end Go.Proofs.Ytelinafcekacfaa
