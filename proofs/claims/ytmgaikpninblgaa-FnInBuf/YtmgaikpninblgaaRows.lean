/-
  No cell of these rows narrows 'for every input' (looked for: loops, veiled, ifaces, maps, wideKeys, modest, calm, conditions, laid).
  DERIVED. THE GIVEN ROWS OF THIS SEAT. 3 by the template 'for every input the law returns true; each argument reads behind the call as it read before'; 0 by the template 'total and deterministic' (their statements: YtmgaikpninblgaaTotals.lean).
  GIVEN WITH THE SEED: the statements are not yours to turn. If you find one false, say at which input.
  Laid BY PROGRAM, IN A SANDBOX (cutbox-rows.mjs): the forced cells as the released guide's own fill.sh prints them over the translation b2d06b8c41359d5f… (all of the seat's roots in one cut). By AI agents, Wed Nov 11 2026. No macro, syntax, notation, axiom, sorry.
-/
import Derived.Test.YtmgaikpninblgaaChecked
import GoSem.Claim
import GoSem.ClaimJoined
import GoSem.ClaimMapViews
import Derived.JoinedTies
import Derived.KernelRfl
namespace Go.Proofs.Ytmgaikpninblgaa
/- THE CELL 'sum', in the pinned program and in every row, IS THE sha256 OF THE DUMP (.gsa) THAT YtmgaikpninblgaaProg.lean LOADS. Nothing in Lean hashes anything: it is a label: what it is worth is what the hold of that sum in a sandbox is worth. -/
noncomputable def Try.pinned : Pinned := { name := "ytmgaikpninblgaa", sum := "b2d06b8c41359d5fa0ed08db5ba9a51b02792026862355a0fcdcdee05ee40b86", checked := Try.checked }
namespace Rows
def none {H : Type} : Left H := { results := [], args := [] }

/-- 'laws.FnInBuf': WHATEVER THE INPUT: true; the input reads as it did. -/
def fnInBufSpec : ChangeSpec := { name := "fnInBuf", fn := fun _ => fun
  | [d] => { results := [.lit (.bool true)], args := [d] }
  | _ => none }
def fnInBufRow : OpenClaim := { program := "ytmgaikpninblgaa", sum := "b2d06b8c41359d5fa0ed08db5ba9a51b02792026862355a0fcdcdee05ee40b86", func := "loop.example/g00107/laws.FnInBuf", spec := "fnInBuf", apart := false }
def FnInBufSaid : Prop := fnInBufRow.holds Try.pinned (OpenSpec.ofChange fnInBufSpec)

/-- ITS FALSE NEIGHBOUR: 'it returns false'. Refute it at one input. -/
def fnInBufWrong : ChangeSpec := { name := "fnInBuf", fn := fun _ => fun
  | [d] => { results := [.lit (.bool false)], args := [d] }
  | _ => none }
def FnInBufWrongFalsely : Prop := fnInBufRow.holds Try.pinned (OpenSpec.ofChange fnInBufWrong)

/-- 'laws.FnExactInPut': WHATEVER THE INPUT: true; the input reads as it did. -/
def fnExactInPutSpec : ChangeSpec := { name := "fnExactInPut", fn := fun _ => fun
  | [d1, d2, d3] => { results := [.lit (.bool true)], args := [d1, d2, d3] }
  | _ => none }
def fnExactInPutRow : OpenClaim := { program := "ytmgaikpninblgaa", sum := "b2d06b8c41359d5fa0ed08db5ba9a51b02792026862355a0fcdcdee05ee40b86", func := "loop.example/g00107/laws.FnExactInPut", spec := "fnExactInPut", apart := false }
def FnExactInPutSaid : Prop := fnExactInPutRow.holds Try.pinned (OpenSpec.ofChange fnExactInPutSpec)

/-- ITS FALSE NEIGHBOUR: 'it returns false'. Refute it at one input. -/
def fnExactInPutWrong : ChangeSpec := { name := "fnExactInPut", fn := fun _ => fun
  | [d1, d2, d3] => { results := [.lit (.bool false)], args := [d1, d2, d3] }
  | _ => none }
def FnExactInPutWrongFalsely : Prop := fnExactInPutRow.holds Try.pinned (OpenSpec.ofChange fnExactInPutWrong)

/-- 'laws.FnExactInRead': WHATEVER THE INPUT: true; the input reads as it did. -/
def fnExactInReadSpec : ChangeSpec := { name := "fnExactInRead", fn := fun _ => fun
  | [d1, d2] => { results := [.lit (.bool true)], args := [d1, d2] }
  | _ => none }
def fnExactInReadRow : OpenClaim := { program := "ytmgaikpninblgaa", sum := "b2d06b8c41359d5fa0ed08db5ba9a51b02792026862355a0fcdcdee05ee40b86", func := "loop.example/g00107/laws.FnExactInRead", spec := "fnExactInRead", apart := false }
def FnExactInReadSaid : Prop := fnExactInReadRow.holds Try.pinned (OpenSpec.ofChange fnExactInReadSpec)

/-- ITS FALSE NEIGHBOUR: 'it returns false'. Refute it at one input. -/
def fnExactInReadWrong : ChangeSpec := { name := "fnExactInRead", fn := fun _ => fun
  | [d1, d2] => { results := [.lit (.bool false)], args := [d1, d2] }
  | _ => none }
def FnExactInReadWrongFalsely : Prop := fnExactInReadRow.holds Try.pinned (OpenSpec.ofChange fnExactInReadWrong)

/- THE SECOND FORM. 'bulk': how many values and letters a reading holds, each counted each time it is reached (what is shared counts as often as it is met; a slice's spare places count too). A statement '..UptoSaid' is the law's where the arguments, and the package variables that the reading takes, are together of bulk at most 1048576: NARROWER than '..Said'. Prove '..Said' where nothing that the law and all that it calls make is longer than what came in: it says more and counts as full. Else prove '..UptoSaid'. A law counts once. -/
mutual
def uptoBulk {H : Type} : DataW H → Nat
  | .lit (.string bytes) => bytes.length + 1
  | .lit _ => 1
  | .nil => 1
  | .ptr d => uptoBulk d + 1
  | .slice elems spare => uptoBulkAll elems + uptoBulkAll spare + 1
  | .agg parts => uptoBulkAll parts + 1
  | .iface _ d => uptoBulk d + 1
  | .map entries => uptoBulkEntries entries + 1
  | .held _ => 1
def uptoBulkAll {H : Type} : List (DataW H) → Nat
  | [] => 0
  | d :: r => uptoBulk d + uptoBulkAll r
def uptoBulkEntries {H : Type} : List (Lit × DataW H) → Nat
  | [] => 0
  | x :: r => uptoBulkEntry x + uptoBulkEntries r
def uptoBulkEntry {H : Type} : Lit × DataW H → Nat
  | (.string bytes, d) => bytes.length + uptoBulk d + 1
  | (_, d) => uptoBulk d + 1
 end
def uptoSmall : (H : Type) → List (DataW H) → Bool := fun _ ds => decide (uptoBulkAll ds ≤ 1048576)
def OpenSpec.upto (s : _root_.Go.ChangeSpec) : _root_.Go.OpenSpec := { _root_.Go.OpenSpec.ofChange s with cond := some uptoSmall }

/-- 'laws.FnInBuf', WHERE WHAT IT READS IS OF BULK AT MOST 1048576: true; the input reads as it did. -/
def fnInBufUptoRow : OpenClaim := { program := "ytmgaikpninblgaa", sum := "b2d06b8c41359d5fa0ed08db5ba9a51b02792026862355a0fcdcdee05ee40b86", func := "loop.example/g00107/laws.FnInBuf", spec := "fnInBuf", apart := false, narrowed := true }
def FnInBufUptoSaid : Prop := fnInBufUptoRow.holds Try.pinned (OpenSpec.upto fnInBufSpec)

/-- 'laws.FnExactInPut', WHERE WHAT IT READS IS OF BULK AT MOST 1048576: true; the input reads as it did. -/
def fnExactInPutUptoRow : OpenClaim := { program := "ytmgaikpninblgaa", sum := "b2d06b8c41359d5fa0ed08db5ba9a51b02792026862355a0fcdcdee05ee40b86", func := "loop.example/g00107/laws.FnExactInPut", spec := "fnExactInPut", apart := false, narrowed := true }
def FnExactInPutUptoSaid : Prop := fnExactInPutUptoRow.holds Try.pinned (OpenSpec.upto fnExactInPutSpec)

/-- 'laws.FnExactInRead', WHERE WHAT IT READS IS OF BULK AT MOST 1048576: true; the input reads as it did. -/
def fnExactInReadUptoRow : OpenClaim := { program := "ytmgaikpninblgaa", sum := "b2d06b8c41359d5fa0ed08db5ba9a51b02792026862355a0fcdcdee05ee40b86", func := "loop.example/g00107/laws.FnExactInRead", spec := "fnExactInRead", apart := false, narrowed := true }
def FnExactInReadUptoSaid : Prop := fnExactInReadUptoRow.holds Try.pinned (OpenSpec.upto fnExactInReadSpec)

end Rows
end Go.Proofs.Ytmgaikpninblgaa
