/-
  No cell of these rows narrows 'for every input' (looked for: loops, veiled, ifaces, maps, wideKeys, modest, calm, conditions, laid).
  DERIVED. THE GIVEN ROWS OF THIS SEAT. 6 by the template 'for every input the law returns true; each argument reads behind the call as it read before'; 0 by the template 'total and deterministic' (their statements: YtakcalmmbknobaaTotals.lean).
  GIVEN WITH THE SEED: the statements are not yours to turn. If you find one false, say at which input.
  Laid BY PROGRAM, IN A SANDBOX (cutbox-rows.mjs): the forced cells as the released guide's own fill.sh prints them over the translation c8576117af576b7d… (all of the seat's roots in one cut). By AI agents, Wed Nov 11 2026. No macro, syntax, notation, axiom, sorry.
-/
import Derived.Test.YtakcalmmbknobaaChecked
import GoSem.Claim
import GoSem.ClaimJoined
import GoSem.ClaimMapViews
import Derived.JoinedTies
import Derived.KernelRfl
namespace Go.Proofs.Ytakcalmmbknobaa
/- THE CELL 'sum', in the pinned program and in every row, IS THE sha256 OF THE DUMP (.gsa) THAT YtakcalmmbknobaaProg.lean LOADS. Nothing in Lean hashes anything: it is a label: what it is worth is what the hold of that sum in a sandbox is worth. -/
noncomputable def Try.pinned : Pinned := { name := "ytakcalmmbknobaa", sum := "c8576117af576b7d6ac4db6e0232559b3f1d93149f62240b07a2121d87e9fb91", checked := Try.checked }
namespace Rows
def none {H : Type} : Left H := { results := [], args := [] }

/-- 'laws.FnPress': WHATEVER THE INPUT: true; the input reads as it did. -/
def fnPressSpec : ChangeSpec := { name := "fnPress", fn := fun _ => fun
  | [d] => { results := [.lit (.bool true)], args := [d] }
  | _ => none }
def fnPressRow : OpenClaim := { program := "ytakcalmmbknobaa", sum := "c8576117af576b7d6ac4db6e0232559b3f1d93149f62240b07a2121d87e9fb91", func := "loop.example/g00107/laws.FnPress", spec := "fnPress", unfollowed := true, recurses := true, apart := false }
def FnPressSaid : Prop := fnPressRow.holds Try.pinned (OpenSpec.ofChange fnPressSpec)

/-- ITS FALSE NEIGHBOUR: 'it returns false'. Refute it at one input. -/
def fnPressWrong : ChangeSpec := { name := "fnPress", fn := fun _ => fun
  | [d] => { results := [.lit (.bool false)], args := [d] }
  | _ => none }
def FnPressWrongFalsely : Prop := fnPressRow.holds Try.pinned (OpenSpec.ofChange fnPressWrong)

/-- 'laws.FnExactCongStart': WHATEVER THE INPUT: true; the input reads as it did. -/
def fnExactCongStartSpec : ChangeSpec := { name := "fnExactCongStart", fn := fun _ => fun
  | [d] => { results := [.lit (.bool true)], args := [d] }
  | _ => none }
def fnExactCongStartRow : OpenClaim := { program := "ytakcalmmbknobaa", sum := "c8576117af576b7d6ac4db6e0232559b3f1d93149f62240b07a2121d87e9fb91", func := "loop.example/g00107/laws.FnExactCongStart", spec := "fnExactCongStart", apart := false }
def FnExactCongStartSaid : Prop := fnExactCongStartRow.holds Try.pinned (OpenSpec.ofChange fnExactCongStartSpec)

/-- ITS FALSE NEIGHBOUR: 'it returns false'. Refute it at one input. -/
def fnExactCongStartWrong : ChangeSpec := { name := "fnExactCongStart", fn := fun _ => fun
  | [d] => { results := [.lit (.bool false)], args := [d] }
  | _ => none }
def FnExactCongStartWrongFalsely : Prop := fnExactCongStartRow.holds Try.pinned (OpenSpec.ofChange fnExactCongStartWrong)

/-- 'laws.FnExactCongOk': WHATEVER THE INPUT: true; the input reads as it did. -/
def fnExactCongOkSpec : ChangeSpec := { name := "fnExactCongOk", fn := fun _ => fun
  | [d] => { results := [.lit (.bool true)], args := [d] }
  | _ => none }
def fnExactCongOkRow : OpenClaim := { program := "ytakcalmmbknobaa", sum := "c8576117af576b7d6ac4db6e0232559b3f1d93149f62240b07a2121d87e9fb91", func := "loop.example/g00107/laws.FnExactCongOk", spec := "fnExactCongOk", apart := false }
def FnExactCongOkSaid : Prop := fnExactCongOkRow.holds Try.pinned (OpenSpec.ofChange fnExactCongOkSpec)

/-- ITS FALSE NEIGHBOUR: 'it returns false'. Refute it at one input. -/
def fnExactCongOkWrong : ChangeSpec := { name := "fnExactCongOk", fn := fun _ => fun
  | [d] => { results := [.lit (.bool false)], args := [d] }
  | _ => none }
def FnExactCongOkWrongFalsely : Prop := fnExactCongOkRow.holds Try.pinned (OpenSpec.ofChange fnExactCongOkWrong)

/-- 'laws.FnExactCongAck': WHATEVER THE INPUT: true; the input reads as it did. -/
def fnExactCongAckSpec : ChangeSpec := { name := "fnExactCongAck", fn := fun _ => fun
  | [d1, d2, d3] => { results := [.lit (.bool true)], args := [d1, d2, d3] }
  | _ => none }
def fnExactCongAckRow : OpenClaim := { program := "ytakcalmmbknobaa", sum := "c8576117af576b7d6ac4db6e0232559b3f1d93149f62240b07a2121d87e9fb91", func := "loop.example/g00107/laws.FnExactCongAck", spec := "fnExactCongAck", unfollowed := true, recurses := true, apart := false }
def FnExactCongAckSaid : Prop := fnExactCongAckRow.holds Try.pinned (OpenSpec.ofChange fnExactCongAckSpec)

/-- ITS FALSE NEIGHBOUR: 'it returns false'. Refute it at one input. -/
def fnExactCongAckWrong : ChangeSpec := { name := "fnExactCongAck", fn := fun _ => fun
  | [d1, d2, d3] => { results := [.lit (.bool false)], args := [d1, d2, d3] }
  | _ => none }
def FnExactCongAckWrongFalsely : Prop := fnExactCongAckRow.holds Try.pinned (OpenSpec.ofChange fnExactCongAckWrong)

/-- 'laws.FnExactCongDup': WHATEVER THE INPUT: true; the input reads as it did. -/
def fnExactCongDupSpec : ChangeSpec := { name := "fnExactCongDup", fn := fun _ => fun
  | [d1, d2, d3] => { results := [.lit (.bool true)], args := [d1, d2, d3] }
  | _ => none }
def fnExactCongDupRow : OpenClaim := { program := "ytakcalmmbknobaa", sum := "c8576117af576b7d6ac4db6e0232559b3f1d93149f62240b07a2121d87e9fb91", func := "loop.example/g00107/laws.FnExactCongDup", spec := "fnExactCongDup", unfollowed := true, recurses := true, apart := false }
def FnExactCongDupSaid : Prop := fnExactCongDupRow.holds Try.pinned (OpenSpec.ofChange fnExactCongDupSpec)

/-- ITS FALSE NEIGHBOUR: 'it returns false'. Refute it at one input. -/
def fnExactCongDupWrong : ChangeSpec := { name := "fnExactCongDup", fn := fun _ => fun
  | [d1, d2, d3] => { results := [.lit (.bool false)], args := [d1, d2, d3] }
  | _ => none }
def FnExactCongDupWrongFalsely : Prop := fnExactCongDupRow.holds Try.pinned (OpenSpec.ofChange fnExactCongDupWrong)

/-- 'laws.FnExactCongLost': WHATEVER THE INPUT: true; the input reads as it did. -/
def fnExactCongLostSpec : ChangeSpec := { name := "fnExactCongLost", fn := fun _ => fun
  | [d1, d2] => { results := [.lit (.bool true)], args := [d1, d2] }
  | _ => none }
def fnExactCongLostRow : OpenClaim := { program := "ytakcalmmbknobaa", sum := "c8576117af576b7d6ac4db6e0232559b3f1d93149f62240b07a2121d87e9fb91", func := "loop.example/g00107/laws.FnExactCongLost", spec := "fnExactCongLost", apart := false }
def FnExactCongLostSaid : Prop := fnExactCongLostRow.holds Try.pinned (OpenSpec.ofChange fnExactCongLostSpec)

/-- ITS FALSE NEIGHBOUR: 'it returns false'. Refute it at one input. -/
def fnExactCongLostWrong : ChangeSpec := { name := "fnExactCongLost", fn := fun _ => fun
  | [d1, d2] => { results := [.lit (.bool false)], args := [d1, d2] }
  | _ => none }
def FnExactCongLostWrongFalsely : Prop := fnExactCongLostRow.holds Try.pinned (OpenSpec.ofChange fnExactCongLostWrong)

/- THE SECOND FORM. 'bulk': how many values and letters a reading holds, each counted each time it is reached (what is shared counts as often as it is met; a slice's spare places count too). A statement '..UptoSaid' is the law's where the arguments, and the package variables that the reading takes, are together of bulk at most 1048576: NARROWER than '..Said'. Prove '..Said' where nothing that the law and all that it calls make is longer than what came in: it says more and counts as full. Else prove '..UptoSaid'. A law counts once. -/
mutual
def uptoBulk {H : Type} : DataW H → Nat
  | .lit (.string bytes) => bytes.length + 1
  | .lit _ => 1
  | .nil => 1
  | .ptr d => uptoBulk d + 1
  | .slice elems spare => uptoBulkAll elems + uptoBulkAll spare + 1
  | .agg parts => uptoBulkAll parts + 1
  | .iface _ d => uptoBulk d + 1
  | .map entries => uptoBulkEntries entries + 1
  | .held _ => 1
def uptoBulkAll {H : Type} : List (DataW H) → Nat
  | [] => 0
  | d :: r => uptoBulk d + uptoBulkAll r
def uptoBulkEntries {H : Type} : List (Lit × DataW H) → Nat
  | [] => 0
  | x :: r => uptoBulkEntry x + uptoBulkEntries r
def uptoBulkEntry {H : Type} : Lit × DataW H → Nat
  | (.string bytes, d) => bytes.length + uptoBulk d + 1
  | (_, d) => uptoBulk d + 1
 end
def uptoSmall : (H : Type) → List (DataW H) → Bool := fun _ ds => decide (uptoBulkAll ds ≤ 1048576)
def OpenSpec.upto (s : _root_.Go.ChangeSpec) : _root_.Go.OpenSpec := { _root_.Go.OpenSpec.ofChange s with cond := some uptoSmall }

/-- 'laws.FnPress', WHERE WHAT IT READS IS OF BULK AT MOST 1048576: true; the input reads as it did. -/
def fnPressUptoRow : OpenClaim := { program := "ytakcalmmbknobaa", sum := "c8576117af576b7d6ac4db6e0232559b3f1d93149f62240b07a2121d87e9fb91", func := "loop.example/g00107/laws.FnPress", spec := "fnPress", unfollowed := true, recurses := true, apart := false, narrowed := true }
def FnPressUptoSaid : Prop := fnPressUptoRow.holds Try.pinned (OpenSpec.upto fnPressSpec)

/-- 'laws.FnExactCongStart', WHERE WHAT IT READS IS OF BULK AT MOST 1048576: true; the input reads as it did. -/
def fnExactCongStartUptoRow : OpenClaim := { program := "ytakcalmmbknobaa", sum := "c8576117af576b7d6ac4db6e0232559b3f1d93149f62240b07a2121d87e9fb91", func := "loop.example/g00107/laws.FnExactCongStart", spec := "fnExactCongStart", apart := false, narrowed := true }
def FnExactCongStartUptoSaid : Prop := fnExactCongStartUptoRow.holds Try.pinned (OpenSpec.upto fnExactCongStartSpec)

/-- 'laws.FnExactCongOk', WHERE WHAT IT READS IS OF BULK AT MOST 1048576: true; the input reads as it did. -/
def fnExactCongOkUptoRow : OpenClaim := { program := "ytakcalmmbknobaa", sum := "c8576117af576b7d6ac4db6e0232559b3f1d93149f62240b07a2121d87e9fb91", func := "loop.example/g00107/laws.FnExactCongOk", spec := "fnExactCongOk", apart := false, narrowed := true }
def FnExactCongOkUptoSaid : Prop := fnExactCongOkUptoRow.holds Try.pinned (OpenSpec.upto fnExactCongOkSpec)

/-- 'laws.FnExactCongAck', WHERE WHAT IT READS IS OF BULK AT MOST 1048576: true; the input reads as it did. -/
def fnExactCongAckUptoRow : OpenClaim := { program := "ytakcalmmbknobaa", sum := "c8576117af576b7d6ac4db6e0232559b3f1d93149f62240b07a2121d87e9fb91", func := "loop.example/g00107/laws.FnExactCongAck", spec := "fnExactCongAck", unfollowed := true, recurses := true, apart := false, narrowed := true }
def FnExactCongAckUptoSaid : Prop := fnExactCongAckUptoRow.holds Try.pinned (OpenSpec.upto fnExactCongAckSpec)

/-- 'laws.FnExactCongDup', WHERE WHAT IT READS IS OF BULK AT MOST 1048576: true; the input reads as it did. -/
def fnExactCongDupUptoRow : OpenClaim := { program := "ytakcalmmbknobaa", sum := "c8576117af576b7d6ac4db6e0232559b3f1d93149f62240b07a2121d87e9fb91", func := "loop.example/g00107/laws.FnExactCongDup", spec := "fnExactCongDup", unfollowed := true, recurses := true, apart := false, narrowed := true }
def FnExactCongDupUptoSaid : Prop := fnExactCongDupUptoRow.holds Try.pinned (OpenSpec.upto fnExactCongDupSpec)

/-- 'laws.FnExactCongLost', WHERE WHAT IT READS IS OF BULK AT MOST 1048576: true; the input reads as it did. -/
def fnExactCongLostUptoRow : OpenClaim := { program := "ytakcalmmbknobaa", sum := "c8576117af576b7d6ac4db6e0232559b3f1d93149f62240b07a2121d87e9fb91", func := "loop.example/g00107/laws.FnExactCongLost", spec := "fnExactCongLost", apart := false, narrowed := true }
def FnExactCongLostUptoSaid : Prop := fnExactCongLostUptoRow.holds Try.pinned (OpenSpec.upto fnExactCongLostSpec)

end Rows
end Go.Proofs.Ytakcalmmbknobaa
