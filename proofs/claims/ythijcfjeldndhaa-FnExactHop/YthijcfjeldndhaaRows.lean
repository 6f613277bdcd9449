/-
  No cell of these rows narrows 'for every input' (looked for: loops, veiled, ifaces, maps, wideKeys, modest, calm, conditions, laid).
  DERIVED. THE GIVEN ROWS OF THIS SEAT. 5 by the template 'for every input the law returns true; each argument reads behind the call as it read before'; 0 by the template 'total and deterministic' (their statements: YthijcfjeldndhaaTotals.lean).
  GIVEN WITH THE SEED: the statements are not yours to turn. If you find one false, say at which input.
  Laid BY PROGRAM, IN A SANDBOX (cutbox-rows.mjs): the forced cells as the released guide's own fill.sh prints them over the translation 9b1d9cee5db9efee… (all of the seat's roots in one cut). By AI agents, Wed Nov 11 2026. No macro, syntax, notation, axiom, sorry.
-/
import Derived.Test.YthijcfjeldndhaaChecked
import GoSem.Claim
import GoSem.ClaimJoined
import GoSem.ClaimMapViews
import Derived.JoinedTies
import Derived.KernelRfl
namespace Go.Proofs.Ythijcfjeldndhaa
/- THE CELL 'sum', in the pinned program and in every row, IS THE sha256 OF THE DUMP (.gsa) THAT YthijcfjeldndhaaProg.lean LOADS. Nothing in Lean hashes anything: it is a label: what it is worth is what the hold of that sum in a sandbox is worth. -/
noncomputable def Try.pinned : Pinned := { name := "ythijcfjeldndhaa", sum := "9b1d9cee5db9efee714fe193746444c78cad690a284d0e8d14defb4596c317e4", checked := Try.checked }
namespace Rows
def none {H : Type} : Left H := { results := [], args := [] }

/-- 'laws.FnExactPacketOk': WHATEVER THE INPUT: true; the input reads as it did. -/
def fnExactPacketOkSpec : ChangeSpec := { name := "fnExactPacketOk", fn := fun _ => fun
  | [d] => { results := [.lit (.bool true)], args := [d] }
  | _ => none }
def fnExactPacketOkRow : OpenClaim := { program := "ythijcfjeldndhaa", sum := "9b1d9cee5db9efee714fe193746444c78cad690a284d0e8d14defb4596c317e4", func := "loop.example/g00107/laws.FnExactPacketOk", spec := "fnExactPacketOk", apart := false }
def FnExactPacketOkSaid : Prop := fnExactPacketOkRow.holds Try.pinned (OpenSpec.ofChange fnExactPacketOkSpec)

/-- ITS FALSE NEIGHBOUR: 'it returns false'. Refute it at one input. -/
def fnExactPacketOkWrong : ChangeSpec := { name := "fnExactPacketOk", fn := fun _ => fun
  | [d] => { results := [.lit (.bool false)], args := [d] }
  | _ => none }
def FnExactPacketOkWrongFalsely : Prop := fnExactPacketOkRow.holds Try.pinned (OpenSpec.ofChange fnExactPacketOkWrong)

/-- 'laws.FnExactPutPacket': WHATEVER THE INPUT: true; the input reads as it did. -/
def fnExactPutPacketSpec : ChangeSpec := { name := "fnExactPutPacket", fn := fun _ => fun
  | [d] => { results := [.lit (.bool true)], args := [d] }
  | _ => none }
def fnExactPutPacketRow : OpenClaim := { program := "ythijcfjeldndhaa", sum := "9b1d9cee5db9efee714fe193746444c78cad690a284d0e8d14defb4596c317e4", func := "loop.example/g00107/laws.FnExactPutPacket", spec := "fnExactPutPacket", unfollowed := true, recurses := true, apart := false }
def FnExactPutPacketSaid : Prop := fnExactPutPacketRow.holds Try.pinned (OpenSpec.ofChange fnExactPutPacketSpec)

/-- ITS FALSE NEIGHBOUR: 'it returns false'. Refute it at one input. -/
def fnExactPutPacketWrong : ChangeSpec := { name := "fnExactPutPacket", fn := fun _ => fun
  | [d] => { results := [.lit (.bool false)], args := [d] }
  | _ => none }
def FnExactPutPacketWrongFalsely : Prop := fnExactPutPacketRow.holds Try.pinned (OpenSpec.ofChange fnExactPutPacketWrong)

/-- 'laws.FnExactGetPacket': WHATEVER THE INPUT: true; the input reads as it did. -/
def fnExactGetPacketSpec : ChangeSpec := { name := "fnExactGetPacket", fn := fun _ => fun
  | [d] => { results := [.lit (.bool true)], args := [d] }
  | _ => none }
def fnExactGetPacketRow : OpenClaim := { program := "ythijcfjeldndhaa", sum := "9b1d9cee5db9efee714fe193746444c78cad690a284d0e8d14defb4596c317e4", func := "loop.example/g00107/laws.FnExactGetPacket", spec := "fnExactGetPacket", unfollowed := true, recurses := true, apart := false }
def FnExactGetPacketSaid : Prop := fnExactGetPacketRow.holds Try.pinned (OpenSpec.ofChange fnExactGetPacketSpec)

/-- ITS FALSE NEIGHBOUR: 'it returns false'. Refute it at one input. -/
def fnExactGetPacketWrong : ChangeSpec := { name := "fnExactGetPacket", fn := fun _ => fun
  | [d] => { results := [.lit (.bool false)], args := [d] }
  | _ => none }
def FnExactGetPacketWrongFalsely : Prop := fnExactGetPacketRow.holds Try.pinned (OpenSpec.ofChange fnExactGetPacketWrong)

/-- 'laws.FnExactHop': WHATEVER THE INPUT: true; the input reads as it did. -/
def fnExactHopSpec : ChangeSpec := { name := "fnExactHop", fn := fun _ => fun
  | [d] => { results := [.lit (.bool true)], args := [d] }
  | _ => none }
def fnExactHopRow : OpenClaim := { program := "ythijcfjeldndhaa", sum := "9b1d9cee5db9efee714fe193746444c78cad690a284d0e8d14defb4596c317e4", func := "loop.example/g00107/laws.FnExactHop", spec := "fnExactHop", unfollowed := true, recurses := true, apart := false }
def FnExactHopSaid : Prop := fnExactHopRow.holds Try.pinned (OpenSpec.ofChange fnExactHopSpec)

/-- ITS FALSE NEIGHBOUR: 'it returns false'. Refute it at one input. -/
def fnExactHopWrong : ChangeSpec := { name := "fnExactHop", fn := fun _ => fun
  | [d] => { results := [.lit (.bool false)], args := [d] }
  | _ => none }
def FnExactHopWrongFalsely : Prop := fnExactHopRow.holds Try.pinned (OpenSpec.ofChange fnExactHopWrong)

/-- 'laws.FnExactPseudoSum': WHATEVER THE INPUT: true; the input reads as it did. -/
def fnExactPseudoSumSpec : ChangeSpec := { name := "fnExactPseudoSum", fn := fun _ => fun
  | [d1, d2, d3, d4] => { results := [.lit (.bool true)], args := [d1, d2, d3, d4] }
  | _ => none }
def fnExactPseudoSumRow : OpenClaim := { program := "ythijcfjeldndhaa", sum := "9b1d9cee5db9efee714fe193746444c78cad690a284d0e8d14defb4596c317e4", func := "loop.example/g00107/laws.FnExactPseudoSum", spec := "fnExactPseudoSum", unfollowed := true, recurses := true, apart := false }
def FnExactPseudoSumSaid : Prop := fnExactPseudoSumRow.holds Try.pinned (OpenSpec.ofChange fnExactPseudoSumSpec)

/-- ITS FALSE NEIGHBOUR: 'it returns false'. Refute it at one input. -/
def fnExactPseudoSumWrong : ChangeSpec := { name := "fnExactPseudoSum", fn := fun _ => fun
  | [d1, d2, d3, d4] => { results := [.lit (.bool false)], args := [d1, d2, d3, d4] }
  | _ => none }
def FnExactPseudoSumWrongFalsely : Prop := fnExactPseudoSumRow.holds Try.pinned (OpenSpec.ofChange fnExactPseudoSumWrong)

/- THE SECOND FORM. 'bulk': how many values and letters a reading holds, each counted each time it is reached (what is shared counts as often as it is met; a slice's spare places count too). A statement '..UptoSaid' is the law's where the arguments, and the package variables that the reading takes, are together of bulk at most 1048576: NARROWER than '..Said'. Prove '..Said' where nothing that the law and all that it calls make is longer than what came in: it says more and counts as full. Else prove '..UptoSaid'. A law counts once. -/
mutual
def uptoBulk {H : Type} : DataW H → Nat
  | .lit (.string bytes) => bytes.length + 1
  | .lit _ => 1
  | .nil => 1
  | .ptr d => uptoBulk d + 1
  | .slice elems spare => uptoBulkAll elems + uptoBulkAll spare + 1
  | .agg parts => uptoBulkAll parts + 1
  | .iface _ d => uptoBulk d + 1
  | .map entries => uptoBulkEntries entries + 1
  | .held _ => 1
def uptoBulkAll {H : Type} : List (DataW H) → Nat
  | [] => 0
  | d :: r => uptoBulk d + uptoBulkAll r
def uptoBulkEntries {H : Type} : List (Lit × DataW H) → Nat
  | [] => 0
  | x :: r => uptoBulkEntry x + uptoBulkEntries r
def uptoBulkEntry {H : Type} : Lit × DataW H → Nat
  | (.string bytes, d) => bytes.length + uptoBulk d + 1
  | (_, d) => uptoBulk d + 1
 end
def uptoSmall : (H : Type) → List (DataW H) → Bool := fun _ ds => decide (uptoBulkAll ds ≤ 1048576)
def OpenSpec.upto (s : _root_.Go.ChangeSpec) : _root_.Go.OpenSpec := { _root_.Go.OpenSpec.ofChange s with cond := some uptoSmall }

/-- 'laws.FnExactPacketOk', WHERE WHAT IT READS IS OF BULK AT MOST 1048576: true; the input reads as it did. -/
def fnExactPacketOkUptoRow : OpenClaim := { program := "ythijcfjeldndhaa", sum := "9b1d9cee5db9efee714fe193746444c78cad690a284d0e8d14defb4596c317e4", func := "loop.example/g00107/laws.FnExactPacketOk", spec := "fnExactPacketOk", apart := false, narrowed := true }
def FnExactPacketOkUptoSaid : Prop := fnExactPacketOkUptoRow.holds Try.pinned (OpenSpec.upto fnExactPacketOkSpec)

/-- 'laws.FnExactPutPacket', WHERE WHAT IT READS IS OF BULK AT MOST 1048576: true; the input reads as it did. -/
def fnExactPutPacketUptoRow : OpenClaim := { program := "ythijcfjeldndhaa", sum := "9b1d9cee5db9efee714fe193746444c78cad690a284d0e8d14defb4596c317e4", func := "loop.example/g00107/laws.FnExactPutPacket", spec := "fnExactPutPacket", unfollowed := true, recurses := true, apart := false, narrowed := true }
def FnExactPutPacketUptoSaid : Prop := fnExactPutPacketUptoRow.holds Try.pinned (OpenSpec.upto fnExactPutPacketSpec)

/-- 'laws.FnExactGetPacket', WHERE WHAT IT READS IS OF BULK AT MOST 1048576: true; the input reads as it did. -/
def fnExactGetPacketUptoRow : OpenClaim := { program := "ythijcfjeldndhaa", sum := "9b1d9cee5db9efee714fe193746444c78cad690a284d0e8d14defb4596c317e4", func := "loop.example/g00107/laws.FnExactGetPacket", spec := "fnExactGetPacket", unfollowed := true, recurses := true, apart := false, narrowed := true }
def FnExactGetPacketUptoSaid : Prop := fnExactGetPacketUptoRow.holds Try.pinned (OpenSpec.upto fnExactGetPacketSpec)

/-- 'laws.FnExactHop', WHERE WHAT IT READS IS OF BULK AT MOST 1048576: true; the input reads as it did. -/
def fnExactHopUptoRow : OpenClaim := { program := "ythijcfjeldndhaa", sum := "9b1d9cee5db9efee714fe193746444c78cad690a284d0e8d14defb4596c317e4", func := "loop.example/g00107/laws.FnExactHop", spec := "fnExactHop", unfollowed := true, recurses := true, apart := false, narrowed := true }
def FnExactHopUptoSaid : Prop := fnExactHopUptoRow.holds Try.pinned (OpenSpec.upto fnExactHopSpec)

/-- 'laws.FnExactPseudoSum', WHERE WHAT IT READS IS OF BULK AT MOST 1048576: true; the input reads as it did. -/
def fnExactPseudoSumUptoRow : OpenClaim := { program := "ythijcfjeldndhaa", sum := "9b1d9cee5db9efee714fe193746444c78cad690a284d0e8d14defb4596c317e4", func := "loop.example/g00107/laws.FnExactPseudoSum", spec := "fnExactPseudoSum", unfollowed := true, recurses := true, apart := false, narrowed := true }
def FnExactPseudoSumUptoSaid : Prop := fnExactPseudoSumUptoRow.holds Try.pinned (OpenSpec.upto fnExactPseudoSumSpec)

end Rows
end Go.Proofs.Ythijcfjeldndhaa
