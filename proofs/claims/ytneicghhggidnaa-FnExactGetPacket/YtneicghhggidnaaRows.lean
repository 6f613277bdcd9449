/-
  No cell of these rows narrows 'for every input' (looked for: loops, veiled, ifaces, maps, wideKeys, modest, calm, conditions, laid).
  DERIVED. THE GIVEN ROWS OF THIS SEAT. 6 by the template 'for every input the law returns true; each argument reads behind the call as it read before'; 0 by the template 'total and deterministic' (their statements: YtneicghhggidnaaTotals.lean).
  GIVEN WITH THE SEED: the statements are not yours to turn. If you find one false, say at which input.
  Laid BY PROGRAM, IN A SANDBOX (cutbox-rows.mjs): the forced cells as the released guide's own fill.sh prints them over the translation 32e60322ec70849b… (all of the seat's roots in one cut). By AI agents, Wed Nov 11 2026. No macro, syntax, notation, axiom, sorry.
-/
import Derived.Test.YtneicghhggidnaaChecked
import GoSem.Claim
import GoSem.ClaimJoined
import GoSem.ClaimMapViews
import Derived.JoinedTies
import Derived.KernelRfl
namespace Go.Proofs.Ytneicghhggidnaa
/- THE CELL 'sum', in the pinned program and in every row, IS THE sha256 OF THE DUMP (.gsa) THAT YtneicghhggidnaaProg.lean LOADS. Nothing in Lean hashes anything: it is a label: what it is worth is what the hold of that sum in a sandbox is worth. -/
noncomputable def Try.pinned : Pinned := { name := "ytneicghhggidnaa", sum := "32e60322ec70849bf7602f5926141ab65b533fe7a791a7f677d1bde8aa1d9b77", checked := Try.checked }
namespace Rows
def none {H : Type} : Left H := { results := [], args := [] }

/-- 'laws.FnExactGetPacket': WHATEVER THE INPUT: true; the input reads as it did. -/
def fnExactGetPacketSpec : ChangeSpec := { name := "fnExactGetPacket", fn := fun _ => fun
  | [d] => { results := [.lit (.bool true)], args := [d] }
  | _ => none }
def fnExactGetPacketRow : OpenClaim := { program := "ytneicghhggidnaa", sum := "32e60322ec70849bf7602f5926141ab65b533fe7a791a7f677d1bde8aa1d9b77", func := "loop.example/g00107/laws.FnExactGetPacket", spec := "fnExactGetPacket", unfollowed := true, recurses := true, apart := false }
def FnExactGetPacketSaid : Prop := fnExactGetPacketRow.holds Try.pinned (OpenSpec.ofChange fnExactGetPacketSpec)

/-- ITS FALSE NEIGHBOUR: 'it returns false'. Refute it at one input. -/
def fnExactGetPacketWrong : ChangeSpec := { name := "fnExactGetPacket", fn := fun _ => fun
  | [d] => { results := [.lit (.bool false)], args := [d] }
  | _ => none }
def FnExactGetPacketWrongFalsely : Prop := fnExactGetPacketRow.holds Try.pinned (OpenSpec.ofChange fnExactGetPacketWrong)

/-- 'laws.FnExactHop': WHATEVER THE INPUT: true; the input reads as it did. -/
def fnExactHopSpec : ChangeSpec := { name := "fnExactHop", fn := fun _ => fun
  | [d] => { results := [.lit (.bool true)], args := [d] }
  | _ => none }
def fnExactHopRow : OpenClaim := { program := "ytneicghhggidnaa", sum := "32e60322ec70849bf7602f5926141ab65b533fe7a791a7f677d1bde8aa1d9b77", func := "loop.example/g00107/laws.FnExactHop", spec := "fnExactHop", unfollowed := true, recurses := true, apart := false }
def FnExactHopSaid : Prop := fnExactHopRow.holds Try.pinned (OpenSpec.ofChange fnExactHopSpec)

/-- ITS FALSE NEIGHBOUR: 'it returns false'. Refute it at one input. -/
def fnExactHopWrong : ChangeSpec := { name := "fnExactHop", fn := fun _ => fun
  | [d] => { results := [.lit (.bool false)], args := [d] }
  | _ => none }
def FnExactHopWrongFalsely : Prop := fnExactHopRow.holds Try.pinned (OpenSpec.ofChange fnExactHopWrong)

/-- 'laws.FnExactSegOk': WHATEVER THE INPUT: true; the input reads as it did. -/
def fnExactSegOkSpec : ChangeSpec := { name := "fnExactSegOk", fn := fun _ => fun
  | [d] => { results := [.lit (.bool true)], args := [d] }
  | _ => none }
def fnExactSegOkRow : OpenClaim := { program := "ytneicghhggidnaa", sum := "32e60322ec70849bf7602f5926141ab65b533fe7a791a7f677d1bde8aa1d9b77", func := "loop.example/g00107/laws.FnExactSegOk", spec := "fnExactSegOk", apart := false }
def FnExactSegOkSaid : Prop := fnExactSegOkRow.holds Try.pinned (OpenSpec.ofChange fnExactSegOkSpec)

/-- ITS FALSE NEIGHBOUR: 'it returns false'. Refute it at one input. -/
def fnExactSegOkWrong : ChangeSpec := { name := "fnExactSegOk", fn := fun _ => fun
  | [d] => { results := [.lit (.bool false)], args := [d] }
  | _ => none }
def FnExactSegOkWrongFalsely : Prop := fnExactSegOkRow.holds Try.pinned (OpenSpec.ofChange fnExactSegOkWrong)

/-- 'laws.FnExactPutSeg': WHATEVER THE INPUT: true; the input reads as it did. -/
def fnExactPutSegSpec : ChangeSpec := { name := "fnExactPutSeg", fn := fun _ => fun
  | [d1, d2, d3] => { results := [.lit (.bool true)], args := [d1, d2, d3] }
  | _ => none }
def fnExactPutSegRow : OpenClaim := { program := "ytneicghhggidnaa", sum := "32e60322ec70849bf7602f5926141ab65b533fe7a791a7f677d1bde8aa1d9b77", func := "loop.example/g00107/laws.FnExactPutSeg", spec := "fnExactPutSeg", unfollowed := true, recurses := true, apart := false }
def FnExactPutSegSaid : Prop := fnExactPutSegRow.holds Try.pinned (OpenSpec.ofChange fnExactPutSegSpec)

/-- ITS FALSE NEIGHBOUR: 'it returns false'. Refute it at one input. -/
def fnExactPutSegWrong : ChangeSpec := { name := "fnExactPutSeg", fn := fun _ => fun
  | [d1, d2, d3] => { results := [.lit (.bool false)], args := [d1, d2, d3] }
  | _ => none }
def FnExactPutSegWrongFalsely : Prop := fnExactPutSegRow.holds Try.pinned (OpenSpec.ofChange fnExactPutSegWrong)

/-- 'laws.FnExactGetSeg': WHATEVER THE INPUT: true; the input reads as it did. -/
def fnExactGetSegSpec : ChangeSpec := { name := "fnExactGetSeg", fn := fun _ => fun
  | [d1, d2, d3] => { results := [.lit (.bool true)], args := [d1, d2, d3] }
  | _ => none }
def fnExactGetSegRow : OpenClaim := { program := "ytneicghhggidnaa", sum := "32e60322ec70849bf7602f5926141ab65b533fe7a791a7f677d1bde8aa1d9b77", func := "loop.example/g00107/laws.FnExactGetSeg", spec := "fnExactGetSeg", unfollowed := true, recurses := true, apart := false }
def FnExactGetSegSaid : Prop := fnExactGetSegRow.holds Try.pinned (OpenSpec.ofChange fnExactGetSegSpec)

/-- ITS FALSE NEIGHBOUR: 'it returns false'. Refute it at one input. -/
def fnExactGetSegWrong : ChangeSpec := { name := "fnExactGetSeg", fn := fun _ => fun
  | [d1, d2, d3] => { results := [.lit (.bool false)], args := [d1, d2, d3] }
  | _ => none }
def FnExactGetSegWrongFalsely : Prop := fnExactGetSegRow.holds Try.pinned (OpenSpec.ofChange fnExactGetSegWrong)

/-- 'laws.FnExactSegSpan': WHATEVER THE INPUT: true; the input reads as it did. -/
def fnExactSegSpanSpec : ChangeSpec := { name := "fnExactSegSpan", fn := fun _ => fun
  | [d] => { results := [.lit (.bool true)], args := [d] }
  | _ => none }
def fnExactSegSpanRow : OpenClaim := { program := "ytneicghhggidnaa", sum := "32e60322ec70849bf7602f5926141ab65b533fe7a791a7f677d1bde8aa1d9b77", func := "loop.example/g00107/laws.FnExactSegSpan", spec := "fnExactSegSpan", apart := false }
def FnExactSegSpanSaid : Prop := fnExactSegSpanRow.holds Try.pinned (OpenSpec.ofChange fnExactSegSpanSpec)

/-- ITS FALSE NEIGHBOUR: 'it returns false'. Refute it at one input. -/
def fnExactSegSpanWrong : ChangeSpec := { name := "fnExactSegSpan", fn := fun _ => fun
  | [d] => { results := [.lit (.bool false)], args := [d] }
  | _ => none }
def FnExactSegSpanWrongFalsely : Prop := fnExactSegSpanRow.holds Try.pinned (OpenSpec.ofChange fnExactSegSpanWrong)

/- THE SECOND FORM. 'bulk': how many values and letters a reading holds, each counted each time it is reached (what is shared counts as often as it is met; a slice's spare places count too). A statement '..UptoSaid' is the law's where the arguments, and the package variables that the reading takes, are together of bulk at most 1048576: NARROWER than '..Said'. Prove '..Said' where nothing that the law and all that it calls make is longer than what came in: it says more and counts as full. Else prove '..UptoSaid'. A law counts once. -/
mutual
def uptoBulk {H : Type} : DataW H → Nat
  | .lit (.string bytes) => bytes.length + 1
  | .lit _ => 1
  | .nil => 1
  | .ptr d => uptoBulk d + 1
  | .slice elems spare => uptoBulkAll elems + uptoBulkAll spare + 1
  | .agg parts => uptoBulkAll parts + 1
  | .iface _ d => uptoBulk d + 1
  | .map entries => uptoBulkEntries entries + 1
  | .held _ => 1
def uptoBulkAll {H : Type} : List (DataW H) → Nat
  | [] => 0
  | d :: r => uptoBulk d + uptoBulkAll r
def uptoBulkEntries {H : Type} : List (Lit × DataW H) → Nat
  | [] => 0
  | x :: r => uptoBulkEntry x + uptoBulkEntries r
def uptoBulkEntry {H : Type} : Lit × DataW H → Nat
  | (.string bytes, d) => bytes.length + uptoBulk d + 1
  | (_, d) => uptoBulk d + 1
 end
def uptoSmall : (H : Type) → List (DataW H) → Bool := fun _ ds => decide (uptoBulkAll ds ≤ 1048576)
def OpenSpec.upto (s : _root_.Go.ChangeSpec) : _root_.Go.OpenSpec := { _root_.Go.OpenSpec.ofChange s with cond := some uptoSmall }

/-- 'laws.FnExactGetPacket', WHERE WHAT IT READS IS OF BULK AT MOST 1048576: true; the input reads as it did. -/
def fnExactGetPacketUptoRow : OpenClaim := { program := "ytneicghhggidnaa", sum := "32e60322ec70849bf7602f5926141ab65b533fe7a791a7f677d1bde8aa1d9b77", func := "loop.example/g00107/laws.FnExactGetPacket", spec := "fnExactGetPacket", unfollowed := true, recurses := true, apart := false, narrowed := true }
def FnExactGetPacketUptoSaid : Prop := fnExactGetPacketUptoRow.holds Try.pinned (OpenSpec.upto fnExactGetPacketSpec)

/-- 'laws.FnExactHop', WHERE WHAT IT READS IS OF BULK AT MOST 1048576: true; the input reads as it did. -/
def fnExactHopUptoRow : OpenClaim := { program := "ytneicghhggidnaa", sum := "32e60322ec70849bf7602f5926141ab65b533fe7a791a7f677d1bde8aa1d9b77", func := "loop.example/g00107/laws.FnExactHop", spec := "fnExactHop", unfollowed := true, recurses := true, apart := false, narrowed := true }
def FnExactHopUptoSaid : Prop := fnExactHopUptoRow.holds Try.pinned (OpenSpec.upto fnExactHopSpec)

/-- 'laws.FnExactSegOk', WHERE WHAT IT READS IS OF BULK AT MOST 1048576: true; the input reads as it did. -/
def fnExactSegOkUptoRow : OpenClaim := { program := "ytneicghhggidnaa", sum := "32e60322ec70849bf7602f5926141ab65b533fe7a791a7f677d1bde8aa1d9b77", func := "loop.example/g00107/laws.FnExactSegOk", spec := "fnExactSegOk", apart := false, narrowed := true }
def FnExactSegOkUptoSaid : Prop := fnExactSegOkUptoRow.holds Try.pinned (OpenSpec.upto fnExactSegOkSpec)

/-- 'laws.FnExactPutSeg', WHERE WHAT IT READS IS OF BULK AT MOST 1048576: true; the input reads as it did. -/
def fnExactPutSegUptoRow : OpenClaim := { program := "ytneicghhggidnaa", sum := "32e60322ec70849bf7602f5926141ab65b533fe7a791a7f677d1bde8aa1d9b77", func := "loop.example/g00107/laws.FnExactPutSeg", spec := "fnExactPutSeg", unfollowed := true, recurses := true, apart := false, narrowed := true }
def FnExactPutSegUptoSaid : Prop := fnExactPutSegUptoRow.holds Try.pinned (OpenSpec.upto fnExactPutSegSpec)

/-- 'laws.FnExactGetSeg', WHERE WHAT IT READS IS OF BULK AT MOST 1048576: true; the input reads as it did. -/
def fnExactGetSegUptoRow : OpenClaim := { program := "ytneicghhggidnaa", sum := "32e60322ec70849bf7602f5926141ab65b533fe7a791a7f677d1bde8aa1d9b77", func := "loop.example/g00107/laws.FnExactGetSeg", spec := "fnExactGetSeg", unfollowed := true, recurses := true, apart := false, narrowed := true }
def FnExactGetSegUptoSaid : Prop := fnExactGetSegUptoRow.holds Try.pinned (OpenSpec.upto fnExactGetSegSpec)

/-- 'laws.FnExactSegSpan', WHERE WHAT IT READS IS OF BULK AT MOST 1048576: true; the input reads as it did. -/
def fnExactSegSpanUptoRow : OpenClaim := { program := "ytneicghhggidnaa", sum := "32e60322ec70849bf7602f5926141ab65b533fe7a791a7f677d1bde8aa1d9b77", func := "loop.example/g00107/laws.FnExactSegSpan", spec := "fnExactSegSpan", apart := false, narrowed := true }
def FnExactSegSpanUptoSaid : Prop := fnExactSegSpanUptoRow.holds Try.pinned (OpenSpec.upto fnExactSegSpanSpec)

end Rows
end Go.Proofs.Ytneicghhggidnaa
