/-
  No cell of these rows narrows 'for every input' (looked for: loops, veiled, ifaces, maps, wideKeys, modest, calm, conditions, laid).
  DERIVED. THE GIVEN ROWS OF THIS SEAT. 5 by the template 'for every input the law returns true; each argument reads behind the call as it read before'; 0 by the template 'total and deterministic' (their statements: YtpegfiogfcjofabTotals.lean).
  GIVEN WITH THE SEED: the statements are not yours to turn. If you find one false, say at which input.
  Laid BY PROGRAM, IN A SANDBOX (cutbox-rows.mjs): the forced cells as the released guide's own fill.sh prints them over the translation d7e2a8d65879b7e6… (all of the seat's roots in one cut). By AI agents, Wed Nov 11 2026. No macro, syntax, notation, axiom, sorry.
-/
import Derived.Test.YtpegfiogfcjofabChecked
import GoSem.Claim
import GoSem.ClaimJoined
import GoSem.ClaimMapViews
import Derived.JoinedTies
import Derived.KernelRfl
namespace Go.Proofs.Ytpegfiogfcjofab
/- THE CELL 'sum', in the pinned program and in every row, IS THE sha256 OF THE DUMP (.gsa) THAT YtpegfiogfcjofabProg.lean LOADS. Nothing in Lean hashes anything: it is a label: what it is worth is what the hold of that sum in a sandbox is worth. -/
noncomputable def Try.pinned : Pinned := { name := "ytpegfiogfcjofab", sum := "d7e2a8d65879b7e6b0afddc716d4376666429c2cdf9f8d5531b35186e928c1ab", checked := Try.checked }
namespace Rows
def none {H : Type} : Left H := { results := [], args := [] }

/-- 'laws.FnExactInOk': WHATEVER THE INPUT: true; the input reads as it did. -/
def fnExactInOkSpec : ChangeSpec := { name := "fnExactInOk", fn := fun _ => fun
  | [d] => { results := [.lit (.bool true)], args := [d] }
  | _ => none }
def fnExactInOkRow : OpenClaim := { program := "ytpegfiogfcjofab", sum := "d7e2a8d65879b7e6b0afddc716d4376666429c2cdf9f8d5531b35186e928c1ab", func := "loop.example/g00107/laws.FnExactInOk", spec := "fnExactInOk", apart := false }
def FnExactInOkSaid : Prop := fnExactInOkRow.holds Try.pinned (OpenSpec.ofChange fnExactInOkSpec)

/-- ITS FALSE NEIGHBOUR: 'it returns false'. Refute it at one input. -/
def fnExactInOkWrong : ChangeSpec := { name := "fnExactInOk", fn := fun _ => fun
  | [d] => { results := [.lit (.bool false)], args := [d] }
  | _ => none }
def FnExactInOkWrongFalsely : Prop := fnExactInOkRow.holds Try.pinned (OpenSpec.ofChange fnExactInOkWrong)

/-- 'laws.FnExactInRoom': WHATEVER THE INPUT: true; the input reads as it did. -/
def fnExactInRoomSpec : ChangeSpec := { name := "fnExactInRoom", fn := fun _ => fun
  | [d] => { results := [.lit (.bool true)], args := [d] }
  | _ => none }
def fnExactInRoomRow : OpenClaim := { program := "ytpegfiogfcjofab", sum := "d7e2a8d65879b7e6b0afddc716d4376666429c2cdf9f8d5531b35186e928c1ab", func := "loop.example/g00107/laws.FnExactInRoom", spec := "fnExactInRoom", apart := false }
def FnExactInRoomSaid : Prop := fnExactInRoomRow.holds Try.pinned (OpenSpec.ofChange fnExactInRoomSpec)

/-- ITS FALSE NEIGHBOUR: 'it returns false'. Refute it at one input. -/
def fnExactInRoomWrong : ChangeSpec := { name := "fnExactInRoom", fn := fun _ => fun
  | [d] => { results := [.lit (.bool false)], args := [d] }
  | _ => none }
def FnExactInRoomWrongFalsely : Prop := fnExactInRoomRow.holds Try.pinned (OpenSpec.ofChange fnExactInRoomWrong)

/-- 'laws.FnExactInPut': WHATEVER THE INPUT: true; the input reads as it did. -/
def fnExactInPutSpec : ChangeSpec := { name := "fnExactInPut", fn := fun _ => fun
  | [d1, d2, d3] => { results := [.lit (.bool true)], args := [d1, d2, d3] }
  | _ => none }
def fnExactInPutRow : OpenClaim := { program := "ytpegfiogfcjofab", sum := "d7e2a8d65879b7e6b0afddc716d4376666429c2cdf9f8d5531b35186e928c1ab", func := "loop.example/g00107/laws.FnExactInPut", spec := "fnExactInPut", apart := false }
def FnExactInPutSaid : Prop := fnExactInPutRow.holds Try.pinned (OpenSpec.ofChange fnExactInPutSpec)

/-- ITS FALSE NEIGHBOUR: 'it returns false'. Refute it at one input. -/
def fnExactInPutWrong : ChangeSpec := { name := "fnExactInPut", fn := fun _ => fun
  | [d1, d2, d3] => { results := [.lit (.bool false)], args := [d1, d2, d3] }
  | _ => none }
def FnExactInPutWrongFalsely : Prop := fnExactInPutRow.holds Try.pinned (OpenSpec.ofChange fnExactInPutWrong)

/-- 'laws.FnExactInRead': WHATEVER THE INPUT: true; the input reads as it did. -/
def fnExactInReadSpec : ChangeSpec := { name := "fnExactInRead", fn := fun _ => fun
  | [d1, d2] => { results := [.lit (.bool true)], args := [d1, d2] }
  | _ => none }
def fnExactInReadRow : OpenClaim := { program := "ytpegfiogfcjofab", sum := "d7e2a8d65879b7e6b0afddc716d4376666429c2cdf9f8d5531b35186e928c1ab", func := "loop.example/g00107/laws.FnExactInRead", spec := "fnExactInRead", apart := false }
def FnExactInReadSaid : Prop := fnExactInReadRow.holds Try.pinned (OpenSpec.ofChange fnExactInReadSpec)

/-- ITS FALSE NEIGHBOUR: 'it returns false'. Refute it at one input. -/
def fnExactInReadWrong : ChangeSpec := { name := "fnExactInRead", fn := fun _ => fun
  | [d1, d2] => { results := [.lit (.bool false)], args := [d1, d2] }
  | _ => none }
def FnExactInReadWrongFalsely : Prop := fnExactInReadRow.holds Try.pinned (OpenSpec.ofChange fnExactInReadWrong)

/-- 'laws.FnExactInHeld': WHATEVER THE INPUT: true; the input reads as it did. -/
def fnExactInHeldSpec : ChangeSpec := { name := "fnExactInHeld", fn := fun _ => fun
  | [d] => { results := [.lit (.bool true)], args := [d] }
  | _ => none }
def fnExactInHeldRow : OpenClaim := { program := "ytpegfiogfcjofab", sum := "d7e2a8d65879b7e6b0afddc716d4376666429c2cdf9f8d5531b35186e928c1ab", func := "loop.example/g00107/laws.FnExactInHeld", spec := "fnExactInHeld", apart := false }
def FnExactInHeldSaid : Prop := fnExactInHeldRow.holds Try.pinned (OpenSpec.ofChange fnExactInHeldSpec)

/-- ITS FALSE NEIGHBOUR: 'it returns false'. Refute it at one input. -/
def fnExactInHeldWrong : ChangeSpec := { name := "fnExactInHeld", fn := fun _ => fun
  | [d] => { results := [.lit (.bool false)], args := [d] }
  | _ => none }
def FnExactInHeldWrongFalsely : Prop := fnExactInHeldRow.holds Try.pinned (OpenSpec.ofChange fnExactInHeldWrong)

/- THE SECOND FORM. 'bulk': how many values and letters a reading holds, each counted each time it is reached (what is shared counts as often as it is met; a slice's spare places count too). A statement '..UptoSaid' is the law's where the arguments, and the package variables that the reading takes, are together of bulk at most 1048576: NARROWER than '..Said'. Prove '..Said' where nothing that the law and all that it calls make is longer than what came in: it says more and counts as full. Else prove '..UptoSaid'. A law counts once. -/
mutual
def uptoBulk {H : Type} : DataW H → Nat
  | .lit (.string bytes) => bytes.length + 1
  | .lit _ => 1
  | .nil => 1
  | .ptr d => uptoBulk d + 1
  | .slice elems spare => uptoBulkAll elems + uptoBulkAll spare + 1
  | .agg parts => uptoBulkAll parts + 1
  | .iface _ d => uptoBulk d + 1
  | .map entries => uptoBulkEntries entries + 1
  | .held _ => 1
def uptoBulkAll {H : Type} : List (DataW H) → Nat
  | [] => 0
  | d :: r => uptoBulk d + uptoBulkAll r
def uptoBulkEntries {H : Type} : List (Lit × DataW H) → Nat
  | [] => 0
  | x :: r => uptoBulkEntry x + uptoBulkEntries r
def uptoBulkEntry {H : Type} : Lit × DataW H → Nat
  | (.string bytes, d) => bytes.length + uptoBulk d + 1
  | (_, d) => uptoBulk d + 1
 end
def uptoSmall : (H : Type) → List (DataW H) → Bool := fun _ ds => decide (uptoBulkAll ds ≤ 1048576)
def OpenSpec.upto (s : _root_.Go.ChangeSpec) : _root_.Go.OpenSpec := { _root_.Go.OpenSpec.ofChange s with cond := some uptoSmall }

/-- 'laws.FnExactInOk', WHERE WHAT IT READS IS OF BULK AT MOST 1048576: true; the input reads as it did. -/
def fnExactInOkUptoRow : OpenClaim := { program := "ytpegfiogfcjofab", sum := "d7e2a8d65879b7e6b0afddc716d4376666429c2cdf9f8d5531b35186e928c1ab", func := "loop.example/g00107/laws.FnExactInOk", spec := "fnExactInOk", apart := false, narrowed := true }
def FnExactInOkUptoSaid : Prop := fnExactInOkUptoRow.holds Try.pinned (OpenSpec.upto fnExactInOkSpec)

/-- 'laws.FnExactInRoom', WHERE WHAT IT READS IS OF BULK AT MOST 1048576: true; the input reads as it did. -/
def fnExactInRoomUptoRow : OpenClaim := { program := "ytpegfiogfcjofab", sum := "d7e2a8d65879b7e6b0afddc716d4376666429c2cdf9f8d5531b35186e928c1ab", func := "loop.example/g00107/laws.FnExactInRoom", spec := "fnExactInRoom", apart := false, narrowed := true }
def FnExactInRoomUptoSaid : Prop := fnExactInRoomUptoRow.holds Try.pinned (OpenSpec.upto fnExactInRoomSpec)

/-- 'laws.FnExactInPut', WHERE WHAT IT READS IS OF BULK AT MOST 1048576: true; the input reads as it did. -/
def fnExactInPutUptoRow : OpenClaim := { program := "ytpegfiogfcjofab", sum := "d7e2a8d65879b7e6b0afddc716d4376666429c2cdf9f8d5531b35186e928c1ab", func := "loop.example/g00107/laws.FnExactInPut", spec := "fnExactInPut", apart := false, narrowed := true }
def FnExactInPutUptoSaid : Prop := fnExactInPutUptoRow.holds Try.pinned (OpenSpec.upto fnExactInPutSpec)

/-- 'laws.FnExactInRead', WHERE WHAT IT READS IS OF BULK AT MOST 1048576: true; the input reads as it did. -/
def fnExactInReadUptoRow : OpenClaim := { program := "ytpegfiogfcjofab", sum := "d7e2a8d65879b7e6b0afddc716d4376666429c2cdf9f8d5531b35186e928c1ab", func := "loop.example/g00107/laws.FnExactInRead", spec := "fnExactInRead", apart := false, narrowed := true }
def FnExactInReadUptoSaid : Prop := fnExactInReadUptoRow.holds Try.pinned (OpenSpec.upto fnExactInReadSpec)

/-- 'laws.FnExactInHeld', WHERE WHAT IT READS IS OF BULK AT MOST 1048576: true; the input reads as it did. -/
def fnExactInHeldUptoRow : OpenClaim := { program := "ytpegfiogfcjofab", sum := "d7e2a8d65879b7e6b0afddc716d4376666429c2cdf9f8d5531b35186e928c1ab", func := "loop.example/g00107/laws.FnExactInHeld", spec := "fnExactInHeld", apart := false, narrowed := true }
def FnExactInHeldUptoSaid : Prop := fnExactInHeldUptoRow.holds Try.pinned (OpenSpec.upto fnExactInHeldSpec)

end Rows
end Go.Proofs.Ytpegfiogfcjofab
