/-
  No cell of these rows narrows 'for every input' (looked for: loops, veiled, ifaces, maps, wideKeys, modest, calm, conditions, laid).
  DERIVED. THE GIVEN ROWS OF THIS SEAT. 6 by the template 'for every input the law returns true; each argument reads behind the call as it read before'; 0 by the template 'total and deterministic' (their statements: YtpegfiogfcjofaaTotals.lean).
  GIVEN WITH THE SEED: the statements are not yours to turn. If you find one false, say at which input.
  Laid BY PROGRAM, IN A SANDBOX (cutbox-rows.mjs): the forced cells as the released guide's own fill.sh prints them over the translation 6646026915f2416d… (all of the seat's roots in one cut). By AI agents, Wed Nov 11 2026. No macro, syntax, notation, axiom, sorry.
-/
import Derived.Test.YtpegfiogfcjofaaChecked
import GoSem.Claim
import GoSem.ClaimJoined
import GoSem.ClaimMapViews
import Derived.JoinedTies
import Derived.KernelRfl
namespace Go.Proofs.Ytpegfiogfcjofaa
/- THE CELL 'sum', in the pinned program and in every row, IS THE sha256 OF THE DUMP (.gsa) THAT YtpegfiogfcjofaaProg.lean LOADS. Nothing in Lean hashes anything: it is a label: what it is worth is what the hold of that sum in a sandbox is worth. -/
noncomputable def Try.pinned : Pinned := { name := "ytpegfiogfcjofaa", sum := "6646026915f2416d85bc6e605fe28865a7078be7c88e0a55cc79a3dbc0f1d444", checked := Try.checked }
namespace Rows
def none {H : Type} : Left H := { results := [], args := [] }

/-- 'laws.FnOutBuf': WHATEVER THE INPUT: true; the input reads as it did. -/
def fnOutBufSpec : ChangeSpec := { name := "fnOutBuf", fn := fun _ => fun
  | [d] => { results := [.lit (.bool true)], args := [d] }
  | _ => none }
def fnOutBufRow : OpenClaim := { program := "ytpegfiogfcjofaa", sum := "6646026915f2416d85bc6e605fe28865a7078be7c88e0a55cc79a3dbc0f1d444", func := "loop.example/g00107/laws.FnOutBuf", spec := "fnOutBuf", apart := false }
def FnOutBufSaid : Prop := fnOutBufRow.holds Try.pinned (OpenSpec.ofChange fnOutBufSpec)

/-- ITS FALSE NEIGHBOUR: 'it returns false'. Refute it at one input. -/
def fnOutBufWrong : ChangeSpec := { name := "fnOutBuf", fn := fun _ => fun
  | [d] => { results := [.lit (.bool false)], args := [d] }
  | _ => none }
def FnOutBufWrongFalsely : Prop := fnOutBufRow.holds Try.pinned (OpenSpec.ofChange fnOutBufWrong)

/-- 'laws.FnInBuf': WHATEVER THE INPUT: true; the input reads as it did. -/
def fnInBufSpec : ChangeSpec := { name := "fnInBuf", fn := fun _ => fun
  | [d] => { results := [.lit (.bool true)], args := [d] }
  | _ => none }
def fnInBufRow : OpenClaim := { program := "ytpegfiogfcjofaa", sum := "6646026915f2416d85bc6e605fe28865a7078be7c88e0a55cc79a3dbc0f1d444", func := "loop.example/g00107/laws.FnInBuf", spec := "fnInBuf", apart := false }
def FnInBufSaid : Prop := fnInBufRow.holds Try.pinned (OpenSpec.ofChange fnInBufSpec)

/-- ITS FALSE NEIGHBOUR: 'it returns false'. Refute it at one input. -/
def fnInBufWrong : ChangeSpec := { name := "fnInBuf", fn := fun _ => fun
  | [d] => { results := [.lit (.bool false)], args := [d] }
  | _ => none }
def FnInBufWrongFalsely : Prop := fnInBufRow.holds Try.pinned (OpenSpec.ofChange fnInBufWrong)

/-- 'laws.FnExactOutOk': WHATEVER THE INPUT: true; the input reads as it did. -/
def fnExactOutOkSpec : ChangeSpec := { name := "fnExactOutOk", fn := fun _ => fun
  | [d] => { results := [.lit (.bool true)], args := [d] }
  | _ => none }
def fnExactOutOkRow : OpenClaim := { program := "ytpegfiogfcjofaa", sum := "6646026915f2416d85bc6e605fe28865a7078be7c88e0a55cc79a3dbc0f1d444", func := "loop.example/g00107/laws.FnExactOutOk", spec := "fnExactOutOk", apart := false }
def FnExactOutOkSaid : Prop := fnExactOutOkRow.holds Try.pinned (OpenSpec.ofChange fnExactOutOkSpec)

/-- ITS FALSE NEIGHBOUR: 'it returns false'. Refute it at one input. -/
def fnExactOutOkWrong : ChangeSpec := { name := "fnExactOutOk", fn := fun _ => fun
  | [d] => { results := [.lit (.bool false)], args := [d] }
  | _ => none }
def FnExactOutOkWrongFalsely : Prop := fnExactOutOkRow.holds Try.pinned (OpenSpec.ofChange fnExactOutOkWrong)

/-- 'laws.FnExactOutPut': WHATEVER THE INPUT: true; the input reads as it did. -/
def fnExactOutPutSpec : ChangeSpec := { name := "fnExactOutPut", fn := fun _ => fun
  | [d1, d2] => { results := [.lit (.bool true)], args := [d1, d2] }
  | _ => none }
def fnExactOutPutRow : OpenClaim := { program := "ytpegfiogfcjofaa", sum := "6646026915f2416d85bc6e605fe28865a7078be7c88e0a55cc79a3dbc0f1d444", func := "loop.example/g00107/laws.FnExactOutPut", spec := "fnExactOutPut", apart := false }
def FnExactOutPutSaid : Prop := fnExactOutPutRow.holds Try.pinned (OpenSpec.ofChange fnExactOutPutSpec)

/-- ITS FALSE NEIGHBOUR: 'it returns false'. Refute it at one input. -/
def fnExactOutPutWrong : ChangeSpec := { name := "fnExactOutPut", fn := fun _ => fun
  | [d1, d2] => { results := [.lit (.bool false)], args := [d1, d2] }
  | _ => none }
def FnExactOutPutWrongFalsely : Prop := fnExactOutPutRow.holds Try.pinned (OpenSpec.ofChange fnExactOutPutWrong)

/-- 'laws.FnExactOutTake': WHATEVER THE INPUT: true; the input reads as it did. -/
def fnExactOutTakeSpec : ChangeSpec := { name := "fnExactOutTake", fn := fun _ => fun
  | [d1, d2, d3] => { results := [.lit (.bool true)], args := [d1, d2, d3] }
  | _ => none }
def fnExactOutTakeRow : OpenClaim := { program := "ytpegfiogfcjofaa", sum := "6646026915f2416d85bc6e605fe28865a7078be7c88e0a55cc79a3dbc0f1d444", func := "loop.example/g00107/laws.FnExactOutTake", spec := "fnExactOutTake", apart := false }
def FnExactOutTakeSaid : Prop := fnExactOutTakeRow.holds Try.pinned (OpenSpec.ofChange fnExactOutTakeSpec)

/-- ITS FALSE NEIGHBOUR: 'it returns false'. Refute it at one input. -/
def fnExactOutTakeWrong : ChangeSpec := { name := "fnExactOutTake", fn := fun _ => fun
  | [d1, d2, d3] => { results := [.lit (.bool false)], args := [d1, d2, d3] }
  | _ => none }
def FnExactOutTakeWrongFalsely : Prop := fnExactOutTakeRow.holds Try.pinned (OpenSpec.ofChange fnExactOutTakeWrong)

/-- 'laws.FnExactOutDone': WHATEVER THE INPUT: true; the input reads as it did. -/
def fnExactOutDoneSpec : ChangeSpec := { name := "fnExactOutDone", fn := fun _ => fun
  | [d1, d2] => { results := [.lit (.bool true)], args := [d1, d2] }
  | _ => none }
def fnExactOutDoneRow : OpenClaim := { program := "ytpegfiogfcjofaa", sum := "6646026915f2416d85bc6e605fe28865a7078be7c88e0a55cc79a3dbc0f1d444", func := "loop.example/g00107/laws.FnExactOutDone", spec := "fnExactOutDone", apart := false }
def FnExactOutDoneSaid : Prop := fnExactOutDoneRow.holds Try.pinned (OpenSpec.ofChange fnExactOutDoneSpec)

/-- ITS FALSE NEIGHBOUR: 'it returns false'. Refute it at one input. -/
def fnExactOutDoneWrong : ChangeSpec := { name := "fnExactOutDone", fn := fun _ => fun
  | [d1, d2] => { results := [.lit (.bool false)], args := [d1, d2] }
  | _ => none }
def FnExactOutDoneWrongFalsely : Prop := fnExactOutDoneRow.holds Try.pinned (OpenSpec.ofChange fnExactOutDoneWrong)

/- THE SECOND FORM. 'bulk': how many values and letters a reading holds, each counted each time it is reached (what is shared counts as often as it is met; a slice's spare places count too). A statement '..UptoSaid' is the law's where the arguments, and the package variables that the reading takes, are together of bulk at most 1048576: NARROWER than '..Said'. Prove '..Said' where nothing that the law and all that it calls make is longer than what came in: it says more and counts as full. Else prove '..UptoSaid'. A law counts once. -/
mutual
def uptoBulk {H : Type} : DataW H → Nat
  | .lit (.string bytes) => bytes.length + 1
  | .lit _ => 1
  | .nil => 1
  | .ptr d => uptoBulk d + 1
  | .slice elems spare => uptoBulkAll elems + uptoBulkAll spare + 1
  | .agg parts => uptoBulkAll parts + 1
  | .iface _ d => uptoBulk d + 1
  | .map entries => uptoBulkEntries entries + 1
  | .held _ => 1
def uptoBulkAll {H : Type} : List (DataW H) → Nat
  | [] => 0
  | d :: r => uptoBulk d + uptoBulkAll r
def uptoBulkEntries {H : Type} : List (Lit × DataW H) → Nat
  | [] => 0
  | x :: r => uptoBulkEntry x + uptoBulkEntries r
def uptoBulkEntry {H : Type} : Lit × DataW H → Nat
  | (.string bytes, d) => bytes.length + uptoBulk d + 1
  | (_, d) => uptoBulk d + 1
 end
def uptoSmall : (H : Type) → List (DataW H) → Bool := fun _ ds => decide (uptoBulkAll ds ≤ 1048576)
def OpenSpec.upto (s : _root_.Go.ChangeSpec) : _root_.Go.OpenSpec := { _root_.Go.OpenSpec.ofChange s with cond := some uptoSmall }

/-- 'laws.FnOutBuf', WHERE WHAT IT READS IS OF BULK AT MOST 1048576: true; the input reads as it did. -/
def fnOutBufUptoRow : OpenClaim := { program := "ytpegfiogfcjofaa", sum := "6646026915f2416d85bc6e605fe28865a7078be7c88e0a55cc79a3dbc0f1d444", func := "loop.example/g00107/laws.FnOutBuf", spec := "fnOutBuf", apart := false, narrowed := true }
def FnOutBufUptoSaid : Prop := fnOutBufUptoRow.holds Try.pinned (OpenSpec.upto fnOutBufSpec)

/-- 'laws.FnInBuf', WHERE WHAT IT READS IS OF BULK AT MOST 1048576: true; the input reads as it did. -/
def fnInBufUptoRow : OpenClaim := { program := "ytpegfiogfcjofaa", sum := "6646026915f2416d85bc6e605fe28865a7078be7c88e0a55cc79a3dbc0f1d444", func := "loop.example/g00107/laws.FnInBuf", spec := "fnInBuf", apart := false, narrowed := true }
def FnInBufUptoSaid : Prop := fnInBufUptoRow.holds Try.pinned (OpenSpec.upto fnInBufSpec)

/-- 'laws.FnExactOutOk', WHERE WHAT IT READS IS OF BULK AT MOST 1048576: true; the input reads as it did. -/
def fnExactOutOkUptoRow : OpenClaim := { program := "ytpegfiogfcjofaa", sum := "6646026915f2416d85bc6e605fe28865a7078be7c88e0a55cc79a3dbc0f1d444", func := "loop.example/g00107/laws.FnExactOutOk", spec := "fnExactOutOk", apart := false, narrowed := true }
def FnExactOutOkUptoSaid : Prop := fnExactOutOkUptoRow.holds Try.pinned (OpenSpec.upto fnExactOutOkSpec)

/-- 'laws.FnExactOutPut', WHERE WHAT IT READS IS OF BULK AT MOST 1048576: true; the input reads as it did. -/
def fnExactOutPutUptoRow : OpenClaim := { program := "ytpegfiogfcjofaa", sum := "6646026915f2416d85bc6e605fe28865a7078be7c88e0a55cc79a3dbc0f1d444", func := "loop.example/g00107/laws.FnExactOutPut", spec := "fnExactOutPut", apart := false, narrowed := true }
def FnExactOutPutUptoSaid : Prop := fnExactOutPutUptoRow.holds Try.pinned (OpenSpec.upto fnExactOutPutSpec)

/-- 'laws.FnExactOutTake', WHERE WHAT IT READS IS OF BULK AT MOST 1048576: true; the input reads as it did. -/
def fnExactOutTakeUptoRow : OpenClaim := { program := "ytpegfiogfcjofaa", sum := "6646026915f2416d85bc6e605fe28865a7078be7c88e0a55cc79a3dbc0f1d444", func := "loop.example/g00107/laws.FnExactOutTake", spec := "fnExactOutTake", apart := false, narrowed := true }
def FnExactOutTakeUptoSaid : Prop := fnExactOutTakeUptoRow.holds Try.pinned (OpenSpec.upto fnExactOutTakeSpec)

/-- 'laws.FnExactOutDone', WHERE WHAT IT READS IS OF BULK AT MOST 1048576: true; the input reads as it did. -/
def fnExactOutDoneUptoRow : OpenClaim := { program := "ytpegfiogfcjofaa", sum := "6646026915f2416d85bc6e605fe28865a7078be7c88e0a55cc79a3dbc0f1d444", func := "loop.example/g00107/laws.FnExactOutDone", spec := "fnExactOutDone", apart := false, narrowed := true }
def FnExactOutDoneUptoSaid : Prop := fnExactOutDoneUptoRow.holds Try.pinned (OpenSpec.upto fnExactOutDoneSpec)

end Rows
end Go.Proofs.Ytpegfiogfcjofaa
