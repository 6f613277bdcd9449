/-
  No cell of these rows narrows 'for every input' (looked for: loops, veiled, ifaces, maps, wideKeys, modest, calm, conditions, laid).
  DERIVED. THE GIVEN ROWS OF THIS SEAT. 3 by the template 'for every input the law returns true; each argument reads behind the call as it read before'; 0 by the template 'total and deterministic' (their statements: YtjilpicpfddbfaaTotals.lean).
  GIVEN WITH THE SEED: the statements are not yours to turn. If you find one false, say at which input.
  Laid BY PROGRAM, IN A SANDBOX (cutbox-rows.mjs): the forced cells as the released guide's own fill.sh prints them over the translation d48e23cf13395dab… (all of the seat's roots in one cut). By AI agents, Wed Nov 11 2026. No macro, syntax, notation, axiom, sorry.
-/
import Derived.Test.YtjilpicpfddbfaaChecked
import GoSem.Claim
import GoSem.ClaimJoined
import GoSem.ClaimMapViews
import Derived.JoinedTies
import Derived.KernelRfl
namespace Go.Proofs.Ytjilpicpfddbfaa
/- THE CELL 'sum', in the pinned program and in every row, IS THE sha256 OF THE DUMP (.gsa) THAT YtjilpicpfddbfaaProg.lean LOADS. Nothing in Lean hashes anything: it is a label: what it is worth is what the hold of that sum in a sandbox is worth. -/
noncomputable def Try.pinned : Pinned := { name := "ytjilpicpfddbfaa", sum := "d48e23cf13395dab306472bc3d78afe38142e772bd1904f2c521d67cd901799e", checked := Try.checked }
namespace Rows
def none {H : Type} : Left H := { results := [], args := [] }

/-- 'laws.FnExactMixWords': WHATEVER THE INPUT: true; the input reads as it did. -/
def fnExactMixWordsSpec : ChangeSpec := { name := "fnExactMixWords", fn := fun _ => fun
  | [d1, d2] => { results := [.lit (.bool true)], args := [d1, d2] }
  | _ => none }
def fnExactMixWordsRow : OpenClaim := { program := "ytjilpicpfddbfaa", sum := "d48e23cf13395dab306472bc3d78afe38142e772bd1904f2c521d67cd901799e", func := "loop.example/g00107/laws.FnExactMixWords", spec := "fnExactMixWords", apart := false }
def FnExactMixWordsSaid : Prop := fnExactMixWordsRow.holds Try.pinned (OpenSpec.ofChange fnExactMixWordsSpec)

/-- ITS FALSE NEIGHBOUR: 'it returns false'. Refute it at one input. -/
def fnExactMixWordsWrong : ChangeSpec := { name := "fnExactMixWords", fn := fun _ => fun
  | [d1, d2] => { results := [.lit (.bool false)], args := [d1, d2] }
  | _ => none }
def FnExactMixWordsWrongFalsely : Prop := fnExactMixWordsRow.holds Try.pinned (OpenSpec.ofChange fnExactMixWordsWrong)

/-- 'laws.FnExactCookie': WHATEVER THE INPUT: true; the input reads as it did. -/
def fnExactCookieSpec : ChangeSpec := { name := "fnExactCookie", fn := fun _ => fun
  | [d1, d2, d3, d4, d5] => { results := [.lit (.bool true)], args := [d1, d2, d3, d4, d5] }
  | _ => none }
def fnExactCookieRow : OpenClaim := { program := "ytjilpicpfddbfaa", sum := "d48e23cf13395dab306472bc3d78afe38142e772bd1904f2c521d67cd901799e", func := "loop.example/g00107/laws.FnExactCookie", spec := "fnExactCookie", apart := false }
def FnExactCookieSaid : Prop := fnExactCookieRow.holds Try.pinned (OpenSpec.ofChange fnExactCookieSpec)

/-- ITS FALSE NEIGHBOUR: 'it returns false'. Refute it at one input. -/
def fnExactCookieWrong : ChangeSpec := { name := "fnExactCookie", fn := fun _ => fun
  | [d1, d2, d3, d4, d5] => { results := [.lit (.bool false)], args := [d1, d2, d3, d4, d5] }
  | _ => none }
def FnExactCookieWrongFalsely : Prop := fnExactCookieRow.holds Try.pinned (OpenSpec.ofChange fnExactCookieWrong)

/-- 'laws.FnExactCookieCheck': WHATEVER THE INPUT: true; the input reads as it did. -/
def fnExactCookieCheckSpec : ChangeSpec := { name := "fnExactCookieCheck", fn := fun _ => fun
  | [d1, d2, d3, d4, d5] => { results := [.lit (.bool true)], args := [d1, d2, d3, d4, d5] }
  | _ => none }
def fnExactCookieCheckRow : OpenClaim := { program := "ytjilpicpfddbfaa", sum := "d48e23cf13395dab306472bc3d78afe38142e772bd1904f2c521d67cd901799e", func := "loop.example/g00107/laws.FnExactCookieCheck", spec := "fnExactCookieCheck", apart := false }
def FnExactCookieCheckSaid : Prop := fnExactCookieCheckRow.holds Try.pinned (OpenSpec.ofChange fnExactCookieCheckSpec)

/-- ITS FALSE NEIGHBOUR: 'it returns false'. Refute it at one input. -/
def fnExactCookieCheckWrong : ChangeSpec := { name := "fnExactCookieCheck", fn := fun _ => fun
  | [d1, d2, d3, d4, d5] => { results := [.lit (.bool false)], args := [d1, d2, d3, d4, d5] }
  | _ => none }
def FnExactCookieCheckWrongFalsely : Prop := fnExactCookieCheckRow.holds Try.pinned (OpenSpec.ofChange fnExactCookieCheckWrong)

/- THE SECOND FORM. 'bulk': how many values and letters a reading holds, each counted each time it is reached (what is shared counts as often as it is met; a slice's spare places count too). A statement '..UptoSaid' is the law's where the arguments, and the package variables that the reading takes, are together of bulk at most 1048576: NARROWER than '..Said'. Prove '..Said' where nothing that the law and all that it calls make is longer than what came in: it says more and counts as full. Else prove '..UptoSaid'. A law counts once. -/
mutual
def uptoBulk {H : Type} : DataW H → Nat
  | .lit (.string bytes) => bytes.length + 1
  | .lit _ => 1
  | .nil => 1
  | .ptr d => uptoBulk d + 1
  | .slice elems spare => uptoBulkAll elems + uptoBulkAll spare + 1
  | .agg parts => uptoBulkAll parts + 1
  | .iface _ d => uptoBulk d + 1
  | .map entries => uptoBulkEntries entries + 1
  | .held _ => 1
def uptoBulkAll {H : Type} : List (DataW H) → Nat
  | [] => 0
  | d :: r => uptoBulk d + uptoBulkAll r
def uptoBulkEntries {H : Type} : List (Lit × DataW H) → Nat
  | [] => 0
  | x :: r => uptoBulkEntry x + uptoBulkEntries r
def uptoBulkEntry {H : Type} : Lit × DataW H → Nat
  | (.string bytes, d) => bytes.length + uptoBulk d + 1
  | (_, d) => uptoBulk d + 1
 end
def uptoSmall : (H : Type) → List (DataW H) → Bool := fun _ ds => decide (uptoBulkAll ds ≤ 1048576)
def OpenSpec.upto (s : _root_.Go.ChangeSpec) : _root_.Go.OpenSpec := { _root_.Go.OpenSpec.ofChange s with cond := some uptoSmall }

/-- 'laws.FnExactMixWords', WHERE WHAT IT READS IS OF BULK AT MOST 1048576: true; the input reads as it did. -/
def fnExactMixWordsUptoRow : OpenClaim := { program := "ytjilpicpfddbfaa", sum := "d48e23cf13395dab306472bc3d78afe38142e772bd1904f2c521d67cd901799e", func := "loop.example/g00107/laws.FnExactMixWords", spec := "fnExactMixWords", apart := false, narrowed := true }
def FnExactMixWordsUptoSaid : Prop := fnExactMixWordsUptoRow.holds Try.pinned (OpenSpec.upto fnExactMixWordsSpec)

/-- 'laws.FnExactCookie', WHERE WHAT IT READS IS OF BULK AT MOST 1048576: true; the input reads as it did. -/
def fnExactCookieUptoRow : OpenClaim := { program := "ytjilpicpfddbfaa", sum := "d48e23cf13395dab306472bc3d78afe38142e772bd1904f2c521d67cd901799e", func := "loop.example/g00107/laws.FnExactCookie", spec := "fnExactCookie", apart := false, narrowed := true }
def FnExactCookieUptoSaid : Prop := fnExactCookieUptoRow.holds Try.pinned (OpenSpec.upto fnExactCookieSpec)

/-- 'laws.FnExactCookieCheck', WHERE WHAT IT READS IS OF BULK AT MOST 1048576: true; the input reads as it did. -/
def fnExactCookieCheckUptoRow : OpenClaim := { program := "ytjilpicpfddbfaa", sum := "d48e23cf13395dab306472bc3d78afe38142e772bd1904f2c521d67cd901799e", func := "loop.example/g00107/laws.FnExactCookieCheck", spec := "fnExactCookieCheck", apart := false, narrowed := true }
def FnExactCookieCheckUptoSaid : Prop := fnExactCookieCheckUptoRow.holds Try.pinned (OpenSpec.upto fnExactCookieCheckSpec)

end Rows
end Go.Proofs.Ytjilpicpfddbfaa
