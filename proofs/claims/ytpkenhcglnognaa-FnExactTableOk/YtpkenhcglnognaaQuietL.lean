/-
  Regions that leave their order open and only read, reckon or call what makes new blocks: walked once, step by step, guards and great structs too.
-/
import Derived.Test.YtpkenhcglnognaaPart
import Derived.Test.YtpkenhcglnognaaBig
import Derived.BigQuiet
namespace Go.Proofs.Ytpkenhcglnognaa
open Go.ChangeShapes Go.WideShapes Go.ChangeAt Go.RowKit Go.Deep
set_option linter.unusedVariables false
set_option maxRecDepth 10000

/-- The walk of such a region, veiled: no one looks into it by chance. -/
structure QW (ops : Array Oper) (wb : World) (Q : Act → Prop) (l : List Oper) (a : Act) : Prop where
  out : wpQuiet Try.prog ops (Since wb) Q l a

theorem wp_region_qs {id : Nat} {Q : Exit → Act → World → Prop} {a : Act} {w wb : World} {l : List Oper} (hm : Try.prog.follows .mixedOrders = true) (hB : Region.lexB .any l.toArray = true) (h0 : Since wb w)
    (h : QW l.toArray wb (fun a' => ∀ w', Since wb w' → Q .normal a' w') l a) : (Code.region id l.toArray true).wp Try.prog Q a w :=
  wp_region_quiet (C := Since wb) hm hB h0.drew (by simpa using h.out)

section
variable {ops : Array Oper} {rest : List Oper} {o : Oper} {a : Act} {wb : World} {Q : Act → Prop}

theorem q_frame {l : List Oper} {a a' : Act} (e : a = a') (h : QW ops wb Q l a') : QW ops wb Q l a := by
  rw [e]
  exact h

theorem q_val (hw : Region.wanted o (yielded ops a.tmps) = true) (v : Value) (hrun : ∀ x, Since wb x → (execOp a.eval o).run Try.prog x = .ok (.value v) x) (h : QW ops wb Q rest (a.put o.dst v)) : QW ops wb Q (o :: rest) a :=
  ⟨Go.BigFrame.wpQuiet_want hw fun K hK => ⟨v, fun w hw => by unfold Oper.quietAt; rw [hrun w hw]; exact ⟨rfl, rfl⟩, hK _ h.out⟩⟩

theorem q_call (hw : Region.wanted o (yielded ops a.tmps) = true) (f : FuncId) (args : Array Value) (v : Value) (hrun : ∀ x, (execOp a.eval o).run Try.prog x = .ok (.enter f args) x)
    (hc : ∀ x, Since wb x → Calls Try.prog f args x fun e w' => e = .returned v ∧ Since x w') (h : QW ops wb Q rest (a.put o.dst v)) : QW ops wb Q (o :: rest) a :=
  ⟨Go.BigFrame.wpQuiet_want hw fun K hK => ⟨v, fun w hw => by
    unfold Oper.quietAt
    rw [hrun w]
    exact ⟨rfl, (hc w hw).mono fun e w' ⟨he, hs⟩ => ⟨he, hw.trans hs⟩⟩, hK _ h.out⟩⟩

theorem q_skip (hw : Region.wanted o (yielded ops a.tmps) = false) (h : QW ops wb Q rest (a.put o.dst undef)) : QW ops wb Q (o :: rest) a := ⟨Go.BigFrame.wpQuiet_skip hw h.out⟩

theorem q_nil {a : Act} (h : Q a) : QW ops wb Q [] a := ⟨wpQuiet_nil h⟩

theorem q_cell (hw : Region.wanted o (yielded ops a.tmps) = true) (ty : TypeId) (x : Operand) (ho : o.op = .load ty x) (ad : Addr) (hx : a.eval x = .pointer (some ad)) (v : Value) (hc : ∀ y, Since wb y → y.cell? ad = some v)
    (ha : ∀ y, (isAgg ty).run Try.prog y = .ok false y) (h : QW ops wb Q rest (a.put o.dst v)) : QW ops wb Q (o :: rest) a := by
  refine q_val hw v (fun y hy => ?_) h
  unfold execOp
  simp [ho, hx, Instr.loadAt, Instr.sureAddr, loadVar, ha, hc y hy]

theorem q_part {b : Nat} {cs : Array Value} (B : Blk b wb cs) (hw : Region.wanted o (yielded ops a.tmps) = true) {t : TypeId} {k : Nat} (T : IsBig t k) (x : Operand) (ho : o.op = .load t x) (i : Nat) (hx : a.eval x = .pointer (some ⟨b, i, none⟩))
    (ps : List Value) (hk : ps.length = k) (hp : ∀ j v, ps[j]? = some v → cs[i + j]? = some v) (h : QW ops wb Q rest (a.put o.dst (.agg ps.toArray))) : QW ops wb Q (o :: rest) a := by
  refine q_val hw _ (fun y hy => ?_) h
  obtain ⟨d, h1, h2⟩ := T.row
  have e := run_loadVar_mid (P := Try.prog) y b i t ps d (fun j v hv => by rw [(B.since hy).cell]; exact hp j v hv) h1 h2 (by rw [T.size, hk])
  unfold execOp
  simp only [ho, hx, Instr.loadAt, Instr.sureAddr, Sem.run_bind, Sem.run_pure, Result.andThen_ok, e]

theorem q_big {t : TypeId} {k b : Nat} {cs : Array Value} (T : IsBig t k) (hs : cs.size = k) (B : Blk b wb cs) (hw : Region.wanted o (yielded ops a.tmps) = true) (x : Operand) (ho : o.op = .load t x) (hx : a.eval x = .pointer (some ⟨b, 0, none⟩))
    (h : QW ops wb Q rest (a.put o.dst (.agg cs))) : QW ops wb Q (o :: rest) a :=
  q_part B hw T x ho 0 hx cs.toList (by simpa using hs) (fun j v hv => by rw [Nat.zero_add]; simpa using hv) h
end
end Go.Proofs.Ytpkenhcglnognaa
