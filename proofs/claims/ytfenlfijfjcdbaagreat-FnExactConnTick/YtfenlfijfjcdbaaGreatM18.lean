/-
  Regions that leave their order open and only read, reckon or call what makes new blocks: walked once, step by step, guards and great structs too.
  A list of segments that grows, behind the veil.
  What spec does to an end: it ends, and it takes the time of an answer.
  An act: made, segments gathered, an end that is over.
  What an act's methods do: how long to wait, segments gathered, an end moved on.
-/
import Derived.Test.YtfenlfijfjcdbaaGreatAct
import Derived.BigQuiet
import Derived.Test.YtfenlfijfjcdbaaGreatM7
import Derived.Test.YtfenlfijfjcdbaaGreatM12
import Derived.Test.YtfenlfijfjcdbaaGreatConn
import Derived.Test.YtfenlfijfjcdbaaGreatM16
import Derived.Deep.DeepCutAuto
import Derived.Test.YtfenlfijfjcdbaaGreatActV
namespace Go.Proofs.YtfenlfijfjcdbaaGreat
open Go.ChangeShapes Go.WideShapes Go.ChangeAt Go.RowKit Go.Deep
set_option linter.unusedVariables false
set_option maxRecDepth 10000

structure QW (ops : Array Oper) (wb : World) (Q : Act → Prop) (l : List Oper) (a : Act) : Prop where
  out : wpQuiet Tryz.prog ops (Since wb) Q l a

theorem wp_region_qs {id : Nat} {Q : Exit → Act → World → Prop} {a : Act} {w wb : World} {l : List Oper} (hm : Tryz.prog.follows .mixedOrders = true) (hB : Region.lexB .any l.toArray = true) (h0 : Since wb w)
    (h : QW l.toArray wb (fun a' => ∀ w', Since wb w' → Q .normal a' w') l a) : (Code.region id l.toArray true).wp Tryz.prog Q a w :=
  wp_region_quiet (C := Since wb) hm hB h0.drew (by simpa using h.out)

section
variable {ops : Array Oper} {rest : List Oper} {o : Oper} {a : Act} {wb : World} {Q : Act → Prop}

theorem q_frame {l : List Oper} {a a' : Act} (e : a = a') (h : QW ops wb Q l a') : QW ops wb Q l a := by
  rw [e]
  exact h

theorem q_val (hw : Region.wanted o (yielded ops a.tmps) = true) (v : Value) (hrun : ∀ x, Since wb x → (execOp a.eval o).run Tryz.prog x = .ok (.value v) x) (h : QW ops wb Q rest (a.put o.dst v)) : QW ops wb Q (o :: rest) a :=
  ⟨Go.BigFrame.wpQuiet_want hw fun K hK => ⟨v, fun w hw => by unfold Oper.quietAt; rw [hrun w hw]; exact ⟨rfl, rfl⟩, hK _ h.out⟩⟩

theorem q_call (hw : Region.wanted o (yielded ops a.tmps) = true) (f : FuncId) (args : Array Value) (v : Value) (hrun : ∀ x, (execOp a.eval o).run Tryz.prog x = .ok (.enter f args) x)
    (hc : ∀ x, Since wb x → Calls Tryz.prog f args x fun e w' => e = .returned v ∧ Since x w') (h : QW ops wb Q rest (a.put o.dst v)) : QW ops wb Q (o :: rest) a :=
  ⟨Go.BigFrame.wpQuiet_want hw fun K hK => ⟨v, fun w hw => by
    unfold Oper.quietAt
    rw [hrun w]
    exact ⟨rfl, (hc w hw).mono fun e w' ⟨he, hs⟩ => ⟨he, hw.trans hs⟩⟩, hK _ h.out⟩⟩

theorem q_skip (hw : Region.wanted o (yielded ops a.tmps) = false) (h : QW ops wb Q rest (a.put o.dst undef)) : QW ops wb Q (o :: rest) a := ⟨Go.BigFrame.wpQuiet_skip hw h.out⟩

theorem q_nil {a : Act} (h : Q a) : QW ops wb Q [] a := ⟨wpQuiet_nil h⟩

theorem q_cell (hw : Region.wanted o (yielded ops a.tmps) = true) (ty : TypeId) (x : Operand) (ho : o.op = .load ty x) (ad : Addr) (hx : a.eval x = .pointer (some ad)) (v : Value) (hc : ∀ y, Since wb y → y.cell? ad = some v)
    (ha : ∀ y, (isAgg ty).run Tryz.prog y = .ok false y) (h : QW ops wb Q rest (a.put o.dst v)) : QW ops wb Q (o :: rest) a := by
  refine q_val hw v (fun y hy => ?_) h
  unfold execOp
  simp [ho, hx, Instr.loadAt, Instr.sureAddr, loadVar, ha, hc y hy]

theorem q_part {b : Nat} {cs : Array Value} (B : Blk b wb cs) (hw : Region.wanted o (yielded ops a.tmps) = true) {t : TypeId} {k : Nat} (T : IsBig t k) (x : Operand) (ho : o.op = .load t x) (i : Nat) (hx : a.eval x = .pointer (some ⟨b, i, none⟩))
    (ps : List Value) (hk : ps.length = k) (hp : ∀ j v, ps[j]? = some v → cs[i + j]? = some v) (h : QW ops wb Q rest (a.put o.dst (.agg ps.toArray))) : QW ops wb Q (o :: rest) a := by
  refine q_val hw _ (fun y hy => ?_) h
  obtain ⟨d, h1, h2⟩ := T.row
  have e := run_loadVar_mid (P := Tryz.prog) y b i t ps d (fun j v hv => by rw [(B.since hy).cell]; exact hp j v hv) h1 h2 (by rw [T.size, hk])
  unfold execOp
  simp only [ho, hx, Instr.loadAt, Instr.sureAddr, Sem.run_bind, Sem.run_pure, Result.andThen_ok, e]

theorem q_end {b : Nat} {c : Cn} {now : Int} {sv : Value} (B : Blk b wb (actCells c now sv)) (hw : Region.wanted o (yielded ops a.tmps) = true) (x : Operand) (ho : o.op = .load 42 x) (hx : a.eval x = .pointer (some ⟨b, 0, none⟩))
    (h : QW ops wb Q rest (a.put o.dst (.agg (cnCells c)))) : QW ops wb Q (o :: rest) a :=
  q_part B hw cn_big x ho 0 hx (cnCells c).toList rfl (act_end c now sv) h

theorem q_big {t : TypeId} {k b : Nat} {cs : Array Value} (T : IsBig t k) (hs : cs.size = k) (B : Blk b wb cs) (hw : Region.wanted o (yielded ops a.tmps) = true) (x : Operand) (ho : o.op = .load t x) (hx : a.eval x = .pointer (some ⟨b, 0, none⟩))
    (h : QW ops wb Q rest (a.put o.dst (.agg cs))) : QW ops wb Q (o :: rest) a :=
  q_part B hw T x ho 0 hx cs.toList (by simpa using hs) (fun j v hv => by rw [Nat.zero_add]; simpa using hv) h
end
end Go.Proofs.YtfenlfijfjcdbaaGreat

namespace Go.Proofs.YtfenlfijfjcdbaaGreat
open Go.ChangeShapes Go.WideShapes Go.ChangeAt Go.RowKit
set_option linter.unusedVariables false
set_option maxRecDepth 10000

theorem vA {ops : Array Oper} {rest : List Oper} {o : Oper} {a : Act} {w : World} {Q : Exit → Act → World → Prop} {B n g c : Nat} {xs : List Sg} {ad : Addr} {ys : List Sg} {s x : Operand} (T : Held shG w B g n c xs) (R : Rd shG w (some ad) 1 ys) (hmax : n + 1 ≤ maxLen) (hby : (n + 1) * 64 ≤ 140737488355328) (hB : B ≤ w.heap.size)
    (k : ∀ g' cap w', Held shG w' B g' (n + 1) cap (xs ++ ys) → w.grownBy w' (Value.slice (some ⟨g, 0, none⟩) n c).ownBlock → ((Value.slice (some ⟨g, 0, none⟩) n c).ownBlock = some g' ∨ g' = w.heap.size) → VL ops Q rest (a.put o.dst (.slice (some ⟨g', 0, none⟩) (n + 1) cap)) w')
    (ho : o.op = .call { callee := .builtin .append, args := #[s, x], argTypes := #[43, 43] } := by rfl) (hg : o.guard = none := by rfl) (hs : a.eval s = .slice (some ⟨g, 0, none⟩) n c := by kernel_rfl) (hx : a.eval x = .slice (some ad) 1 1 := by kernel_rfl) : VL ops Q (o :: rest) a w :=
  ⟨app_own laidG hg s x ho hs T hx R (by decide) hmax hby hB _ rfl fun g' cap w' p q r => (k g' cap w' p q r).out⟩
end Go.Proofs.YtfenlfijfjcdbaaGreat

namespace Go.Proofs.YtfenlfijfjcdbaaGreat
open Go.ChangeShapes Go.WideShapes Go.ChangeAt Go.RowKit
set_option linter.unusedVariables false
set_option maxRecDepth 10000

def endC (c : Cn) (y : Int) : Cn := { c with st := 0, why := y, agn := 0, prb := 0, rst := 0, owe := false }

set_option maxRecDepth 20000 in
set_option maxHeartbeats 4000000 in
theorem specEnd (c : Cn) (y : Int) (w : World) :
    Calls Tryz.prog 19 #[cnVal c, .int .i64 y] w fun e w' => e = .returned (cnVal (endC c y)) ∧ Since w w' := by
  unfold cnVal
  go_enter Tryz.func19, Tryz.ntmps19
  go_upto_region 1 with (fail)
  rw [cn_zero]
  have A := (Blk.new w (cnCells c) 42).since ((Since.refl _).alloc (.cells (cnCells cnZero) 42))
  have Z := Blk.new (w.alloc (.cells (cnCells c) 42)) (cnCells cnZero) 42
  rw [World.size_alloc] at Z
  have G := ((Since.refl w).alloc (.cells (cnCells c) 42)).alloc (.cells (cnCells cnZero) 42)
  generalize (w.alloc (.cells (cnCells c) 42)).alloc (.cells (cnCells cnZero) 42) = w1 at A Z G ⊢
  have f0_st : w1.cell? ⟨w.heap.size, 0, none⟩ = some (.int .i64 c.st) := A.cell 0
  have z0 := A.fz 0
  obtain ⟨y0, e0, t0, B0⟩ := put_cn (c' := { c with st := 0 }) A 0 (.int .i64 0) (by decide) rfl
  replace Z := Z.touch t0 (by omega)
  replace G := since_touch G t0 (by omega)
  have f1_why : y0.cell? ⟨w.heap.size, 35, none⟩ = some (.int .i64 c.why) := B0.cell 35
  have z1 := B0.fz 35
  obtain ⟨y1, e1, t1, B1⟩ := put_cn (c' := { c with st := 0, why := y }) B0 35 (.int .i64 y) (by decide) rfl
  replace Z := Z.touch t1 (by omega)
  replace G := since_touch G t1 (by omega)
  have f2_agn : y1.cell? ⟨w.heap.size, 31, none⟩ = some (.int .i64 c.agn) := B1.cell 31
  have z2 := B1.fz 31
  obtain ⟨y2, e2, t2, B2⟩ := put_cn (c' := { c with st := 0, why := y, agn := 0 }) B1 31 (.int .i64 0) (by decide) rfl
  replace Z := Z.touch t2 (by omega)
  replace G := since_touch G t2 (by omega)
  have f3_prb : y2.cell? ⟨w.heap.size, 32, none⟩ = some (.int .i64 c.prb) := B2.cell 32
  have z3 := B2.fz 32
  obtain ⟨y3, e3, t3, B3⟩ := put_cn (c' := { c with st := 0, why := y, agn := 0, prb := 0 }) B2 32 (.int .i64 0) (by decide) rfl
  replace Z := Z.touch t3 (by omega)
  replace G := since_touch G t3 (by omega)
  have f4_rst : y3.cell? ⟨w.heap.size, 33, none⟩ = some (.int .i64 c.rst) := B3.cell 33
  have z4 := B3.fz 33
  obtain ⟨y4, e4, t4, B4⟩ := put_cn (c' := { c with st := 0, why := y, agn := 0, prb := 0, rst := 0 }) B3 33 (.int .i64 0) (by decide) rfl
  replace Z := Z.touch t4 (by omega)
  replace G := since_touch G t4 (by omega)
  have f5_owe : y4.cell? ⟨w.heap.size, 36, none⟩ = some (.bool c.owe) := B4.cell 36
  have z5 := B4.fz 36
  obtain ⟨y5, e5, t5, B5⟩ := put_cn (c' := { c with st := 0, why := y, agn := 0, prb := 0, rst := 0, owe := false }) B4 36 (.bool false) (by decide) rfl
  replace Z := Z.touch t5 (by omega)
  replace G := since_touch G t5 (by omega)
  go_upto_region 7 with (fail)
  refine wp_region_lit ?_
  refine load_cn B5 rfl _ rfl rfl ?_
  refine store_cn Z rfl _ _ rfl rfl rfl ?_
  intro z tz Bz
  replace G := since_touch G tz (by omega)
  go_wp2_with (fail)
  exact bodyPost_ret (results_cn rfl _ rfl Bz) rfl ⟨rfl, G⟩
end Go.Proofs.YtfenlfijfjcdbaaGreat

namespace Go.Proofs.YtfenlfijfjcdbaaGreat
open Go.ChangeShapes Go.WideShapes Go.ChangeAt Go.RowKit
set_option linter.unusedVariables false
set_option maxRecDepth 10000

set_option maxRecDepth 10000 in
theorem run_build1 (s : Sg) (w : World) : (Instr.buildSlice 43 1 #[(0, .agg (sgCells s))]).run Tryz.prog w = .ok (.slice (some ⟨w.heap.size, 0, none⟩) 1 1) (w.alloc (.cells (sgCells s) 61)) := by kernel_rfl

theorem does_build1 {op : Oper} {a : Act} {w : World} {R : Value → World → Prop} (s : Sg) (x : Operand) (ho : op.op = .buildSlice 43 1 #[(0, x)]) (hx : a.eval x = .agg (sgCells s))
    (h : R (.slice (some ⟨w.heap.size, 0, none⟩) 1 1) (w.alloc (.cells (sgCells s) 61))) : does Tryz.prog op a w R := by
  have e := run_build1 s w
  have e2 : (Array.map (fun y : Nat × Operand => (y.fst, a.eval y.snd)) #[(0, x)]) = #[(0, .agg (sgCells s))] := by simp [hx]
  unfold does execOp
  simp only [ho, e2, Sem.run_bind, e, Result.andThen_ok, Sem.run_pure]
  exact h

set_option maxRecDepth 20000 in
set_option maxHeartbeats 8000000 in
theorem implSends (B g pg : Nat) (now : Int) (ps : List (Int × ByteArray)) (d : Cn) (gs n cap : Nat) (xs : List Sg) (s : Sg) (hb : Nat) (hn : n ≤ 200000) (w : World) (a : Acts B g pg now ps d gs n cap xs w) (Y : Held shG w B hb 1 1 [s]) (hne : g ≠ hb) :
    Calls Tryz.prog 86 #[.pointer (some ⟨g, 0, none⟩), .slice (some ⟨hb, 0, none⟩) 1 1] w fun e w' => e = .returned (.tuple #[]) ∧ ActsX B g pg now ps (d) (xs ++ [s]) w' ∧ Base B w w' := by
  obtain ⟨A, L, P, pa, lo, i, j, l⟩ := a
  have hA := A.lt
  have hL := L.lt
  have hLo := L.low'
  have hP := P.lt
  have hPo := P.low'
  have G : Base B w w := Base.refl (by omega)
  have hY := Y.lt
  go_enter Tryz.func86, Tryz.ntmps86
  refine vR ?_
  refine vV (.pointer (some ⟨g, 0, none⟩)) ?_
  refine vV (.pointer (some ⟨g, 0, none⟩)) ?_
  refine vV (.pointer (some ⟨g, 0, none⟩)) ?_
  refine vV (.pointer (some ⟨g, 38, none⟩)) ?_
  refine vD (.slice (some ⟨gs, 0, none⟩) n cap) (A.cell 38) ?_
  refine vV (.slice (some ⟨hb, 0, none⟩) 1 1) ?_
  refine vA L Y.reads (by unfold maxLen; omega) (by omega) (by have := G.size; omega) ?_
  intro qb5 qc6 qw1 qL2 qr3 ho
  have qt4 := touch_grownG qr3
  have qL2_o := L.low'
  have qL2_p := L.lt
  replace ho := own_or ho
  replace A := A.touch qt4 (by omega)
  replace P := P.touch qt4 (by omega)
  replace G := G.touch qt4 (by omega)
  have qt4_s := qt4.size
  have qL2_o2 := qL2.low'
  have qL2_l := qL2.lt
  clear L Y
  refine vV (.pointer (some ⟨g, 0, none⟩)) ?_
  refine vV (.pointer (some ⟨g, 38, none⟩)) ?_
  refine sC (actCells d now (.slice (some ⟨qb5, 0, none⟩) (n + 1) qc6)) A 38 (.slice (some ⟨qb5, 0, none⟩) (n + 1) qc6) (act_size _ _ _) ?_
  intro qw7 qt8 qB9
  clear A
  replace P := P.touch qt8 (by omega)
  replace qL2 := qL2.touch qt8 (by omega)
  replace G := G.touch qt8 (by omega)
  have qt8_s := qt8.size
  refine vE #[.pointer (some ⟨g, 0, none⟩),.slice (some ⟨hb, 0, none⟩) 1 1,U,U,.pointer (some ⟨g, 0, none⟩),.pointer (some ⟨g, 0, none⟩),.pointer (some ⟨g, 0, none⟩),.pointer (some ⟨g, 38, none⟩),.slice (some ⟨gs, 0, none⟩) n cap,.slice (some ⟨hb, 0, none⟩) 1 1,.slice (some ⟨qb5, 0, none⟩) (n + 1) qc6,.pointer (some ⟨g, 0, none⟩),.pointer (some ⟨g, 38, none⟩)] ?_
  go_wp2_with (fail)
  exact bodyPost_end (v := .tuple #[]) (results_none rfl _ _ _) rfl ⟨rfl, ⟨_, _, _, ⟨qB9, qL2, P, pa, lo, (by omega), (by omega), (by omega)⟩⟩, G⟩

set_option maxRecDepth 20000 in
set_option maxHeartbeats 8000000 in
theorem implActOf (c : Cn) (ps : List (Int × ByteArray)) (now : Int) (gc : GoodC c ps) (w : World) (R : Rd shP w c.pa c.pn ps) :
    Calls Tryz.prog 34 #[.agg (cnCells c), .int .i64 now] w fun e w' => ∃ g pg gs, e = .returned (.pointer (some ⟨g, 0, none⟩)) ∧ Acts w.heap.size g pg now ps { c with pa := some ⟨pg, 0, none⟩, pc := c.pn } gs 0 0 [] w' ∧ Since w w' := by
  have hc := fun wx Rx => implFresh c ps gc wx Rx
  unfold cnVal at hc
  have G := (Since.refl w).alloc (.cells (cnCells c) 42)
  have A := Blk.new w (cnCells c) 42
  go_enter Tryz.func34, Tryz.ntmps34
  go_upto_region 1 with (fail)
  generalize w.alloc (.cells (cnCells c) 42) = x0 at A G ⊢
  have hA := A.lt
  refine vR ?_
  refine vB cn_big A (cn_size _) ?_
  refine vC (hc _ (R.since G)) ?_
  rintro _ qw1 ⟨pg, rfl, H, qg2⟩
  refine ⟨_, rfl, ?_⟩
  replace A := A.since qg2
  replace G := G.trans qg2
  have qg2_s := qg2.size
  have hH0 := H.low'
  replace H := H.raise (show w.heap.size ≤ pg by omega)
  have hH := H.lt
  refine vV (.int .i64 now) ?_
  refine vW (qw1.alloc (.cells #[] 61)) (.slice (some ⟨qw1.heap.size, 0, none⟩) 0 0) ?_
  have qL4 := heldG0 qw1
  have qg5 := (Since.refl qw1).alloc (.cells #[] 61)
  replace A := A.since qg5
  replace H := H.since qg5
  replace G := G.trans qg5
  generalize qw1.alloc (.cells #[] 61) = qw3 at A H G qL4 qg5 ⊢
  have qg5_s := qg5.size
  have qL4_g := G.size
  have qL4_l := qL4.lt
  replace qL4 := qL4.raise (show w.heap.size ≤ qw1.heap.size by omega)
  refine vF #[.agg (cnCells c),.int .i64 now,.pointer (some ⟨w.heap.size, 0, none⟩),U,.pointer none,.agg (cnCells c),.agg (cnCells { c with pa := some ⟨pg, 0, none⟩, pc := c.pn }),.int .i64 now,.slice (some ⟨qw1.heap.size, 0, none⟩) 0 0,U,U] ?_
  refine VL.mk ?_
  refine VL.out ?_
  refine vV (.agg (actCells { c with pa := some ⟨pg, 0, none⟩, pc := c.pn } now (.slice (some ⟨qw1.heap.size, 0, none⟩) 0 0))) ?_
  refine vW (qw3.alloc (.cells (actCells { c with pa := some ⟨pg, 0, none⟩, pc := c.pn } now (.slice (some ⟨qw1.heap.size, 0, none⟩) 0 0)) 77)) (.pointer (some ⟨qw3.heap.size, 0, none⟩)) ?_
  have qB7 := Blk.new qw3 (actCells { c with pa := some ⟨pg, 0, none⟩, pc := c.pn } now (.slice (some ⟨qw1.heap.size, 0, none⟩) 0 0)) 77
  have qg8 := (Since.refl qw3).alloc (.cells (actCells { c with pa := some ⟨pg, 0, none⟩, pc := c.pn } now (.slice (some ⟨qw1.heap.size, 0, none⟩) 0 0)) 77)
  replace A := A.since qg8
  replace H := H.since qg8
  replace qL4 := qL4.since qg8
  replace G := G.trans qg8
  generalize qw3.alloc (.cells (actCells { c with pa := some ⟨pg, 0, none⟩, pc := c.pn } now (.slice (some ⟨qw1.heap.size, 0, none⟩) 0 0)) 77) = qw6 at A H qL4 G qB7 qg8 ⊢
  have qB7_l := qB7.lt
  have qg8_s := qg8.size
  refine vV (.pointer (some ⟨qw3.heap.size, 0, none⟩)) ?_
  refine vE #[.agg (cnCells c),.int .i64 now,.pointer (some ⟨w.heap.size, 0, none⟩),U,.pointer (some ⟨qw3.heap.size, 0, none⟩),.agg (cnCells c),.agg (cnCells { c with pa := some ⟨pg, 0, none⟩, pc := c.pn }),.int .i64 now,.slice (some ⟨qw1.heap.size, 0, none⟩) 0 0,.agg (actCells { c with pa := some ⟨pg, 0, none⟩, pc := c.pn } now (.slice (some ⟨qw1.heap.size, 0, none⟩) 0 0)),.pointer (some ⟨qw3.heap.size, 0, none⟩)] ?_
  go_wp2_with (fail)
  go_ret
  exact ⟨_, _, _, rfl, ⟨qB7, qL4, H, rfl, by omega, by omega, by omega, by omega⟩, G⟩

set_option maxRecDepth 20000 in
set_option maxHeartbeats 8000000 in
theorem implFinish (B g pg : Nat) (now : Int) (ps : List (Int × ByteArray)) (d : Cn) (gs n cap : Nat) (xs : List Sg) (why : Int) (w : World) (a : Acts B g pg now ps d gs n cap xs w) :
    Calls Tryz.prog 66 #[.pointer (some ⟨g, 0, none⟩), .int .i64 why] w fun e w' => e = .returned (.tuple #[]) ∧ ActsX B g pg now ps (endC d why) (xs) w' ∧ Base B w w' := by
  obtain ⟨A, L, P, pa, lo, i, j, l⟩ := a
  have hA := A.lt
  have hL := L.lt
  have hLo := L.low'
  have hP := P.lt
  have hPo := P.low'
  have G : Base B w w := Base.refl (by omega)
  go_enter Tryz.func66, Tryz.ntmps66
  go_upto_region 0 with (fail)
  refine vR ?_
  refine vV (.pointer (some ⟨g, 0, none⟩)) ?_
  refine vV (.pointer (some ⟨g, 0, none⟩)) ?_
  refine vV (.int .i64 why) ?_
  refine vV (.pointer (some ⟨g, 0, none⟩)) ?_
  refine vV (.pointer (some ⟨g, 0, none⟩)) ?_
  refine sC (actCells { d with st := 0 } now (.slice (some ⟨gs, 0, none⟩) n cap)) A 0 (.int .i64 0) (act_size _ _ _) ?_
  intro qw1 qt2 qB3
  clear A
  replace L := L.touch qt2 (by omega)
  replace P := P.touch qt2 (by omega)
  replace G := G.touch qt2 (by omega)
  have qt2_s := qt2.size
  refine vV (.pointer (some ⟨g, 0, none⟩)) ?_
  refine vV (.pointer (some ⟨g, 35, none⟩)) ?_
  refine sC (actCells { d with st := 0, why := why } now (.slice (some ⟨gs, 0, none⟩) n cap)) qB3 35 (.int .i64 why) (act_size _ _ _) ?_
  intro qw4 qt5 qB6
  clear qB3
  replace L := L.touch qt5 (by omega)
  replace P := P.touch qt5 (by omega)
  replace G := G.touch qt5 (by omega)
  have qt5_s := qt5.size
  refine vE #[.pointer (some ⟨g, 0, none⟩),.int .i64 why,U,U,.pointer (some ⟨g, 0, none⟩),.pointer (some ⟨g, 0, none⟩),.int .i64 why,.pointer (some ⟨g, 0, none⟩),.pointer (some ⟨g, 0, none⟩),.pointer (some ⟨g, 0, none⟩),.pointer (some ⟨g, 35, none⟩),U,U,U,U,U,U,U,U,U,U,U,U] ?_
  go_upto_region 1 with (fail)
  refine vR ?_
  refine vV (.pointer (some ⟨g, 0, none⟩)) ?_
  refine vV (.pointer (some ⟨g, 0, none⟩)) ?_
  refine vV (.pointer (some ⟨g, 0, none⟩)) ?_
  refine vV (.pointer (some ⟨g, 0, none⟩)) ?_
  refine vV (.pointer (some ⟨g, 0, none⟩)) ?_
  refine vV (.pointer (some ⟨g, 31, none⟩)) ?_
  refine sC (actCells { d with st := 0, why := why, agn := 0 } now (.slice (some ⟨gs, 0, none⟩) n cap)) qB6 31 (.int .i64 0) (act_size _ _ _) ?_
  intro qw7 qt8 qB9
  clear qB6
  replace L := L.touch qt8 (by omega)
  replace P := P.touch qt8 (by omega)
  replace G := G.touch qt8 (by omega)
  have qt8_s := qt8.size
  refine vV (.pointer (some ⟨g, 0, none⟩)) ?_
  refine vV (.pointer (some ⟨g, 32, none⟩)) ?_
  refine sC (actCells { d with st := 0, why := why, agn := 0, prb := 0 } now (.slice (some ⟨gs, 0, none⟩) n cap)) qB9 32 (.int .i64 0) (act_size _ _ _) ?_
  intro qw10 qt11 qB12
  clear qB9
  replace L := L.touch qt11 (by omega)
  replace P := P.touch qt11 (by omega)
  replace G := G.touch qt11 (by omega)
  have qt11_s := qt11.size
  refine vV (.pointer (some ⟨g, 0, none⟩)) ?_
  refine vV (.pointer (some ⟨g, 33, none⟩)) ?_
  refine sC (actCells { d with st := 0, why := why, agn := 0, prb := 0, rst := 0 } now (.slice (some ⟨gs, 0, none⟩) n cap)) qB12 33 (.int .i64 0) (act_size _ _ _) ?_
  intro qw13 qt14 qB15
  clear qB12
  replace L := L.touch qt14 (by omega)
  replace P := P.touch qt14 (by omega)
  replace G := G.touch qt14 (by omega)
  have qt14_s := qt14.size
  refine vV (.pointer (some ⟨g, 0, none⟩)) ?_
  refine vV (.pointer (some ⟨g, 36, none⟩)) ?_
  refine sC (actCells { d with st := 0, why := why, agn := 0, prb := 0, rst := 0, owe := false } now (.slice (some ⟨gs, 0, none⟩) n cap)) qB15 36 (.bool false) (act_size _ _ _) ?_
  intro qw16 qt17 qB18
  clear qB15
  replace L := L.touch qt17 (by omega)
  replace P := P.touch qt17 (by omega)
  replace G := G.touch qt17 (by omega)
  have qt17_s := qt17.size
  refine vE #[.pointer (some ⟨g, 0, none⟩),.int .i64 why,U,U,.pointer (some ⟨g, 0, none⟩),.pointer (some ⟨g, 0, none⟩),.int .i64 why,.pointer (some ⟨g, 0, none⟩),.pointer (some ⟨g, 0, none⟩),.pointer (some ⟨g, 0, none⟩),.pointer (some ⟨g, 35, none⟩),.pointer (some ⟨g, 0, none⟩),.pointer (some ⟨g, 0, none⟩),.pointer (some ⟨g, 0, none⟩),.pointer (some ⟨g, 0, none⟩),.pointer (some ⟨g, 0, none⟩),.pointer (some ⟨g, 31, none⟩),.pointer (some ⟨g, 0, none⟩),.pointer (some ⟨g, 32, none⟩),.pointer (some ⟨g, 0, none⟩),.pointer (some ⟨g, 33, none⟩),.pointer (some ⟨g, 0, none⟩),.pointer (some ⟨g, 36, none⟩)] ?_
  go_wp2_with (fail)
  exact bodyPost_end (v := .tuple #[]) (results_none rfl _ _ _) rfl ⟨rfl, ⟨_, _, _, ⟨qB18, L, P, pa, lo, (by omega), (by omega), (by omega)⟩⟩, G⟩
end Go.Proofs.YtfenlfijfjcdbaaGreat

namespace Go.Proofs.YtfenlfijfjcdbaaGreat
open Go.ChangeShapes Go.WideShapes Go.ChangeAt Go.RowKit
set_option linter.unusedVariables false
set_option maxRecDepth 10000

set_option maxRecDepth 20000 in
set_option maxHeartbeats 8000000 in
theorem implFromNow (g : Nat) (now : Int) (d : Cn) (sv : Value) (h0 : 0 ≤ now) (h1 : now ≤ 1000000000) (w : World) (A : Blk g w (actCells d now sv)) :
    Calls Tryz.prog 89 #[.pointer (some ⟨g, 0, none⟩)] w fun e w' => e = .returned (.int .i64 (now + waitOf d.rA d.rS d.rV d.rD)) ∧ Since w w' := by
  have hw := fun wx => implWait d.rA d.rS d.rV d.rD wx
  have hb := wait_in11 d.rA d.rS d.rV d.rD
  unfold rttVal at hw
  generalize waitOf d.rA d.rS d.rV d.rD = wt at hw hb ⊢
  have hs : Hid (IntKind.i64.wrap (now + wt) = now + wt) := by
    show _ = _
    rw [IntWalk.i64_left]
    exact IntWalk.wrap64_in _ ⟨by omega, by omega⟩
  clear hb
  have G := Since.refl w
  go_enter Tryz.func89, Tryz.ntmps89
  go_upto_region 1 with (fail)
  refine wp_region_qs (wb := w) (by kernel_rfl) (by kernel_rfl) (Since.refl _) ?_
  refine q_val (by kernel_rfl) (.pointer (some ⟨g, 0, none⟩)) (fun x hx => by kernel_rfl) ?_
  refine q_val (by kernel_rfl) (.pointer (some ⟨g, 0, none⟩)) (fun x hx => by kernel_rfl) ?_
  refine q_val (by kernel_rfl) (.pointer (some ⟨g, 37, none⟩)) (fun x hx => by kernel_rfl) ?_
  refine q_cell (by kernel_rfl) _ _ rfl ⟨g, 37, none⟩ (by kernel_rfl) (.int .i64 now) (fun y hy => (A.since hy).cell 37) (fun y => by kernel_rfl) ?_
  refine q_val (by kernel_rfl) (.pointer (some ⟨g, 0, none⟩)) (fun x hx => by kernel_rfl) ?_
  refine q_val (by kernel_rfl) (.pointer (some ⟨g, 0, none⟩)) (fun x hx => by kernel_rfl) ?_
  refine q_val (by kernel_rfl) (.pointer (some ⟨g, 0, none⟩)) (fun x hx => by kernel_rfl) ?_
  refine q_val (by kernel_rfl) (.pointer (some ⟨g, 19, none⟩)) (fun x hx => by kernel_rfl) ?_
  refine q_part A (by kernel_rfl) pRtt_big _ rfl 19 (by kernel_rfl) [.bool d.rA, .int .i64 d.rS, .int .i64 d.rV, .int .i64 d.rD] rfl (fun j v hj => by match j, hj with | 0, h => exact h | 1, h => exact h | 2, h => exact h | 3, h => exact h | n + 4, h => exact absurd h (by simp)) ?_
  refine q_call (by kernel_rfl) 109 #[.agg #[.bool d.rA, .int .i64 d.rS, .int .i64 d.rV, .int .i64 d.rD]] (.int .i64 wt) (fun x => by kernel_rfl) (fun x hx => hw x) ?_
  refine q_val (by kernel_rfl) (.int .i64 (now + wt)) (fun x hx => by rw [← hs.out]; kernel_rfl) ?_
  refine q_val (by kernel_rfl) (.int .i64 (now + wt)) (fun x hx => by kernel_rfl) ?_
  refine q_frame (a' := { tmps := #[.pointer (some ⟨g, 0, none⟩),U,.int .i64 (now + wt),.pointer (some ⟨g, 0, none⟩),.pointer (some ⟨g, 0, none⟩),.pointer (some ⟨g, 37, none⟩),.int .i64 now,.pointer (some ⟨g, 0, none⟩),.pointer (some ⟨g, 0, none⟩),.pointer (some ⟨g, 0, none⟩),.pointer (some ⟨g, 19, none⟩),.agg #[.bool d.rA, .int .i64 d.rS, .int .i64 d.rV, .int .i64 d.rD],.int .i64 wt,.int .i64 (now + wt)], defers := [] }) (by kernel_rfl) ?_
  refine q_nil ?_
  intro qw1 qh2
  replace A := A.since qh2
  replace G := G.trans qh2
  have qh2_s := qh2.size
  go_wp2_with (fail)
  go_ret
  exact ⟨rfl, G⟩

set_option maxRecDepth 20000 in
set_option maxHeartbeats 8000000 in
theorem implMoveOn (B g pg : Nat) (now : Int) (ps : List (Int × ByteArray)) (d : Cn) (gs n cap : Nat) (xs : List Sg) (k : Int) (hm : IsWord d.mx) (h0 : 0 ≤ now) (h1 : now ≤ 1000000000) (w : World) (a : Acts B g pg now ps d gs n cap xs w) :
    Calls Tryz.prog 129 #[.pointer (some ⟨g, 0, none⟩), .int .i64 k] w fun e w' => e = .returned (.tuple #[]) ∧ ActsX B g pg now ps (wentC d k now) (xs) w' ∧ Base B w w' := by
  obtain ⟨A, L, P, pa, lo, i, j, l⟩ := a
  have hA := A.lt
  have hL := L.lt
  have hLo := L.low'
  have hP := P.lt
  have hPo := P.low'
  have G : Base B w w := Base.refl (by omega)
  have hwd := fun wx => implWord k (k % 4294967296) ⟨by omega, by omega, by omega⟩ wx
  have hmx := fun wx => implMax d.mx (nxtN d k) _ hm (isWord_mod _) (distI_is _ _) wx
  obtain ⟨mv, hmv⟩ : ∃ q, Hid (q = mxN d k) := ⟨_, rfl⟩
  have hme := hmv.out
  unfold mxN at hme
  rw [← hme] at hmx
  clear hme
  obtain ⟨nx, hnx⟩ : ∃ q, Hid (q = nxtN d k) := ⟨_, rfl⟩
  rw [← hnx.out] at hmx
  have hwr : Hid (IntKind.u32.wrap (d.nxt + k % 4294967296) = nx) := hnx.out.symm
  obtain ⟨b, hbb⟩ : ∃ q, Hid (q = (d.agn == 0)) := ⟨_, rfl⟩
  have ew : Hid (wentC d k now = { d with nxt := nx, mx := mv, agn := if d.agn = 0 then now + waitOf d.rA d.rS d.rV d.rD else d.agn, owe := false }) := by
    show _ = _
    rw [hnx.out, hmv.out]
    rfl
  go_enter Tryz.func129, Tryz.ntmps129
  go_upto_region 1 with (fail)
  refine wp_region_tail (wb := w) 9 (fun i x v => match i with
      | 0 => v = .pointer (some ⟨g, 0, none⟩)
      | 1 => v = .pointer (some ⟨g, 0, none⟩)
      | 2 => v = .pointer (some ⟨g, 3, none⟩)
      | 3 => v = .int .u32 d.nxt
      | 4 => v = .int .i64 k
      | 5 => v = .int .u32 (k % 4294967296)
      | 6 => v = .int .u32 nx
      | 7 => v = .pointer (some ⟨g, 0, none⟩)
      | 8 => v = .pointer (some ⟨g, 3, none⟩)
      | _ => True) (fun v => { tmps := #[.pointer (some ⟨g, 0, none⟩), .int .i64 k, undef, undef, .pointer (some ⟨g, 0, none⟩), .pointer (some ⟨g, 0, none⟩), .pointer (some ⟨g, 0, none⟩), .pointer (some ⟨g, 0, none⟩), v 0, v 1, v 2, v 3, v 4, v 5, v 6, v 7, v 8, undef, undef, undef, undef, undef, undef, undef, undef, undef, undef, undef, undef, undef, undef, undef, undef, undef, undef, undef, undef, undef, undef, undef, undef, undef], defers := [] }) (by kernel_rfl) (by kernel_rfl) (by kernel_rfl) (Since.refl _) ?_ (fun vals => by kernel_rfl) ?_ ?_
  case refine_1 =>
    intro j x x' v h1 h2
    match j, h2 with
    | 0, h2 | 1, h2 | 2, h2 | 3, h2 | 4, h2 | 5, h2 | 6, h2 | 7, h2 | 8, h2 => exact h2
    | n + 9, _ => trivial
  case refine_2 =>
    repeat (first | exact eachDoes_nil | refine eachDoes_cons ?_ ?_)
    all_goals intro vals x hx hv
    all_goals simp [Region.binds] at hv
    · simp [does, doesUpon, go_sem, hv, Since.refl]
    · simp [does, doesUpon, go_sem, hv, Since.refl]
    · simp [does, doesUpon, go_sem, hv, Since.refl, hwr.out]
    · simp [does, doesUpon, go_sem, hv]
      refine (hwd _).mono ?_
      rintro _ x' ⟨rfl, rfl⟩
      simp [Since.refl]
    · simp [does, doesUpon, go_sem, Since.refl]
    · have fl0 : x.cell? ⟨g, 3, none⟩ = some (.int .u32 d.nxt) := (A.since hx).cell 3
      simp [does, doesUpon, go_sem, hv, fl0, Since.refl]
    · simp [does, doesUpon, go_sem, hv, Since.refl]
    · simp [does, doesUpon, go_sem, hv, Since.refl]
    · simp [does, doesUpon, go_sem, Since.refl]
  case refine_3 =>
    intro qv3 qw1 qh2 hv
    have hv0 : qv3 0 = _ := hv 0 (by decide)
    have hv1 : qv3 1 = _ := hv 1 (by decide)
    have hv2 : qv3 2 = _ := hv 2 (by decide)
    have hv3 : qv3 3 = _ := hv 3 (by decide)
    have hv4 : qv3 4 = _ := hv 4 (by decide)
    have hv5 : qv3 5 = _ := hv 5 (by decide)
    have hv6 : qv3 6 = _ := hv 6 (by decide)
    have hv7 : qv3 7 = _ := hv 7 (by decide)
    have hv8 : qv3 8 = _ := hv 8 (by decide)
    clear hv
    simp only [hv0, hv1, hv2, hv3, hv4, hv5, hv6, hv7, hv8, List.drop]
    clear hv0 hv1 hv2 hv3 hv4 hv5 hv6 hv7 hv8
    replace A := A.since qh2
    replace L := L.since qh2
    replace P := P.since qh2
    replace G := G.trans qh2
    have qh2_s := qh2.size
    refine VL.out ?_
    refine sC (actCells { d with nxt := nx } now (.slice (some ⟨gs, 0, none⟩) n cap)) A 3 (.int .u32 nx) (act_size _ _ _) ?_
    intro qw4 qt5 qB6
    clear A
    replace L := L.touch qt5 (by omega)
    replace P := P.touch qt5 (by omega)
    replace G := G.touch qt5 (by omega)
    have qt5_s := qt5.size
    refine vE #[.pointer (some ⟨g, 0, none⟩),.int .i64 k,U,U,.pointer (some ⟨g, 0, none⟩),.pointer (some ⟨g, 0, none⟩),.pointer (some ⟨g, 0, none⟩),.pointer (some ⟨g, 0, none⟩),.pointer (some ⟨g, 0, none⟩),.pointer (some ⟨g, 0, none⟩),.pointer (some ⟨g, 3, none⟩),.int .u32 d.nxt,.int .i64 k,.int .u32 (k % 4294967296),.int .u32 nx,.pointer (some ⟨g, 0, none⟩),.pointer (some ⟨g, 3, none⟩),U,U,U,U,U,U,U,U,U,U,U,U,U,U,U,U,U,U,U,U,U,U,U,U,U] ?_
    go_upto_region 2 with (fail)
    refine wp_region_tail (wb := qw4) 12 (fun i x v => match i with
        | 0 => v = .pointer (some ⟨g, 0, none⟩)
        | 1 => v = .pointer (some ⟨g, 0, none⟩)
        | 2 => v = .pointer (some ⟨g, 0, none⟩)
        | 3 => v = .pointer (some ⟨g, 4, none⟩)
        | 4 => v = .int .u32 d.mx
        | 5 => v = .pointer (some ⟨g, 0, none⟩)
        | 6 => v = .pointer (some ⟨g, 0, none⟩)
        | 7 => v = .pointer (some ⟨g, 3, none⟩)
        | 8 => v = .int .u32 nx
        | 9 => v = .int .u32 mv
        | 10 => v = .pointer (some ⟨g, 0, none⟩)
        | 11 => v = .pointer (some ⟨g, 4, none⟩)
        | _ => True) (fun v => { tmps := #[.pointer (some ⟨g, 0, none⟩), .int .i64 k, undef, undef, .pointer (some ⟨g, 0, none⟩), .pointer (some ⟨g, 0, none⟩), .pointer (some ⟨g, 0, none⟩), .pointer (some ⟨g, 0, none⟩), .pointer (some ⟨g, 0, none⟩), .pointer (some ⟨g, 0, none⟩), .pointer (some ⟨g, 3, none⟩), .int .u32 d.nxt, .int .i64 k, .int .u32 (k % 4294967296), .int .u32 nx, .pointer (some ⟨g, 0, none⟩), .pointer (some ⟨g, 3, none⟩), v 0, v 1, v 2, v 3, v 4, v 5, v 6, v 7, v 8, v 9, v 10, v 11, undef, undef, undef, undef, undef, undef, undef, undef, undef, undef, undef, undef, undef], defers := [] }) (by kernel_rfl) (by kernel_rfl) (by kernel_rfl) (Since.refl _) ?_ (fun vals => by kernel_rfl) ?_ ?_
    case refine_1 =>
      intro j x x' v h1 h2
      match j, h2 with
      | 0, h2 | 1, h2 | 2, h2 | 3, h2 | 4, h2 | 5, h2 | 6, h2 | 7, h2 | 8, h2 | 9, h2 | 10, h2 | 11, h2 => exact h2
      | n + 12, _ => trivial
    case refine_2 =>
      repeat (first | exact eachDoes_nil | refine eachDoes_cons ?_ ?_)
      all_goals intro vals x hx hv
      all_goals simp [Region.binds] at hv
      · simp [does, doesUpon, go_sem, hv, Since.refl]
      · simp [does, doesUpon, go_sem, hv, Since.refl]
      · simp [does, doesUpon, go_sem, hv]
        refine (hmx _).mono ?_
        rintro _ x' ⟨rfl, rfl⟩
        simp [Since.refl]
      · have fl0 : x.cell? ⟨g, 3, none⟩ = some (.int .u32 nx) := (qB6.since hx).cell 3
        simp [does, doesUpon, go_sem, hv, fl0, Since.refl]
      · simp [does, doesUpon, go_sem, hv, Since.refl]
      · simp [does, doesUpon, go_sem, hv, Since.refl]
      · simp [does, doesUpon, go_sem, Since.refl]
      · have fl0 : x.cell? ⟨g, 4, none⟩ = some (.int .u32 d.mx) := (qB6.since hx).cell 4
        simp [does, doesUpon, go_sem, hv, fl0, Since.refl]
      · simp [does, doesUpon, go_sem, hv, Since.refl]
      · simp [does, doesUpon, go_sem, hv, Since.refl]
      · simp [does, doesUpon, go_sem, Since.refl]
      · simp [does, doesUpon, go_sem, Since.refl]
    case refine_3 =>
      intro qv9 qw7 qh8 hv
      have hv0 : qv9 0 = _ := hv 0 (by decide)
      have hv1 : qv9 1 = _ := hv 1 (by decide)
      have hv2 : qv9 2 = _ := hv 2 (by decide)
      have hv3 : qv9 3 = _ := hv 3 (by decide)
      have hv4 : qv9 4 = _ := hv 4 (by decide)
      have hv5 : qv9 5 = _ := hv 5 (by decide)
      have hv6 : qv9 6 = _ := hv 6 (by decide)
      have hv7 : qv9 7 = _ := hv 7 (by decide)
      have hv8 : qv9 8 = _ := hv 8 (by decide)
      have hv9 : qv9 9 = _ := hv 9 (by decide)
      have hv10 : qv9 10 = _ := hv 10 (by decide)
      have hv11 : qv9 11 = _ := hv 11 (by decide)
      clear hv
      simp only [hv0, hv1, hv2, hv3, hv4, hv5, hv6, hv7, hv8, hv9, hv10, hv11, List.drop]
      clear hv0 hv1 hv2 hv3 hv4 hv5 hv6 hv7 hv8 hv9 hv10 hv11
      replace qB6 := qB6.since qh8
      replace L := L.since qh8
      replace P := P.since qh8
      replace G := G.trans qh8
      have qh8_s := qh8.size
      refine VL.out ?_
      refine sC (actCells { d with nxt := nx, mx := mv } now (.slice (some ⟨gs, 0, none⟩) n cap)) qB6 4 (.int .u32 mv) (act_size _ _ _) ?_
      intro qw10 qt11 qB12
      clear qB6
      replace L := L.touch qt11 (by omega)
      replace P := P.touch qt11 (by omega)
      replace G := G.touch qt11 (by omega)
      have qt11_s := qt11.size
      refine vE #[.pointer (some ⟨g, 0, none⟩),.int .i64 k,U,U,.pointer (some ⟨g, 0, none⟩),.pointer (some ⟨g, 0, none⟩),.pointer (some ⟨g, 0, none⟩),.pointer (some ⟨g, 0, none⟩),.pointer (some ⟨g, 0, none⟩),.pointer (some ⟨g, 0, none⟩),.pointer (some ⟨g, 3, none⟩),.int .u32 d.nxt,.int .i64 k,.int .u32 (k % 4294967296),.int .u32 nx,.pointer (some ⟨g, 0, none⟩),.pointer (some ⟨g, 3, none⟩),.pointer (some ⟨g, 0, none⟩),.pointer (some ⟨g, 0, none⟩),.pointer (some ⟨g, 0, none⟩),.pointer (some ⟨g, 4, none⟩),.int .u32 d.mx,.pointer (some ⟨g, 0, none⟩),.pointer (some ⟨g, 0, none⟩),.pointer (some ⟨g, 3, none⟩),.int .u32 nx,.int .u32 mv,.pointer (some ⟨g, 0, none⟩),.pointer (some ⟨g, 4, none⟩),U,U,U,U,U,U,U,U,U,U,U,U,U] ?_
      go_upto_region 3 with (fail)
      refine vR ?_
      refine vV (.pointer (some ⟨g, 0, none⟩)) ?_
      refine vV (.pointer (some ⟨g, 0, none⟩)) ?_
      refine vV (.pointer (some ⟨g, 31, none⟩)) ?_
      refine vD (.int .i64 d.agn) (qB12.cell 31) ?_
      refine vV (.bool b) ?_ (hrun := by rw [hbb.out]; kernel_rfl)
      refine vE #[.pointer (some ⟨g, 0, none⟩),.int .i64 k,U,U,.pointer (some ⟨g, 0, none⟩),.pointer (some ⟨g, 0, none⟩),.pointer (some ⟨g, 0, none⟩),.pointer (some ⟨g, 0, none⟩),.pointer (some ⟨g, 0, none⟩),.pointer (some ⟨g, 0, none⟩),.pointer (some ⟨g, 3, none⟩),.int .u32 d.nxt,.int .i64 k,.int .u32 (k % 4294967296),.int .u32 nx,.pointer (some ⟨g, 0, none⟩),.pointer (some ⟨g, 3, none⟩),.pointer (some ⟨g, 0, none⟩),.pointer (some ⟨g, 0, none⟩),.pointer (some ⟨g, 0, none⟩),.pointer (some ⟨g, 4, none⟩),.int .u32 d.mx,.pointer (some ⟨g, 0, none⟩),.pointer (some ⟨g, 0, none⟩),.pointer (some ⟨g, 3, none⟩),.int .u32 nx,.int .u32 mv,.pointer (some ⟨g, 0, none⟩),.pointer (some ⟨g, 4, none⟩),.pointer (some ⟨g, 0, none⟩),.pointer (some ⟨g, 0, none⟩),.pointer (some ⟨g, 31, none⟩),.int .i64 d.agn,.bool b,U,U,U,U,U,U,U,U] ?_
      cases b
      case false =>
        have ea : Hid (wentC d k now = { d with nxt := nx, mx := mv, agn := d.agn, owe := false }) := by
          show _ = _
          have := hbb.out
          rw [ew.out, if_neg (by simpa using this.symm)]
        go_upto_region 5 with (fail)
        refine vR ?_
        refine vV (.pointer (some ⟨g, 0, none⟩)) ?_
        refine vV (.pointer (some ⟨g, 0, none⟩)) ?_
        refine vV (.pointer (some ⟨g, 36, none⟩)) ?_
        refine sC (actCells { d with nxt := nx, mx := mv, owe := false } now (.slice (some ⟨gs, 0, none⟩) n cap)) qB12 36 (.bool false) (act_size _ _ _) ?_
        intro qw13 qt14 qB15
        clear qB12
        replace L := L.touch qt14 (by omega)
        replace P := P.touch qt14 (by omega)
        replace G := G.touch qt14 (by omega)
        have qt14_s := qt14.size
        refine vE #[.pointer (some ⟨g, 0, none⟩),.int .i64 k,U,U,.pointer (some ⟨g, 0, none⟩),.pointer (some ⟨g, 0, none⟩),.pointer (some ⟨g, 0, none⟩),.pointer (some ⟨g, 0, none⟩),.pointer (some ⟨g, 0, none⟩),.pointer (some ⟨g, 0, none⟩),.pointer (some ⟨g, 3, none⟩),.int .u32 d.nxt,.int .i64 k,.int .u32 (k % 4294967296),.int .u32 nx,.pointer (some ⟨g, 0, none⟩),.pointer (some ⟨g, 3, none⟩),.pointer (some ⟨g, 0, none⟩),.pointer (some ⟨g, 0, none⟩),.pointer (some ⟨g, 0, none⟩),.pointer (some ⟨g, 4, none⟩),.int .u32 d.mx,.pointer (some ⟨g, 0, none⟩),.pointer (some ⟨g, 0, none⟩),.pointer (some ⟨g, 3, none⟩),.int .u32 nx,.int .u32 mv,.pointer (some ⟨g, 0, none⟩),.pointer (some ⟨g, 4, none⟩),.pointer (some ⟨g, 0, none⟩),.pointer (some ⟨g, 0, none⟩),.pointer (some ⟨g, 31, none⟩),.int .i64 d.agn,.bool false,U,U,U,U,U,.pointer (some ⟨g, 0, none⟩),.pointer (some ⟨g, 0, none⟩),.pointer (some ⟨g, 36, none⟩)] ?_
        go_wp2_with (fail)
        refine bodyPost_end (v := .tuple #[]) (results_none rfl _ _ _) rfl ⟨rfl, ?_, G⟩
        rw [ea.out]
        exact ⟨_, _, _, ⟨qB15, L, P, pa, lo, (by omega), (by omega), (by omega)⟩⟩
      case true =>
        have hfn := fun (dd : Cn) wx Ax => implFromNow g now dd (.slice (some ⟨gs, 0, none⟩) n cap) h0 h1 wx Ax
        have ea : Hid (wentC d k now = { d with nxt := nx, mx := mv, agn := now + waitOf d.rA d.rS d.rV d.rD, owe := false }) := by
          show _ = _
          have := hbb.out
          rw [ew.out, if_pos (by simpa using this.symm)]
        go_upto_region 4 with (fail)
        refine vR ?_
        refine vV (.pointer (some ⟨g, 0, none⟩)) ?_
        refine vV (.pointer (some ⟨g, 0, none⟩)) ?_
        refine vK (hfn _ _ qB12) ?_
        intro qw13 qg14
        replace qB12 := qB12.since qg14
        replace L := L.since qg14
        replace P := P.since qg14
        replace G := G.trans qg14
        have qg14_s := qg14.size
        refine vV (.pointer (some ⟨g, 0, none⟩)) ?_
        refine vV (.pointer (some ⟨g, 31, none⟩)) ?_
        refine sC (actCells { d with nxt := nx, mx := mv, agn := (now + waitOf d.rA d.rS d.rV d.rD) } now (.slice (some ⟨gs, 0, none⟩) n cap)) qB12 31 (.int .i64 (now + waitOf d.rA d.rS d.rV d.rD)) (act_size _ _ _) ?_
        intro qw15 qt16 qB17
        clear qB12
        replace L := L.touch qt16 (by omega)
        replace P := P.touch qt16 (by omega)
        replace G := G.touch qt16 (by omega)
        have qt16_s := qt16.size
        refine vE #[.pointer (some ⟨g, 0, none⟩),.int .i64 k,U,U,.pointer (some ⟨g, 0, none⟩),.pointer (some ⟨g, 0, none⟩),.pointer (some ⟨g, 0, none⟩),.pointer (some ⟨g, 0, none⟩),.pointer (some ⟨g, 0, none⟩),.pointer (some ⟨g, 0, none⟩),.pointer (some ⟨g, 3, none⟩),.int .u32 d.nxt,.int .i64 k,.int .u32 (k % 4294967296),.int .u32 nx,.pointer (some ⟨g, 0, none⟩),.pointer (some ⟨g, 3, none⟩),.pointer (some ⟨g, 0, none⟩),.pointer (some ⟨g, 0, none⟩),.pointer (some ⟨g, 0, none⟩),.pointer (some ⟨g, 4, none⟩),.int .u32 d.mx,.pointer (some ⟨g, 0, none⟩),.pointer (some ⟨g, 0, none⟩),.pointer (some ⟨g, 3, none⟩),.int .u32 nx,.int .u32 mv,.pointer (some ⟨g, 0, none⟩),.pointer (some ⟨g, 4, none⟩),.pointer (some ⟨g, 0, none⟩),.pointer (some ⟨g, 0, none⟩),.pointer (some ⟨g, 31, none⟩),.int .i64 d.agn,.bool true,.pointer (some ⟨g, 0, none⟩),.pointer (some ⟨g, 0, none⟩),.int .i64 (now + waitOf d.rA d.rS d.rV d.rD),.pointer (some ⟨g, 0, none⟩),.pointer (some ⟨g, 31, none⟩),U,U,U] ?_
        go_upto_region 5 with (fail)
        refine vR ?_
        refine vV (.pointer (some ⟨g, 0, none⟩)) ?_
        refine vV (.pointer (some ⟨g, 0, none⟩)) ?_
        refine vV (.pointer (some ⟨g, 36, none⟩)) ?_
        refine sC (actCells { d with nxt := nx, mx := mv, agn := (now + waitOf d.rA d.rS d.rV d.rD), owe := false } now (.slice (some ⟨gs, 0, none⟩) n cap)) qB17 36 (.bool false) (act_size _ _ _) ?_
        intro qw18 qt19 qB20
        clear qB17
        replace L := L.touch qt19 (by omega)
        replace P := P.touch qt19 (by omega)
        replace G := G.touch qt19 (by omega)
        have qt19_s := qt19.size
        refine vE #[.pointer (some ⟨g, 0, none⟩),.int .i64 k,U,U,.pointer (some ⟨g, 0, none⟩),.pointer (some ⟨g, 0, none⟩),.pointer (some ⟨g, 0, none⟩),.pointer (some ⟨g, 0, none⟩),.pointer (some ⟨g, 0, none⟩),.pointer (some ⟨g, 0, none⟩),.pointer (some ⟨g, 3, none⟩),.int .u32 d.nxt,.int .i64 k,.int .u32 (k % 4294967296),.int .u32 nx,.pointer (some ⟨g, 0, none⟩),.pointer (some ⟨g, 3, none⟩),.pointer (some ⟨g, 0, none⟩),.pointer (some ⟨g, 0, none⟩),.pointer (some ⟨g, 0, none⟩),.pointer (some ⟨g, 4, none⟩),.int .u32 d.mx,.pointer (some ⟨g, 0, none⟩),.pointer (some ⟨g, 0, none⟩),.pointer (some ⟨g, 3, none⟩),.int .u32 nx,.int .u32 mv,.pointer (some ⟨g, 0, none⟩),.pointer (some ⟨g, 4, none⟩),.pointer (some ⟨g, 0, none⟩),.pointer (some ⟨g, 0, none⟩),.pointer (some ⟨g, 31, none⟩),.int .i64 d.agn,.bool true,.pointer (some ⟨g, 0, none⟩),.pointer (some ⟨g, 0, none⟩),.int .i64 (now + waitOf d.rA d.rS d.rV d.rD),.pointer (some ⟨g, 0, none⟩),.pointer (some ⟨g, 31, none⟩),.pointer (some ⟨g, 0, none⟩),.pointer (some ⟨g, 0, none⟩),.pointer (some ⟨g, 36, none⟩)] ?_
        go_wp2_with (fail)
        refine bodyPost_end (v := .tuple #[]) (results_none rfl _ _ _) rfl ⟨rfl, ?_, G⟩
        rw [ea.out]
        exact ⟨_, _, _, ⟨qB20, L, P, pa, lo, (by omega), (by omega), (by omega)⟩⟩
end Go.Proofs.YtfenlfijfjcdbaaGreat
