/-
  A pair of ends in memory.
-/
import Derived.Test.YtomnjegldbopiaaConn
import Derived.Test.YtomnjegldbopiaaPart
import Derived.Test.YtomnjegldbopiaaWantP
import Derived.Deep.DeepCutAuto
namespace Go.Proofs.Ytomnjegldbopiaa
open Go.ChangeShapes Go.WideShapes Go.ChangeAt Go.RowKit
set_option linter.unusedVariables false
set_option maxRecDepth 10000

/-- A pair. -/
structure Pr where
  a : Cn
  b : Cn
  hd : Bool
  ib : Int
  rm : Int
  ba : Option Addr
  bn : Nat
  bc : Nat
  aa : Option Addr
  an : Nat
  ac : Nat
  now : Int
  wA : ByteArray
  wB : ByteArray
  gA : ByteArray
  gB : ByteArray

/-- What lies behind both ends. -/
def prTail (p : Pr) : List Value := [.bool p.hd, .int .u32 p.ib, .int .i64 p.rm, .slice p.ba p.bn p.bc, .slice p.aa p.an p.ac, .int .i64 p.now, .string p.wA, .string p.wB, .string p.gA, .string p.gB]

/-- Its cells. -/
def prCells (p : Pr) : Array Value := ((cnCells p.a).toList ++ ((cnCells p.b).toList ++ prTail p)).toArray

/-- The pair of noughts. -/
def prZero : Pr := ⟨cnZero, cnZero, false, 0, 0, none, 0, 0, none, 0, 0, 0, ByteArray.empty, ByteArray.empty, ByteArray.empty, ByteArray.empty⟩

theorem pr_size (p : Pr) : (prCells p).size = 84 := rfl

theorem pr_a (p : Pr) (j : Nat) (v : Value) (h : (cnCells p.a).toList[j]? = some v) : (prCells p)[0 + j]? = some v := by
  have hj : j < (cnCells p.a).toList.length := (List.getElem?_eq_some_iff.1 h).1
  rw [Nat.zero_add]
  unfold prCells
  rw [List.getElem?_toArray, List.getElem?_append_left hj]
  exact h

theorem pr_b (p : Pr) (j : Nat) (v : Value) (h : (cnCells p.b).toList[j]? = some v) : (prCells p)[37 + j]? = some v := by
  have hj : j < (cnCells p.b).toList.length := (List.getElem?_eq_some_iff.1 h).1
  have hl : (cnCells p.a).toList.length = 37 := rfl
  unfold prCells
  rw [List.getElem?_toArray, List.getElem?_append_right (by omega), hl, show 37 + j - 37 = j by omega, List.getElem?_append_left hj]
  exact h

theorem pr_tl (p : Pr) (j : Nat) (v : Value) (h : (prTail p)[j]? = some v) : (prCells p)[74 + j]? = some v := by
  have hl : (cnCells p.a).toList.length = 37 := rfl
  have hm : (cnCells p.b).toList.length = 37 := rfl
  unfold prCells
  rw [List.getElem?_toArray, List.getElem?_append_right (by omega), hl, List.getElem?_append_right (by omega), hm, show 74 + j - 37 - 37 = j by omega]
  exact h

theorem pr_one (p : Pr) : (prCells p).all (·.oneCell') = true := by
  have h1 := cn_one p.a
  have h2 := cn_one p.b
  rw [Array.all_eq_true_iff_forall_mem] at h1 h2 ⊢
  intro v hv
  unfold prCells at hv
  simp only [List.mem_toArray, List.mem_append, Array.mem_toList_iff] at hv
  rcases hv with hv | hv | hv
  · exact h1 v hv
  · exact h2 v hv
  · simp only [prTail, List.mem_cons, List.not_mem_nil, or_false] at hv
    rcases hv with rfl | rfl | rfl | rfl | rfl | rfl | rfl | rfl | rfl | rfl <;> rfl

theorem pr_big : IsBig 37 84 := ⟨⟨_, Try.underlying37, rfl⟩, by kernel_rfl⟩

theorem load_pa {ops : Array Oper} {rest : List Oper} {o : Oper} {a : Act} {w : World} {Q : Exit → Act → World → Prop} {b : Nat} {p : Pr} {t : TypeId} (T : IsBig t 37) (B : Blk b w (prCells p)) (hg : o.guard = none) (x : Operand) (ho : o.op = .load t x) (hx : a.eval x = .pointer (some ⟨b, 0, none⟩))
    (h : wpList Try.prog ops Q rest (a.put o.dst (.agg (cnCells p.a))) w) : wpList Try.prog ops Q (o :: rest) a w :=
  load_part B hg T x ho 0 hx (cnCells p.a).toList rfl (pr_a p) h

theorem load_pb {ops : Array Oper} {rest : List Oper} {o : Oper} {a : Act} {w : World} {Q : Exit → Act → World → Prop} {b : Nat} {p : Pr} {t : TypeId} (T : IsBig t 37) (B : Blk b w (prCells p)) (hg : o.guard = none) (x : Operand) (ho : o.op = .load t x) (hx : a.eval x = .pointer (some ⟨b, 37, none⟩))
    (h : wpList Try.prog ops Q rest (a.put o.dst (.agg (cnCells p.b))) w) : wpList Try.prog ops Q (o :: rest) a w :=
  load_part B hg T x ho 37 hx (cnCells p.b).toList rfl (pr_b p) h

theorem want_pa {ops : Array Oper} {rest : List Oper} {o : Oper} {a : Act} {w : World} {Q : Exit → Act → World → Prop} {b : Nat} {p : Pr} {t : TypeId} (T : IsBig t 37) (B : Blk b w (prCells p)) (hg : Region.wanted o (yielded ops a.tmps) = true) (x : Operand) (ho : o.op = .load t x) (hx : a.eval x = .pointer (some ⟨b, 0, none⟩))
    (h : wpList Try.prog ops Q rest (a.put o.dst (.agg (cnCells p.a))) w) : wpList Try.prog ops Q (o :: rest) a w :=
  want_part B hg T x ho 0 hx (cnCells p.a).toList rfl (pr_a p) h

theorem want_pb {ops : Array Oper} {rest : List Oper} {o : Oper} {a : Act} {w : World} {Q : Exit → Act → World → Prop} {b : Nat} {p : Pr} {t : TypeId} (T : IsBig t 37) (B : Blk b w (prCells p)) (hg : Region.wanted o (yielded ops a.tmps) = true) (x : Operand) (ho : o.op = .load t x) (hx : a.eval x = .pointer (some ⟨b, 37, none⟩))
    (h : wpList Try.prog ops Q rest (a.put o.dst (.agg (cnCells p.b))) w) : wpList Try.prog ops Q (o :: rest) a w :=
  want_part B hg T x ho 37 hx (cnCells p.b).toList rfl (pr_b p) h

theorem ret_pr {b : Nat} {w : World} {p : Pr} (B : Blk b w (prCells p)) : (loadVar 37 ⟨b, 0, none⟩).run Try.prog w = .ok (.agg (prCells p)) w :=
  run_loadVar_mid w b 0 37 (prCells p).toList _ B.range Try.underlying37 rfl pr_big.size

theorem results_pr2 {fn : Func} {t u : Tmp} {b : Nat} {w : World} {p : Pr} (h : fn.results = #[.cell t 37, .tmp u]) (tmps : Array Value) (hp : tmps.getD t undef = .pointer (some ⟨b, 0, none⟩)) (B : Blk b w (prCells p)) : (results fn tmps).run Try.prog w = .ok (.tuple #[.agg (prCells p), tmps.getD u undef]) w := by
  have e := ret_pr B
  have hq : tmps[t]?.getD undef = .pointer (some ⟨b, 0, none⟩) := by simpa using hp
  simp [results, h, hq, asAddr, e]
end Go.Proofs.Ytomnjegldbopiaa
