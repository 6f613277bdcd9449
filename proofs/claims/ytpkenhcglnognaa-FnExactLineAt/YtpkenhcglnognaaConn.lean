/-
  An end of a line as a value: its cells in a variable, read and stored as a whole.
-/
import Derived.Test.YtpkenhcglnognaaBig
namespace Go.Proofs.Ytpkenhcglnognaa
open Go.ChangeShapes Go.WideShapes Go.ChangeAt Go.RowKit
set_option linter.unusedVariables false
set_option maxRecDepth 10000

/-- What an end knows. -/
structure Cn where
  st : Int
  iss : Int
  una : Int
  nxt : Int
  mx : Int
  wnd : Int
  wsq : Int
  wak : Int
  oF : Int
  oD : ByteArray
  oR : Int
  iN : Int
  iD : ByteArray
  pa : Option Addr
  pn : Nat
  pc : Nat
  iR : Int
  fin : Bool
  fsn : Bool
  fsq : Int
  gfn : Bool
  rA : Bool
  rS : Int
  rV : Int
  rD : Int
  cX : Int
  cT : Int
  cD : Int
  cF : Bool
  cR : Int
  tmg : Bool
  tsq : Int
  tat : Int
  agn : Int
  prb : Int
  rst : Int
  trs : Int
  why : Int
  owe : Bool

/-- Its cells. -/
def cnCells (c : Cn) : Array Value := #[.int .i64 c.st, .int .u32 c.iss, .int .u32 c.una, .int .u32 c.nxt, .int .u32 c.mx, .int .i64 c.wnd, .int .u32 c.wsq, .int .u32 c.wak, .int .u32 c.oF, .string c.oD, .int .i64 c.oR, .int .u32 c.iN, .string c.iD, .slice c.pa c.pn c.pc, .int .i64 c.iR, .bool c.fin, .bool c.fsn, .int .u32 c.fsq, .bool c.gfn, .bool c.rA, .int .i64 c.rS, .int .i64 c.rV, .int .i64 c.rD, .int .i64 c.cX, .int .i64 c.cT, .int .i64 c.cD, .bool c.cF, .int .u32 c.cR, .bool c.tmg, .int .u32 c.tsq, .int .i64 c.tat, .int .i64 c.agn, .int .i64 c.prb, .int .i64 c.rst, .int .i64 c.trs, .int .i64 c.why, .bool c.owe]

/-- It as a value. -/
def cnVal (c : Cn) : Value := .agg (cnCells c)

/-- The end of which nothing is known. -/
def cnZero : Cn := ⟨0, 0, 0, 0, 0, 0, 0, 0, 0, ByteArray.empty, 0, 0, ByteArray.empty, none, 0, 0, 0, false, false, 0, false, false, 0, 0, 0, 0, 0, 0, false, 0, false, 0, 0, 0, 0, 0, 0, 0, false⟩

theorem cn_size (c : Cn) : (cnCells c).size = 37 := rfl

theorem cn_one (c : Cn) : (cnCells c).all (·.oneCell') = true := by
  rw [Array.all_eq_true_iff_forall_mem]
  intro v hv
  simp only [cnCells, List.mem_toArray, List.mem_cons, List.not_mem_nil, or_false] at hv
  rcases hv with h | h | h | h | h | h | h | h | h | h | h | h | h | h | h | h | h | h | h | h | h | h | h | h | h | h | h | h | h | h | h | h | h | h | h | h | h <;> rw [h] <;> rfl

theorem cn_info : (Try.prog.info? 53).map (·.size) = some 37 := by kernel_rfl

theorem cn_big : IsBig 53 37 := ⟨⟨_, Try.underlying53, rfl⟩, cn_info⟩

theorem load_cn {ops : Array Oper} {rest : List Oper} {op : Oper} {a : Act} {w : World} {Q : Exit → Act → World → Prop} {b : Nat} {c : Cn} (B : Blk b w (cnCells c)) (hgd : op.guard = none) (x : Operand) (ho : op.op = .load 53 x)
    (hx : a.eval x = .pointer (some ⟨b, 0, none⟩)) (h : wpList Try.prog ops Q rest (a.put op.dst (.agg (cnCells c))) w) : wpList Try.prog ops Q (op :: rest) a w :=
  wpList_load_mid hgd 53 x ho b 0 hx (cnCells c).toList _ B.range Try.underlying53 rfl cn_info h

theorem store_cn {ops : Array Oper} {rest : List Oper} {op : Oper} {a : Act} {w : World} {Q : Exit → Act → World → Prop} {b : Nat} {c c' : Cn} (B : Blk b w (cnCells c')) (hgd : op.guard = none) (x y : Operand) (ho : op.op = .store 53 x y)
    (hx : a.eval x = .pointer (some ⟨b, 0, none⟩)) (hy : a.eval y = .agg (cnCells c)) (h : ∀ z, Touch b w z → Blk b z (cnCells c) → wpList Try.prog ops Q rest (a.put op.dst undef) z) : wpList Try.prog ops Q (op :: rest) a w :=
  wpList_store_mid hgd 53 x y ho b 0 (cnCells c) hx hy (by have := B.there; rwa [cn_size c'] at this) (by rw [cn_info, cn_size]) (cn_one c) (h _ (Touch.puts _ 0 (Touch.refl b w)) (blk_puts B (by rw [cn_size, cn_size])))

theorem ret_cn {b : Nat} {w : World} {c : Cn} (B : Blk b w (cnCells c)) : (loadVar 53 ⟨b, 0, none⟩).run Try.prog w = .ok (.agg (cnCells c)) w :=
  run_loadVar_mid w b 0 53 (cnCells c).toList _ B.range Try.underlying53 rfl cn_info

theorem results_cn {fn : Func} {t : Tmp} {b : Nat} {w : World} {c : Cn} (h : fn.results = #[.cell t 53]) (tmps : Array Value) (hp : tmps.getD t undef = .pointer (some ⟨b, 0, none⟩)) (B : Blk b w (cnCells c)) : (results fn tmps).run Try.prog w = .ok (.agg (cnCells c)) w := by
  have e := ret_cn B
  have hq : tmps[t]?.getD undef = .pointer (some ⟨b, 0, none⟩) := by simpa using hp
  simp [results, h, hq, asAddr, e]

/-- The cells of the one of which nothing is known, as the translator spells them. -/
theorem cn_zero : #[.int .i64 0, .int .u32 0, .int .u32 0, .int .u32 0, .int .u32 0, .int .i64 0, .int .u32 0, .int .u32 0, .int .u32 0, .string ⟨#[]⟩, .int .i64 0, .int .u32 0, .string ⟨#[]⟩, .slice none 0 0, .int .i64 0, .bool false, .bool false, .int .u32 0, .bool false, .bool false, .int .i64 0, .int .i64 0, .int .i64 0, .int .i64 0, .int .i64 0, .int .i64 0, .bool false, .int .u32 0, .bool false, .int .u32 0, .int .i64 0, .int .i64 0, .int .i64 0, .int .i64 0, .int .i64 0, .int .i64 0, .bool false] = cnCells cnZero := rfl

/-- One cell stored. -/
theorem put_cn {b : Nat} {x : World} {c c' : Cn} (B : Blk b x (cnCells c)) (i : Nat) (v : Value) (hi : i < 37) (h : (cnCells c).setIfInBounds i v = cnCells c') :
    ∃ y, x.setCell ⟨b, i, none⟩ v = y ∧ Touch b x y ∧ Blk b y (cnCells c') := by
  refine ⟨_, rfl, (Touch.refl b x).put i v, ?_⟩
  have := B.put i v (by rw [cn_size]; exact hi)
  rwa [h] at this

end Go.Proofs.Ytpkenhcglnognaa
