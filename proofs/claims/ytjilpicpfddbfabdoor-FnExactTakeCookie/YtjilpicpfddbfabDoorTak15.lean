/-
  Who comes back with an answer of which nothing was kept: the end that stands, as plain functions.
-/
import Derived.Test.YtjilpicpfddbfabDoorTk15
import Derived.Test.YtjilpicpfddbfabDoorConnHearI
namespace Go.Proofs.YtjilpicpfddbfabDoor
open Go.ChangeShapes Go.WideShapes Go.ChangeAt Go.RowKit Go.Deep
set_option linter.unusedVariables false
set_option maxRecDepth 10000

theorem does_cellT {op : Oper} {a : Act} {w : World} {R : Value → World → Prop} {b : Nat} {cs cs' : Array Value} (B : Blk b w cs) (ty : TypeId) (x y : Operand) (ho : op.op = .store ty x y) (i : Nat) (hx : a.eval x = .pointer (some ⟨b, i, none⟩)) (v : Value) (hy : a.eval y = v)
    (hv : v.oneCell' = true) (hs : (Tryd.prog.info? ty).map (·.size) = some 1) (hi : i < cs.size) (hcs : cs.setIfInBounds i v = cs') (h : ∀ z, Touch b w z → Blk b z cs' → R undef z) : does Tryd.prog op a w R := by
  have e := run_storeOne (ty := ty) hv hs B hi
  unfold does execOp
  simp only [ho, hx, hy, Instr.storeAt, Instr.sureAddr, Sem.run_bind, Sem.run_pure, Result.andThen_ok, e]
  exact h _ ((Touch.refl b w).put i v) (by rw [← hcs]; exact B.put i v hi)

/-- The segment that asked. -/
def askS (s : Sg) : Sg := ⟨0, 0, (s.sq - 1) % 4294967296, 0, 2, s.wn, 0, ⟨#[]⟩⟩

/-- The cookie that comes back. -/
def cok (s : Sg) : Int := (s.ak - 1) % 4294967296

theorem cok_word (s : Sg) : IsWord (cok s) := by
  unfold IsWord cok
  omega

theorem askS_word (s : Sg) : IsWord (askS s).sq := by
  unfold IsWord askS
  show 0 ≤ (s.sq - 1) % 4294967296 ∧ (s.sq - 1) % 4294967296 < 4294967296
  omega

/-- The end that stands. -/
def takC (s : Sg) (room now : Int) : Cn := { hearC (askS s) (cok s) room now with st := 3, una := s.ak, oF := s.ak, nxt := s.ak, mx := s.ak, agn := 0, tmg := false }

/-- Whether there is one. -/
def takOk (k0 h p j q e : Int) (s : Sg) (room now : Int) : Bool := goesOn s && ckKnown k0 h p j q e (cok s) && decide (hearOk (askS s) room now)

/-- What is answered. -/
def takV (k0 h p j q e : Int) (s : Sg) (room now : Int) : Value := if takOk k0 h p j q e s room now then .tuple #[.agg (cnCells (takC s room now)), .bool true] else .tuple #[.agg (cnCells cnZero), .bool false]

theorem tak_no {k0 h p j q e : Int} {s : Sg} {room now : Int} (hn : takOk k0 h p j q e s room now = false) : takV k0 h p j q e s room now = .tuple #[.agg (cnCells cnZero), .bool false] := by
  unfold takV
  rw [hn]
  rfl

theorem tak_yes {k0 h p j q e : Int} {s : Sg} {room now : Int} (hn : takOk k0 h p j q e s room now = true) : takV k0 h p j q e s room now = .tuple #[.agg (cnCells (takC s room now)), .bool true] := by
  unfold takV
  rw [hn]
  rfl

/-- An end some of whose places are set to k already. -/
def bag (c : Cn) (k : Int) (b1 b2 b3 b4 : Bool) : Cn := { c with una := if b1 then k else c.una, oF := if b2 then k else c.oF, nxt := if b3 then k else c.nxt, mx := if b4 then k else c.mx }
end Go.Proofs.YtjilpicpfddbfabDoor
