/-
  A line of a table as a value: its cells, lists of lines, and how they are read and stored.
-/
import Derived.Test.YtpkenhcglnognaaConn
import Derived.Test.YtpkenhcglnognaaPrt
import Derived.Test.YtpkenhcglnognaaVlX
import Derived.Test.YtpkenhcglnognaaAdr15
import Derived.Test.YtpkenhcglnognaaTabApp
namespace Go.Proofs.Ytpkenhcglnognaa
open Go.ChangeShapes Go.WideShapes Go.ChangeAt Go.RowKit Go.Deep
set_option linter.unusedVariables false
set_option maxRecDepth 10000

/-- A line: both addresses and its end. -/
structure Ln where
  hH : Int
  hP : Int
  tH : Int
  tP : Int
  c : Cn

/-- Its cells. -/
def lnL (l : Ln) : List Value := .int .u32 l.hH :: .int .i64 l.hP :: .int .u32 l.tH :: .int .i64 l.tP :: (cnCells l.c).toList

def lnCells (l : Ln) : Array Value := (lnL l).toArray

def lnZero : Ln := ⟨0, 0, 0, 0, cnZero⟩

theorem ln_size (l : Ln) : (lnCells l).size = 41 := rfl

theorem ln_mem (l : Ln) : ∀ v ∈ lnL l, v.oneCell' = true := by
  intro v hv
  have h := cn_one l.c
  rw [Array.all_eq_true_iff_forall_mem] at h
  simp only [lnL, List.mem_cons] at hv
  rcases hv with rfl | rfl | rfl | rfl | hv
  · rfl
  · rfl
  · rfl
  · rfl
  · exact h v (by simpa using hv)

theorem ln_one (l : Ln) : (lnCells l).all (·.oneCell') = true := by
  rw [Array.all_eq_true_iff_forall_mem]
  intro v hv
  exact ln_mem l v (by simpa [lnCells] using hv)

theorem ln_info : (Try.prog.info? 55).map (·.size) = some 41 := by kernel_rfl

theorem ln_big : IsBig 55 41 := ⟨⟨_, Try.underlying55, rfl⟩, ln_info⟩

theorem lln_big : IsBig 81 41 := ⟨⟨_, Try.underlying81, rfl⟩, by kernel_rfl⟩

/-- Lists of lines. -/
def shL : Shape Ln := ⟨55, 41, lnL, fun _ => rfl, ln_mem, lnZero, by decide⟩

/-- Line i. -/
def lAt (xs : List Ln) (i : Nat) : Ln := shL.get xs i

/-- What line i has in parts. -/
def qAt (pp : List (List (Int × ByteArray))) (i : Nat) : List (Int × ByteArray) := pp.getD i []

/-- A list of lines that can be read, and what each has in parts. -/
structure Rl (w : World) (a : Option Addr) (n : Nat) (xs : List Ln) (pp : List (List (Int × ByteArray))) : Prop where
  rd : Rd shL w a n xs
  ps : ∀ i, i < n → Rd shP w (lAt xs i).c.pa (lAt xs i).c.pn (qAt pp i)

theorem Rl.since {w w' : World} {a : Option Addr} {n : Nat} {xs : List Ln} {pp : List (List (Int × ByteArray))} (h : Rl w a n xs pp) (k : Since w w') : Rl w' a n xs pp :=
  ⟨h.rd.since k, fun i hi => (h.ps i hi).since k⟩

/-- The slice of an end's parts. -/
def psl (c : Cn) : Value := .slice c.pa c.pn c.pc

/-- A list of lines of our own, from block B on; no two lists of it lie in one block. -/
structure Ol (w : World) (B g n cap : Nat) (xs : List Ln) (pp : List (List (Int × ByteArray))) : Prop where
  hl : Held shL w B g n cap xs
  ps : ∀ i, i < n → Own shP w B (psl (lAt xs i).c) (lAt xs i).c.pn (qAt pp i)
  ng : ∀ i, i < n → (psl (lAt xs i).c).ownBlock ≠ some g
  ap : ∀ i j, i < n → j < n → i ≠ j → (psl (lAt xs i).c).ownBlock = none ∨ (psl (lAt xs i).c).ownBlock ≠ (psl (lAt xs j).c).ownBlock

theorem Ol.since {w w' : World} {B g n cap : Nat} {xs : List Ln} {pp : List (List (Int × ByteArray))} (h : Ol w B g n cap xs pp) (k : Since w w') : Ol w' B g n cap xs pp :=
  ⟨h.hl.since k, fun i hi => (h.ps i hi).since k, h.ng, h.ap⟩

theorem Ol.reads {w : World} {B g n cap : Nat} {xs : List Ln} {pp : List (List (Int × ByteArray))} (h : Ol w B g n cap xs pp) : Rl w (some ⟨g, 0, none⟩) n xs pp :=
  ⟨h.hl.reads, fun i hi => (h.ps i hi).reads⟩

theorem Ol.low {w : World} {B B' g n cap : Nat} {xs : List Ln} {pp : List (List (Int × ByteArray))} (h : Ol w B g n cap xs pp) (hB : B' ≤ B) : Ol w B' g n cap xs pp :=
  ⟨Own.low h.hl hB, fun i hi => (h.ps i hi).low hB, h.ng, h.ap⟩

/-- Behind a write into a block that is none of ours. -/
theorem Ol.touch {w w' : World} {B g g' n cap : Nat} {xs : List Ln} {pp : List (List (Int × ByteArray))} (h : Ol w B g n cap xs pp) (k : Touch g' w w') (hg : g' < B) : Ol w' B g n cap xs pp :=
  ⟨h.hl.touch k (by have := h.hl.low'; omega), fun i hi => (h.ps i hi).touch k (fun e => by have := (h.ps i hi).lt e; omega), h.ng, h.ap⟩

/-- Where a list's parts lie is no part of what it says. -/
def core (l : Ln) : Ln := { l with c := { l.c with pa := none, pc := 0 } }

def Like (n : Nat) (xs ys : List Ln) : Prop := ∀ i, i < n → core (lAt xs i) = core (lAt ys i)

/-- What has come since a. -/
structure From (a x : World) : Prop where
  out : Since a x

theorem From.since {a x y : World} (h : From a x) (k : Since x y) : From a y := ⟨h.out.trans k⟩

theorem From.touch {a x y : World} {g : Nat} (h : From a x) (k : Touch g x y) (hg : a.heap.size ≤ g) : From a y := ⟨since_touch h.out k hg⟩

theorem run_loadVar_at (w : World) (A : Addr) (ty : TypeId) (cs : List Value) (d : TypeDesc) (hc : ∀ j v, cs[j]? = some v → w.cell? (A.add j) = some v)
    (hu : Try.prog.underlying ty = some d) (hd : d.isRow = true) (hi : (Try.prog.info? ty).map (·.size) = some cs.length) :
    (loadVar ty A).run Try.prog w = .ok (.agg cs.toArray) w := by
  have hl : (loadCells A cs.length).run Try.prog w = .ok cs.toArray w := run_loadCells_list (P := Try.prog) w A cs hc
  cases hq : Try.prog.info? ty with
  | none => simp [hq] at hi
  | some i =>
    have hs : i.size = cs.length := by simpa [hq] using hi
    have hagg : (isAgg ty).run Try.prog w = .ok true w := by
      unfold isAgg
      rw [Sem.run_bind, run_underlying hu w]
      cases d <;> simp_all
    simp [loadVar, Sem.run_bind, hagg, sizeOf, typeInfo, hq, hs, hl]

section
variable {ops : Array Oper} {rest : List Oper} {o : Oper} {a : Act} {w : World} {Q : Exit → Act → World → Prop}

/-- A struct read whole, wherever it lies. -/
theorem vQ {t : TypeId} {k : Nat} {A : Addr} {cs : Array Value} (T : IsBig t k) (hs : cs.size = k) (hc : ∀ j, j < k → w.cell? (A.add j) = cs[j]?) {x : Operand} (h : VL ops Q rest (a.put o.dst (.agg cs)) w) (ho : o.op = .load t x := by rfl)
    (hg : Region.wanted o (yielded ops a.tmps) = true := by kernel_rfl) (hx : a.eval x = .pointer (some A) := by kernel_rfl) : VL ops Q (o :: rest) a w := by
  obtain ⟨d, h1, h2⟩ := T.row
  have e := run_loadVar_at w A t cs.toList d (fun j v hv => by
    have hj : j < cs.size := by
      rcases Nat.lt_or_ge j cs.size with h | h
      · exact h
      · rw [Array.getElem?_toList, Array.getElem?_eq_none h] at hv; cases hv
    rw [hc j (by omega)]
    simpa using hv) h1 h2 (by rw [T.size, ← hs]; simp)
  refine ⟨want_val hg (.agg cs) ?_ h.out⟩
  unfold execOp
  simp only [ho, hx, Instr.loadAt, Instr.sureAddr, Sem.run_bind, Sem.run_pure, Result.andThen_ok, e]

end

section
variable {ops : Array Oper} {rest : List Oper} {o : Oper} {a : Act} {w : World} {Q : Exit → Act → World → Prop}

/-- The end of a line. -/
theorem vLc {t : TypeId} {b : Nat} {l : Ln} (T : IsBig t 37) (B : Blk b w (lnCells l)) {x : Operand} (h : VL ops Q rest (a.put o.dst (.agg (cnCells l.c))) w) (ho : o.op = .load t x := by rfl)
    (hg : Region.wanted o (yielded ops a.tmps) = true := by kernel_rfl) (hx : a.eval x = .pointer (some ⟨b, 4, none⟩) := by kernel_rfl) : VL ops Q (o :: rest) a w :=
  vP T B 4 (cnCells l.c).toList h rfl (by kernel_rfl) ho hg hx

theorem putCells_eq (g : Nat) : ∀ (vs : List Value) (m : Nat) (w : World), w.setCells g m vs = putCells w g m vs
  | [], _, _ => rfl
  | v :: r, m, w => by
    rw [World.setCells, putCells]
    exact putCells_eq g r (m + 1) _

/-- A line stored in a list of ours. -/
theorem sL {B g n cap i : Nat} {xs : List Ln} (T : Held shL w B g n cap xs) (hi : i < n) (l : Ln) {x y : Operand} (h : ∀ z, Touch g w z → Held shL z B g n cap (xs.set i l) → VL ops Q rest (a.put o.dst undef) z)
    (ho : o.op = .store 55 x y := by rfl) (hg : o.guard = none := by rfl) (hx : a.eval x = .pointer (some ((⟨g, 0, none⟩ : Addr).add (i * 41))) := by kernel_rfl) (hy : a.eval y = .agg (lnCells l) := by kernel_rfl) : VL ops Q (o :: rest) a w := by
  refine ⟨wpList_store_mid hg 55 x y ho g (i * 41) (lnCells l) (by rw [hx, Addr.add_mid, Nat.zero_add]) hy (fun j hj => ⟨?_, T.free _⟩) (by rw [ln_info]; rfl) (ln_one l) (h _ (Touch.puts _ _ (Touch.refl g w)) ?_).out⟩
  · have h1 := T.cell i hi j hj
    have h2 : (i * shL.k + j) = i * 41 + j := rfl
    rw [h2] at h1
    rw [h1, List.getElem?_eq_getElem (by rw [shL.len]; exact hj)]
    rfl
  · rw [putCells_eq]
    exact T.set i hi l
end

theorem does_Q {w : World} {t : TypeId} {k : Nat} {A : Addr} {cs : Array Value} (T : IsBig t k) (hs : cs.size = k) (hc : ∀ j, j < k → w.cell? (A.add j) = cs[j]?) {op : Oper} {a : Act} {R : Value → World → Prop} (x : Operand) (ho : op.op = .load t x)
    (hx : a.eval x = .pointer (some A)) (h : R (.agg cs) w) : does Try.prog op a w R := by
  obtain ⟨d, h1, h2⟩ := T.row
  have e := run_loadVar_at w A t cs.toList d (fun j v hv => by
    have hj : j < cs.size := by
      rcases Nat.lt_or_ge j cs.size with h | h
      · exact h
      · rw [Array.getElem?_toList, Array.getElem?_eq_none h] at hv; cases hv
    rw [hc j (by omega)]
    simpa using hv) h1 h2 (by rw [T.size, ← hs]; simp)
  unfold does execOp
  simp only [ho, hx, Instr.loadAt, Instr.sureAddr, Sem.run_bind, Sem.run_pure, Result.andThen_ok, e]
  exact h

/-- A list that was just made. -/
theorem made_shape {α : Type} {S : Shape α} {z : Array Value} (hz : S.enc S.z = z.toList) {w : World} {B g n : Nat} (h : w.ownsRow B S.ty S.k (.slice (some ⟨g, 0, none⟩) n n) n (madeCells z (n * S.k)).toList) : Held S w B g n n (List.replicate n S.z) := by
  refine Held.of_owns (by simp) ?_ h
  have hk : z.size = S.k := by rw [← S.len S.z, hz]; simp
  have hpos := S.pos
  apply List.ext_getElem?
  intro t
  by_cases ht : t < n * S.k
  · obtain ⟨i, j, hj, rfl⟩ : ∃ i j, j < S.k ∧ t = i * S.k + j := ⟨t / S.k, t % S.k, Nat.mod_lt _ hpos, by rw [Nat.mul_comm]; exact (Nat.div_add_mod t S.k).symm⟩
    have hi : i < n := by
      rcases Nat.lt_or_ge i n with h1 | h1
      · exact h1
      · have : n * S.k ≤ i * S.k := Nat.mul_le_mul_right _ h1
        omega
    rw [S.cells_at _ i j (by simpa using hi) hj, show S.get (List.replicate n S.z) i = S.z by simp [Shape.get, List.getD, hi], hz]
    have hm : (i * S.k + j) % z.size = j := by rw [hk, Nat.mul_comm, Nat.mul_add_mod]; exact Nat.mod_eq_of_lt hj
    simp [madeCells, ht, hk, hj]
    rw [Nat.mod_eq_of_lt hj, getElem!_pos z j (by omega)]
  · rw [List.getElem?_eq_none (by simp [madeCells]; omega), List.getElem?_eq_none (by rw [S.cells_len]; simp; omega)]

theorem Rd.line {w : World} {a : Option Addr} {n : Nat} {xs : List Ln} (h : Rd shL w a n xs) (i : Nat) (hi : i < n) : ∃ x, a = some x ∧ x.block < w.heap.size ∧ ∀ j, j < 41 → w.cell? ((x.add (i * 41)).add j) = (lnCells (lAt xs i))[j]? := by
  obtain ⟨x, e, hb, hc⟩ := h.cell i hi
  refine ⟨x, e, hb, fun j hj => ?_⟩
  have h1 := hc j hj
  have h2 : (lnCells (lAt xs i))[j]? = (shL.enc (shL.get xs i))[j]? := by simp [lnCells, lAt]; rfl
  rw [h2, ← h1]
  congr 1
  unfold Addr.add
  by_cases h0 : i * 41 = 0
  · by_cases h3 : j = 0
    · simp [h0, h3, shL]
    · simp [h0, h3, shL]
  · by_cases h3 : j = 0
    · simp [h0, h3, shL]
    · simp [h0, h3, shL]; omega

theorem Rd.lineX {w : World} {x : Addr} {n : Nat} {xs : List Ln} (h : Rd shL w (some x) n xs) (i : Nat) (hi : i < n) : ∀ j, j < 41 → w.cell? ((x.add (i * 41)).add j) = (lnCells (lAt xs i))[j]? := by
  obtain ⟨x', e, _, hc⟩ := h.line i hi
  cases e
  exact hc

end Go.Proofs.Ytpkenhcglnognaa
