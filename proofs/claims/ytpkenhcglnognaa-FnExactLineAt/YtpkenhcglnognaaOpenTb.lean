/-
  Lists of lines, and a table, that came in as data, opened.
-/
import Derived.Test.YtpkenhcglnognaaLn17
import Derived.Test.YtpkenhcglnognaaOpenCnL
namespace Go.Proofs.Ytpkenhcglnognaa
open Go.ChangeShapes Go.WideShapes Go.ChangeAt Go.RowKit
set_option linter.unusedVariables false
set_option maxRecDepth 10000
open Go.Deep
set_option linter.unusedSimpArgs false

/-- The cells of a line that came in are in their kinds' bounds. -/
structure WfL (l : Ln) (ps : List (Int × ByteArray)) : Prop where
  hh : (Lit.int .u32 l.hH).wf = true
  hp : (Lit.int .i64 l.hP).wf = true
  th : (Lit.int .u32 l.tH).wf = true
  tp : (Lit.int .i64 l.tP).wf = true
  wc : WfC l.c ps

set_option maxHeartbeats 4000000 in
theorem open_line {H : Type} {enc : TypeId × Value → H} {W : World} {fuel : Nat} {l : List Value} {x : DataW H × List MemPlace} (hsz : l.length = 41) (hf : DataW.trod enc Try.prog W 0 (fun _ => true) true fuel 81 l = some x) :
    ∃ (q : Ln) (ps : List (Int × ByteArray)), l = lnL q ∧ Rd shP W q.c.pa q.c.pn ps ∧ WfL q ps := by
  obtain ⟨ys, n, _, hx, _, hlen, hg⟩ := DataW.trod_struct Try.underlying81 hf
  clear hx hf
  have z1 : Try.prog.cellsOf 3 = 1 := by kernel_rfl
  have z2 : Try.prog.cellsOf 22 = 1 := by kernel_rfl
  have z3 : Try.prog.cellsOf 35 = 2 := by kernel_rfl
  have z4 : Try.prog.cellsOf 79 = 37 := by kernel_rfl
  obtain ⟨a0, a1, a2, a3, r, rfl⟩ : ∃ a0 a1 a2 a3 r, l = a0 :: a1 :: a2 :: a3 :: r := by
    match l, hsz with
    | a0 :: a1 :: a2 :: a3 :: r, _ => exact ⟨a0, a1, a2, a3, r, rfl⟩
  replace hsz : r.length = 37 := by simpa using hsz
  match ys, hlen with
  | [y0, y1, y2], _ =>
    have g0 := hg 0 _ rfl
    have g1 := hg 1 _ rfl
    have g2 := hg 2 _ rfl
    simp [z3, z4] at g0 g1 g2
    rw [List.take_of_length_le (by omega)] at g2
    obtain ⟨u0, n0, _, _, _, l0, h0⟩ := DataW.trod_struct Try.underlying35 g0
    obtain ⟨u1, n1, _, _, _, l1, h1⟩ := DataW.trod_struct Try.underlying35 g1
    obtain ⟨c, ps, rfl, R, W⟩ := open_connL hsz g2
    match u0, l0, u1, l1 with
    | [v0, v1], _, [v2, v3], _ =>
      have k0 := h0 0 _ rfl
      have k1 := h0 1 _ rfl
      have k2 := h1 0 _ rfl
      have k3 := h1 1 _ rfl
      simp [z1, z2] at k0 k1 k2 k3
      obtain ⟨b0, e0, _, w0⟩ := DataW.trod_int Try.underlying22 k0
      obtain ⟨b1, e1, _, w1⟩ := DataW.trod_int Try.underlying3 k1
      obtain ⟨b2, e2, _, w2⟩ := DataW.trod_int Try.underlying22 k2
      obtain ⟨b3, e3, _, w3⟩ := DataW.trod_int Try.underlying3 k3
      simp only [List.cons.injEq, and_true] at e0 e1 e2 e3
      subst e0
      subst e1
      subst e2
      subst e3
      exact ⟨⟨b0, b1, b2, b3, c⟩, ps, rfl, R, ⟨w0, w1, w2, w3, W⟩⟩

set_option maxHeartbeats 4000000 in
theorem open_lines {H : Type} {enc : TypeId × Value → H} {W : World} {fuel : Nat} {c : Value} {x : DataW H × List MemPlace} (hf : DataW.trod enc Try.prog W 0 (fun _ => true) true fuel 23 [c] = some x) :
    ∃ (a : Option Addr) (n cap : Nat) (xs : List Ln) (pp : List (List (Int × ByteArray))), c = .slice a n cap ∧ Rl W a n xs pp ∧ ∀ i, i < n → WfL (lAt xs i) (qAt pp i) := by
  rcases open_slice Try.underlying23 hf with ⟨hcs, _⟩ | ⟨a, len, cap, m, n, D, Pl, hcs, hb, hl, hm, hmm, _, hx⟩
  · simp only [List.cons.injEq, and_true] at hcs
    exact ⟨none, 0, 0, [], [], hcs, ⟨⟨rfl, Nat.zero_le _, fun i hi => by omega⟩, fun i hi => by omega⟩, fun i hi => by omega⟩
  · simp only [List.cons.injEq, and_true] at hcs
    have hm' : m = cap := by simpa using hmm
    have ce : Try.prog.cellsOf 81 = 41 := by kernel_rfl
    have each : ∀ i, i < m → ∃ o : Ln × List (Int × ByteArray), (∀ j, j < 41 → W.cell? (a.add (i * 41 + j)) = (lnL o.1)[j]?) ∧ Rd shP W o.1.c.pa o.1.c.pn o.2 ∧ WfL o.1 o.2 := by
      intro i hi
      obtain ⟨cs', h1, h2⟩ := hx i hi
      rw [ce] at h1
      obtain ⟨_, hlen, hcell⟩ := World.cells?_some h1
      obtain ⟨q, ps, rfl, R, W'⟩ := open_line hlen h2
      refine ⟨(q, ps), fun j hj => ?_, R, W'⟩
      have h3 := hcell j hj
      rw [add_add] at h3
      rw [h3]
    have : Inhabited (Ln × List (Int × ByteArray)) := ⟨(lnZero, [])⟩
    obtain ⟨q, hq⟩ := choose_lt each
    have e : ∀ i, i < len → lAt ((List.range len).map fun i => (q i).1) i = (q i).1 := fun i hi => by simp [lAt, Shape.get, List.getD, hi]
    have e' : ∀ i, i < len → qAt ((List.range len).map fun i => (q i).2) i = (q i).2 := fun i hi => by simp [qAt, List.getD, hi]
    refine ⟨some a, len, cap, (List.range len).map fun i => (q i).1, (List.range len).map fun i => (q i).2, hcs, ⟨⟨by simp, Nat.le_trans hl hm, fun i hi => ⟨a, rfl, ?_, fun j hj => ?_⟩⟩, fun i hi => ?_⟩, fun i hi => ?_⟩
    · have h4 := (hq i (by omega)).1 0 (by omega)
      have hb2 := World.block_lt_of_cell? W _ (h4.trans rfl)
      have hbl : (a.add (i * 41 + 0)).block = a.block := by unfold Addr.add; split <;> rfl
      omega
    · have h1 : shL.get ((List.range len).map fun i => (q i).1) i = (q i).1 := e i hi
      rw [h1]
      exact (hq i (by omega)).1 j hj
    · rw [e i hi, e' i hi]
      exact (hq i (by omega)).2.1
    · rw [e i hi, e' i hi]
      exact (hq i (by omega)).2.2

/-- A table: its numbers and the slice of its lines. -/
structure Tb where
  po : Int
  rm : Int
  se : Int
  ep : Int
  nw : Int
  la : Option Addr
  ln : Nat
  lc : Nat

def tbCells (t : Tb) : Array Value := #[.int .i64 t.po, .int .i64 t.rm, .int .u32 t.se, .int .i64 t.ep, .int .i64 t.nw, .slice t.la t.ln t.lc]

def tbZero : Tb := ⟨0, 0, 0, 0, 0, none, 0, 0⟩

theorem tb_big : IsBig 30 6 := ⟨⟨_, Try.underlying30, rfl⟩, by kernel_rfl⟩

theorem ltb_big : IsBig 25 6 := ⟨⟨_, Try.underlying25, rfl⟩, by kernel_rfl⟩

theorem tb_one (t : Tb) : (tbCells t).all (·.oneCell') = true := by simp [tbCells, Value.oneCell']

/-- What is known of a table that came in. -/
structure WfT (w : World) (t : Tb) (xs : List Ln) (pp : List (List (Int × ByteArray))) : Prop where
  po : (Lit.int .i64 t.po).wf = true
  rm : (Lit.int .i64 t.rm).wf = true
  se : (Lit.int .u32 t.se).wf = true
  ep : (Lit.int .i64 t.ep).wf = true
  nw : (Lit.int .i64 t.nw).wf = true
  rl : Rl w t.la t.ln xs pp
  wl : ∀ i, i < t.ln → WfL (lAt xs i) (qAt pp i)

theorem open_table {H : Type} {enc : TypeId × Value → H} {W : World} {base : Nat} {v : Value} {d : DataW H} {p : List MemPlace} (hv : Value.okWide Try.prog W .any base 25 v) (h : DataW.Trod enc Try.prog W 0 (fun _ => true) true 25 v d p) :
    ∃ (t : Tb) (xs : List Ln) (pp : List (List (Int × ByteArray))), v = .agg (tbCells t) ∧ WfT W t xs pp := by
  obtain ⟨cs, ys, m0, rfl, hcs, _, _, hys, hf⟩ := open_aggs Try.underlying25 (by kernel_rfl) (by kernel_rfl) hv h
  obtain ⟨l⟩ := cs
  match l, hcs, ys, hys with
  | [c0, c1, c2, c3, c4, c5], _, [y0, y1, y2, y3, y4, y5], _ =>
    obtain ⟨a0, e0, _, w0⟩ := DataW.trod_int Try.underlying3 (hf 0 _ rfl c0 y0 rfl rfl)
    obtain ⟨a1, e1, _, w1⟩ := DataW.trod_int Try.underlying3 (hf 1 _ rfl c1 y1 rfl rfl)
    obtain ⟨a2, e2, _, w2⟩ := DataW.trod_int Try.underlying22 (hf 2 _ rfl c2 y2 rfl rfl)
    obtain ⟨a3, e3, _, w3⟩ := DataW.trod_int Try.underlying3 (hf 3 _ rfl c3 y3 rfl rfl)
    obtain ⟨a4, e4, _, w4⟩ := DataW.trod_int Try.underlying3 (hf 4 _ rfl c4 y4 rfl rfl)
    obtain ⟨a, n, cap, xs, pp, rfl, R, W⟩ := open_lines (hf 5 _ rfl c5 y5 rfl rfl)
    simp only [List.cons.injEq, and_true] at e0 e1 e2 e3 e4
    subst e0
    subst e1
    subst e2
    subst e3
    subst e4
    exact ⟨⟨a0, a1, a2, a3, a4, a, n, cap⟩, xs, pp, rfl, ⟨w0, w1, w2, w3, w4, R, W⟩⟩
end Go.Proofs.Ytpkenhcglnognaa
