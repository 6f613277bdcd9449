/-
  Whether a table is one: what TableOk answers, and spec's by contract.
-/
import Derived.Test.YtpkenhcglnognaaOpenTb
import Derived.Test.YtpkenhcglnognaaConnOkS
import Derived.Test.YtpkenhcglnognaaQuietL
import Derived.Deep.DeepCutAuto
namespace Go.Proofs.Ytpkenhcglnognaa
open Go.ChangeShapes Go.WideShapes Go.ChangeAt Go.RowKit Go.Deep
set_option linter.unusedVariables false
set_option maxRecDepth 10000
set_option linter.unusedSimpArgs false

/-- The numbers of a table. -/
structure TabNums (t : Tb) : Prop where
  po : 1 ≤ t.po ∧ t.po ≤ 65535
  rm : 1 ≤ t.rm ∧ t.rm ≤ 4096
  ep : 0 ≤ t.ep ∧ t.ep ≤ 1000000000
  nw : 0 ≤ t.nw ∧ t.nw ≤ 1000000000
  ln : t.ln ≤ 12

def LineOk (l : Ln) (ps : List (Int × ByteArray)) : Prop := connOk l.c ps = true ∧ l.c.st ≠ 0 ∧ (1 ≤ l.hP ∧ l.hP ≤ 65535) ∧ (1 ≤ l.tP ∧ l.tP ≤ 65535)

def SameAd (l m : Ln) : Prop := (l.hH = m.hH ∧ l.hP = m.hP) ∧ (l.tH = m.tH ∧ l.tP = m.tP)

/-- The first n lines are right, and no two of them the same. -/
def LinesOk (xs : List Ln) (pp : List (List (Int × ByteArray))) (n : Nat) : Prop := ∀ i, i < n → LineOk (lAt xs i) (qAt pp i) ∧ ∀ k, k < i → ¬ SameAd (lAt xs k) (lAt xs i)

def TableOk (t : Tb) (xs : List Ln) (pp : List (List (Int × ByteArray))) : Prop := TabNums t ∧ LinesOk xs pp t.ln

theorem LinesOk.next {xs : List Ln} {pp : List (List (Int × ByteArray))} {i : Nat} (h : LinesOk xs pp i) (h1 : LineOk (lAt xs i) (qAt pp i)) (h2 : ∀ k, k < i → ¬ SameAd (lAt xs k) (lAt xs i)) : LinesOk xs pp (i + 1) := by
  intro j hj
  by_cases e : j = i
  · subst e; exact ⟨h1, h2⟩
  · exact h j (by omega)

theorem like_ok {l m : Ln} (e : core l = core m) (ps : List (Int × ByteArray)) : LineOk l ps ↔ LineOk m ps := by
  have h1 : LineOk (core l) ps ↔ LineOk l ps := Iff.rfl
  have h2 : LineOk (core m) ps ↔ LineOk m ps := Iff.rfl
  rw [← h1, e, h2]

theorem like_ad {l m l' m' : Ln} (e : core l = core l') (e' : core m = core m') : SameAd l m ↔ SameAd l' m' := by
  have h1 : SameAd (core l) (core m) ↔ SameAd l m := Iff.rfl
  have h2 : SameAd (core l') (core m') ↔ SameAd l' m' := Iff.rfl
  rw [← h1, e, e', h2]

theorem like_lines {n : Nat} {xs ys : List Ln} (h : Like n xs ys) (pp : List (List (Int × ByteArray))) : LinesOk xs pp n ↔ LinesOk ys pp n := by
  constructor
  · intro k i hi
    exact ⟨(like_ok (h i hi) _).1 (k i hi).1, fun j hj q => (k i hi).2 j hj ((like_ad (h j (by omega)) (h i hi)).2 q)⟩
  · intro k i hi
    exact ⟨(like_ok (h i hi) _).2 (k i hi).1, fun j hj q => (k i hi).2 j hj ((like_ad (h j (by omega)) (h i hi)).1 q)⟩

theorem specInB (x a b : Int) (q : Bool) (h : decide (a ≤ x ∧ x ≤ b) = q) (w : World) :
    Calls Try.prog 15 #[.int .i64 x, .int .i64 a, .int .i64 b] w fun e w' => e = .returned (.bool q) ∧ w = w' := by
  rw [← h]
  exact specIn x a b w

theorem specPortB (x : Int) (q : Bool) (h : decide (1 ≤ x ∧ x ≤ 65535) = q) (w : World) :
    Calls Try.prog 14 #[.int .i64 x] w fun e w' => e = .returned (.bool q) ∧ w = w' := by
  have hs := fun wx => specInB x 1 65535 q h wx
  go_enter Try.func14, Try.ntmps14
  go_wp2_with (go_at_call 15; refine (hs _).mono ?_; rintro _ w1 ⟨rfl, rfl⟩)
  go_ret
  exact ⟨rfl, rfl⟩

theorem add_addL (x : Addr) (i j : Nat) : (x.add i).add j = x.add (i + j) := by
  unfold Addr.add
  by_cases h0 : i = 0
  · by_cases h3 : j = 0
    · simp [h0, h3]
    · simp [h0, h3]
  · by_cases h3 : j = 0
    · simp [h0, h3]
    · simp [h0, h3]; omega

section
variable {ops : Array Oper} {rest : List Oper} {o : Oper} {a : Act} {wb : World} {Q : Act → Prop}

theorem q_Q (hw : Region.wanted o (yielded ops a.tmps) = true) {t : TypeId} {k : Nat} {A : Addr} {cs : Array Value} (T : IsBig t k) (hs : cs.size = k) (x : Operand) (ho : o.op = .load t x) (hx : a.eval x = .pointer (some A))
    (hc : ∀ y, Since wb y → ∀ j, j < k → y.cell? (A.add j) = cs[j]?) (h : QW ops wb Q rest (a.put o.dst (.agg cs))) : QW ops wb Q (o :: rest) a := by
  refine q_val hw _ (fun y hy => ?_) h
  obtain ⟨d, h1, h2⟩ := T.row
  have e := run_loadVar_at y A t cs.toList d (fun j v hv => by
    have hj : j < cs.size := by
      rcases Nat.lt_or_ge j cs.size with h | h
      · exact h
      · rw [Array.getElem?_toList, Array.getElem?_eq_none h] at hv; cases hv
    rw [hc y hy j (by omega)]
    simpa using hv) h1 h2 (by rw [T.size, ← hs]; simp)
  unfold execOp
  simp only [ho, hx, Instr.loadAt, Instr.sureAddr, Sem.run_bind, Sem.run_pure, Result.andThen_ok, e]
end

/-- Both addresses of a line of a list. -/
theorem line_here {w : World} {A : Addr} {l : Ln} (h : ∀ j, j < 41 → w.cell? (A.add j) = (lnCells l)[j]?) : ∀ j, j < 2 → w.cell? ((A.add 0).add j) = (#[.int .u32 l.hH, .int .i64 l.hP] : Array Value)[j]? := by
  intro j hj
  rw [add_addL, Nat.zero_add, h j (by omega)]
  match j, hj with
  | 0, _ => rfl
  | 1, _ => rfl

theorem line_there {w : World} {A : Addr} {l : Ln} (h : ∀ j, j < 41 → w.cell? (A.add j) = (lnCells l)[j]?) : ∀ j, j < 2 → w.cell? ((A.add 2).add j) = (#[.int .u32 l.tH, .int .i64 l.tP] : Array Value)[j]? := by
  intro j hj
  rw [add_addL, h (2 + j) (by omega)]
  match j, hj with
  | 0, _ => rfl
  | 1, _ => rfl

set_option maxRecDepth 20000 in
set_option maxHeartbeats 8000000 in
theorem specTableOk (t : Tb) (xs : List Ln) (pp : List (List (Int × ByteArray))) (q : Bool) (hq : q = true ↔ TableOk t xs pp) (hm : t.ln ≤ maxLen) (gc : ∀ i, i < t.ln → GoodC (lAt xs i).c (qAt pp i)) (w : World) (R : Rl w t.la t.ln xs pp) :
    Calls Try.prog 6 #[.agg (tbCells t)] w fun e w' => e = .returned (.bool q) ∧ Since w w' := by
  have G := Since.refl w
  unfold maxLen at hm
  go_enter Try.func6, Try.ntmps6
  go_upto_region 0 with (fail)
  refine vR ?_
  refine vW (w.alloc (.cells (tbCells t) 30)) (.pointer (some ⟨w.heap.size, 0, none⟩)) ?_
  have qB2 := Blk.new w (tbCells t) 30
  have qg3 := (Since.refl w).alloc (.cells (tbCells t) 30)
  replace G := G.trans qg3
  generalize w.alloc (.cells (tbCells t) 30) = qw1 at  G qB2 qg3 ⊢
  have qB2_l := qB2.lt
  have qg3_s := qg3.size
  refine vV (.bool false) ?_
  refine vE #[.agg (tbCells t),.pointer (some ⟨w.heap.size, 0, none⟩),.bool false,U,U,U,U,U,U,U,U,U,U,U,U,U,U,U,U,U,U,U,U,U,U,U,U,U,U,U,U,U,U,U,U,U,U,U,U,U,U,U,U,U,U,U,U,U,U,U,U,U,U,U,U,U,U,U,U,U,U,U,U,U,U,U,U,U,U,U,U,U,U,U,U,U,U,U,U,U,U,U,U,U,U,U,U,U,U,U,U,U,U,U,U] ?_
  go_upto_region 1 with (fail)
  by_cases c0 : 1 ≤ t.po ∧ t.po ≤ 65535
  case neg =>
    have hqf : q = false := by
      cases q
      · rfl
      · exact absurd (hq.1 rfl).1.po c0
    subst hqf
    clear hq
    refine vR ?_
    refine vV (.pointer (some ⟨w.heap.size, 0, none⟩)) ?_
    refine vD (.int .i64 t.po) (qB2.cell 0) ?_
    refine vC (specPortB t.po false (decide_eq_false c0) _) ?_
    rintro _ _ ⟨rfl, rfl⟩
    refine ⟨_, rfl, ?_⟩
    refine vV (.bool true) ?_
    refine vV (.bool true) ?_
    refine vS ?_
    refine vS ?_
    refine vS ?_
    refine vS ?_
    refine vV (.bool true) ?_
    refine vV (.bool true) ?_
    refine vS ?_
    refine vS ?_
    refine vS ?_
    refine vS ?_
    refine vV (.bool true) ?_
    refine vV (.bool true) ?_
    refine vS ?_
    refine vS ?_
    refine vS ?_
    refine vS ?_
    refine vV (.bool true) ?_
    refine vV (.bool true) ?_
    refine vS ?_
    refine vS ?_
    refine vS ?_
    refine vS ?_
    refine vV (.bool true) ?_
    refine vE #[.agg (tbCells t),.pointer (some ⟨w.heap.size, 0, none⟩),.bool false,U,U,U,.pointer (some ⟨w.heap.size, 0, none⟩),.int .i64 t.po,.bool false,.bool true,.bool true,U,U,U,U,.bool true,.bool true,U,U,U,U,.bool true,.bool true,U,U,U,U,.bool true,.bool true,U,U,U,U,.bool true,U,U,U,U,U,U,U,U,U,U,U,U,U,U,U,U,U,U,U,U,U,U,U,U,U,U,U,U,U,U,U,U,U,U,U,U,U,U,U,U,U,U,U,U,U,U,U,U,U,U,U,U,U,U,U,U,U,U,U,U,U] ?_
    go_upto_region 2 with (fail)
    refine vR ?_
    refine vV (.bool false) ?_
    refine vE #[.agg (tbCells t),.pointer (some ⟨w.heap.size, 0, none⟩),.bool false,U,U,U,.pointer (some ⟨w.heap.size, 0, none⟩),.int .i64 t.po,.bool false,.bool true,.bool true,U,U,U,U,.bool true,.bool true,U,U,U,U,.bool true,.bool true,U,U,U,U,.bool true,.bool true,U,U,U,U,.bool true,U,U,U,U,U,U,U,U,U,U,U,U,U,U,U,U,U,U,U,U,U,U,U,U,U,U,U,U,U,U,U,U,U,U,U,U,U,U,U,U,U,U,U,U,U,U,U,U,U,U,U,U,U,U,U,U,U,U,U,U,U] ?_
    go_wp2_with (fail)
    go_ret
    exact ⟨rfl, G⟩
  by_cases c1 : 1 ≤ t.rm ∧ t.rm ≤ 4096
  case neg =>
    have hqf : q = false := by
      cases q
      · rfl
      · exact absurd (hq.1 rfl).1.rm c1
    subst hqf
    clear hq
    refine vR ?_
    refine vV (.pointer (some ⟨w.heap.size, 0, none⟩)) ?_
    refine vD (.int .i64 t.po) (qB2.cell 0) ?_
    refine vC (specPortB t.po true (decide_eq_true c0) _) ?_
    rintro _ _ ⟨rfl, rfl⟩
    refine ⟨_, rfl, ?_⟩
    refine vV (.bool false) ?_
    refine vV (.bool false) ?_
    refine vV (.pointer (some ⟨w.heap.size, 1, none⟩)) ?_
    refine vD (.int .i64 t.rm) (qB2.cell 1) ?_
    refine vC (specInB t.rm 1 4096 false (decide_eq_false c1) _) ?_
    rintro _ _ ⟨rfl, rfl⟩
    refine ⟨_, rfl, ?_⟩
    refine vV (.bool true) ?_
    refine vV (.bool true) ?_
    refine vV (.bool true) ?_
    refine vS ?_
    refine vS ?_
    refine vS ?_
    refine vS ?_
    refine vV (.bool true) ?_
    refine vV (.bool true) ?_
    refine vS ?_
    refine vS ?_
    refine vS ?_
    refine vS ?_
    refine vV (.bool true) ?_
    refine vV (.bool true) ?_
    refine vS ?_
    refine vS ?_
    refine vS ?_
    refine vS ?_
    refine vV (.bool true) ?_
    refine vE #[.agg (tbCells t),.pointer (some ⟨w.heap.size, 0, none⟩),.bool false,U,U,U,.pointer (some ⟨w.heap.size, 0, none⟩),.int .i64 t.po,.bool true,.bool false,.bool false,.pointer (some ⟨w.heap.size, 1, none⟩),.int .i64 t.rm,.bool false,.bool true,.bool true,.bool true,U,U,U,U,.bool true,.bool true,U,U,U,U,.bool true,.bool true,U,U,U,U,.bool true,U,U,U,U,U,U,U,U,U,U,U,U,U,U,U,U,U,U,U,U,U,U,U,U,U,U,U,U,U,U,U,U,U,U,U,U,U,U,U,U,U,U,U,U,U,U,U,U,U,U,U,U,U,U,U,U,U,U,U,U,U] ?_
    go_upto_region 2 with (fail)
    refine vR ?_
    refine vV (.bool false) ?_
    refine vE #[.agg (tbCells t),.pointer (some ⟨w.heap.size, 0, none⟩),.bool false,U,U,U,.pointer (some ⟨w.heap.size, 0, none⟩),.int .i64 t.po,.bool true,.bool false,.bool false,.pointer (some ⟨w.heap.size, 1, none⟩),.int .i64 t.rm,.bool false,.bool true,.bool true,.bool true,U,U,U,U,.bool true,.bool true,U,U,U,U,.bool true,.bool true,U,U,U,U,.bool true,U,U,U,U,U,U,U,U,U,U,U,U,U,U,U,U,U,U,U,U,U,U,U,U,U,U,U,U,U,U,U,U,U,U,U,U,U,U,U,U,U,U,U,U,U,U,U,U,U,U,U,U,U,U,U,U,U,U,U,U,U] ?_
    go_wp2_with (fail)
    go_ret
    exact ⟨rfl, G⟩
  by_cases c2 : 0 ≤ t.ep ∧ t.ep ≤ 1000000000
  case neg =>
    have hqf : q = false := by
      cases q
      · rfl
      · exact absurd (hq.1 rfl).1.ep c2
    subst hqf
    clear hq
    refine vR ?_
    refine vV (.pointer (some ⟨w.heap.size, 0, none⟩)) ?_
    refine vD (.int .i64 t.po) (qB2.cell 0) ?_
    refine vC (specPortB t.po true (decide_eq_true c0) _) ?_
    rintro _ _ ⟨rfl, rfl⟩
    refine ⟨_, rfl, ?_⟩
    refine vV (.bool false) ?_
    refine vV (.bool false) ?_
    refine vV (.pointer (some ⟨w.heap.size, 1, none⟩)) ?_
    refine vD (.int .i64 t.rm) (qB2.cell 1) ?_
    refine vC (specInB t.rm 1 4096 true (decide_eq_true c1) _) ?_
    rintro _ _ ⟨rfl, rfl⟩
    refine ⟨_, rfl, ?_⟩
    refine vV (.bool false) ?_
    refine vV (.bool false) ?_
    refine vV (.bool false) ?_
    refine vV (.pointer (some ⟨w.heap.size, 3, none⟩)) ?_
    refine vD (.int .i64 t.ep) (qB2.cell 3) ?_
    refine vC (specInB t.ep 0 1000000000 false (decide_eq_false c2) _) ?_
    rintro _ _ ⟨rfl, rfl⟩
    refine ⟨_, rfl, ?_⟩
    refine vV (.bool true) ?_
    refine vV (.bool true) ?_
    refine vV (.bool true) ?_
    refine vS ?_
    refine vS ?_
    refine vS ?_
    refine vS ?_
    refine vV (.bool true) ?_
    refine vV (.bool true) ?_
    refine vS ?_
    refine vS ?_
    refine vS ?_
    refine vS ?_
    refine vV (.bool true) ?_
    refine vE #[.agg (tbCells t),.pointer (some ⟨w.heap.size, 0, none⟩),.bool false,U,U,U,.pointer (some ⟨w.heap.size, 0, none⟩),.int .i64 t.po,.bool true,.bool false,.bool false,.pointer (some ⟨w.heap.size, 1, none⟩),.int .i64 t.rm,.bool true,.bool false,.bool false,.bool false,.pointer (some ⟨w.heap.size, 3, none⟩),.int .i64 t.ep,.bool false,.bool true,.bool true,.bool true,U,U,U,U,.bool true,.bool true,U,U,U,U,.bool true,U,U,U,U,U,U,U,U,U,U,U,U,U,U,U,U,U,U,U,U,U,U,U,U,U,U,U,U,U,U,U,U,U,U,U,U,U,U,U,U,U,U,U,U,U,U,U,U,U,U,U,U,U,U,U,U,U,U,U,U,U] ?_
    go_upto_region 2 with (fail)
    refine vR ?_
    refine vV (.bool false) ?_
    refine vE #[.agg (tbCells t),.pointer (some ⟨w.heap.size, 0, none⟩),.bool false,U,U,U,.pointer (some ⟨w.heap.size, 0, none⟩),.int .i64 t.po,.bool true,.bool false,.bool false,.pointer (some ⟨w.heap.size, 1, none⟩),.int .i64 t.rm,.bool true,.bool false,.bool false,.bool false,.pointer (some ⟨w.heap.size, 3, none⟩),.int .i64 t.ep,.bool false,.bool true,.bool true,.bool true,U,U,U,U,.bool true,.bool true,U,U,U,U,.bool true,U,U,U,U,U,U,U,U,U,U,U,U,U,U,U,U,U,U,U,U,U,U,U,U,U,U,U,U,U,U,U,U,U,U,U,U,U,U,U,U,U,U,U,U,U,U,U,U,U,U,U,U,U,U,U,U,U,U,U,U,U] ?_
    go_wp2_with (fail)
    go_ret
    exact ⟨rfl, G⟩
  by_cases c3 : 0 ≤ t.nw ∧ t.nw ≤ 1000000000
  case neg =>
    have hqf : q = false := by
      cases q
      · rfl
      · exact absurd (hq.1 rfl).1.nw c3
    subst hqf
    clear hq
    refine vR ?_
    refine vV (.pointer (some ⟨w.heap.size, 0, none⟩)) ?_
    refine vD (.int .i64 t.po) (qB2.cell 0) ?_
    refine vC (specPortB t.po true (decide_eq_true c0) _) ?_
    rintro _ _ ⟨rfl, rfl⟩
    refine ⟨_, rfl, ?_⟩
    refine vV (.bool false) ?_
    refine vV (.bool false) ?_
    refine vV (.pointer (some ⟨w.heap.size, 1, none⟩)) ?_
    refine vD (.int .i64 t.rm) (qB2.cell 1) ?_
    refine vC (specInB t.rm 1 4096 true (decide_eq_true c1) _) ?_
    rintro _ _ ⟨rfl, rfl⟩
    refine ⟨_, rfl, ?_⟩
    refine vV (.bool false) ?_
    refine vV (.bool false) ?_
    refine vV (.bool false) ?_
    refine vV (.pointer (some ⟨w.heap.size, 3, none⟩)) ?_
    refine vD (.int .i64 t.ep) (qB2.cell 3) ?_
    refine vC (specInB t.ep 0 1000000000 true (decide_eq_true c2) _) ?_
    rintro _ _ ⟨rfl, rfl⟩
    refine ⟨_, rfl, ?_⟩
    refine vV (.bool false) ?_
    refine vV (.bool false) ?_
    refine vV (.bool false) ?_
    refine vV (.pointer (some ⟨w.heap.size, 4, none⟩)) ?_
    refine vD (.int .i64 t.nw) (qB2.cell 4) ?_
    refine vC (specInB t.nw 0 1000000000 false (decide_eq_false c3) _) ?_
    rintro _ _ ⟨rfl, rfl⟩
    refine ⟨_, rfl, ?_⟩
    refine vV (.bool true) ?_
    refine vV (.bool true) ?_
    refine vV (.bool true) ?_
    refine vS ?_
    refine vS ?_
    refine vS ?_
    refine vS ?_
    refine vV (.bool true) ?_
    refine vE #[.agg (tbCells t),.pointer (some ⟨w.heap.size, 0, none⟩),.bool false,U,U,U,.pointer (some ⟨w.heap.size, 0, none⟩),.int .i64 t.po,.bool true,.bool false,.bool false,.pointer (some ⟨w.heap.size, 1, none⟩),.int .i64 t.rm,.bool true,.bool false,.bool false,.bool false,.pointer (some ⟨w.heap.size, 3, none⟩),.int .i64 t.ep,.bool true,.bool false,.bool false,.bool false,.pointer (some ⟨w.heap.size, 4, none⟩),.int .i64 t.nw,.bool false,.bool true,.bool true,.bool true,U,U,U,U,.bool true,U,U,U,U,U,U,U,U,U,U,U,U,U,U,U,U,U,U,U,U,U,U,U,U,U,U,U,U,U,U,U,U,U,U,U,U,U,U,U,U,U,U,U,U,U,U,U,U,U,U,U,U,U,U,U,U,U,U,U,U,U] ?_
    go_upto_region 2 with (fail)
    refine vR ?_
    refine vV (.bool false) ?_
    refine vE #[.agg (tbCells t),.pointer (some ⟨w.heap.size, 0, none⟩),.bool false,U,U,U,.pointer (some ⟨w.heap.size, 0, none⟩),.int .i64 t.po,.bool true,.bool false,.bool false,.pointer (some ⟨w.heap.size, 1, none⟩),.int .i64 t.rm,.bool true,.bool false,.bool false,.bool false,.pointer (some ⟨w.heap.size, 3, none⟩),.int .i64 t.ep,.bool true,.bool false,.bool false,.bool false,.pointer (some ⟨w.heap.size, 4, none⟩),.int .i64 t.nw,.bool false,.bool true,.bool true,.bool true,U,U,U,U,.bool true,U,U,U,U,U,U,U,U,U,U,U,U,U,U,U,U,U,U,U,U,U,U,U,U,U,U,U,U,U,U,U,U,U,U,U,U,U,U,U,U,U,U,U,U,U,U,U,U,U,U,U,U,U,U,U,U,U,U,U,U,U] ?_
    go_wp2_with (fail)
    go_ret
    exact ⟨rfl, G⟩
  by_cases c4 : t.ln ≤ 12
  case neg =>
    have hqf : q = false := by
      cases q
      · rfl
      · exact absurd (hq.1 rfl).1.ln c4
    subst hqf
    clear hq
    refine vR ?_
    refine vV (.pointer (some ⟨w.heap.size, 0, none⟩)) ?_
    refine vD (.int .i64 t.po) (qB2.cell 0) ?_
    refine vC (specPortB t.po true (decide_eq_true c0) _) ?_
    rintro _ _ ⟨rfl, rfl⟩
    refine ⟨_, rfl, ?_⟩
    refine vV (.bool false) ?_
    refine vV (.bool false) ?_
    refine vV (.pointer (some ⟨w.heap.size, 1, none⟩)) ?_
    refine vD (.int .i64 t.rm) (qB2.cell 1) ?_
    refine vC (specInB t.rm 1 4096 true (decide_eq_true c1) _) ?_
    rintro _ _ ⟨rfl, rfl⟩
    refine ⟨_, rfl, ?_⟩
    refine vV (.bool false) ?_
    refine vV (.bool false) ?_
    refine vV (.bool false) ?_
    refine vV (.pointer (some ⟨w.heap.size, 3, none⟩)) ?_
    refine vD (.int .i64 t.ep) (qB2.cell 3) ?_
    refine vC (specInB t.ep 0 1000000000 true (decide_eq_true c2) _) ?_
    rintro _ _ ⟨rfl, rfl⟩
    refine ⟨_, rfl, ?_⟩
    refine vV (.bool false) ?_
    refine vV (.bool false) ?_
    refine vV (.bool false) ?_
    refine vV (.pointer (some ⟨w.heap.size, 4, none⟩)) ?_
    refine vD (.int .i64 t.nw) (qB2.cell 4) ?_
    refine vC (specInB t.nw 0 1000000000 true (decide_eq_true c3) _) ?_
    rintro _ _ ⟨rfl, rfl⟩
    refine ⟨_, rfl, ?_⟩
    refine vV (.bool false) ?_
    refine vV (.bool false) ?_
    refine vV (.bool false) ?_
    refine vV (.pointer (some ⟨w.heap.size, 5, none⟩)) ?_
    refine vD (.slice t.la t.ln t.lc) (qB2.cell 5) ?_
    refine vV (.int .i64 (t.ln : Int)) ?_ (hrun := by simp [execOp, go_sem])
    refine vV (.bool true) ?_ (hrun := by simp [execOp, go_sem]; omega)
    refine vV (.bool true) ?_
    refine vE #[.agg (tbCells t),.pointer (some ⟨w.heap.size, 0, none⟩),.bool false,U,U,U,.pointer (some ⟨w.heap.size, 0, none⟩),.int .i64 t.po,.bool true,.bool false,.bool false,.pointer (some ⟨w.heap.size, 1, none⟩),.int .i64 t.rm,.bool true,.bool false,.bool false,.bool false,.pointer (some ⟨w.heap.size, 3, none⟩),.int .i64 t.ep,.bool true,.bool false,.bool false,.bool false,.pointer (some ⟨w.heap.size, 4, none⟩),.int .i64 t.nw,.bool true,.bool false,.bool false,.bool false,.pointer (some ⟨w.heap.size, 5, none⟩),.slice t.la t.ln t.lc,.int .i64 (t.ln : Int),.bool true,.bool true,U,U,U,U,U,U,U,U,U,U,U,U,U,U,U,U,U,U,U,U,U,U,U,U,U,U,U,U,U,U,U,U,U,U,U,U,U,U,U,U,U,U,U,U,U,U,U,U,U,U,U,U,U,U,U,U,U,U,U,U,U] ?_
    go_upto_region 2 with (fail)
    refine vR ?_
    refine vV (.bool false) ?_
    refine vE #[.agg (tbCells t),.pointer (some ⟨w.heap.size, 0, none⟩),.bool false,U,U,U,.pointer (some ⟨w.heap.size, 0, none⟩),.int .i64 t.po,.bool true,.bool false,.bool false,.pointer (some ⟨w.heap.size, 1, none⟩),.int .i64 t.rm,.bool true,.bool false,.bool false,.bool false,.pointer (some ⟨w.heap.size, 3, none⟩),.int .i64 t.ep,.bool true,.bool false,.bool false,.bool false,.pointer (some ⟨w.heap.size, 4, none⟩),.int .i64 t.nw,.bool true,.bool false,.bool false,.bool false,.pointer (some ⟨w.heap.size, 5, none⟩),.slice t.la t.ln t.lc,.int .i64 (t.ln : Int),.bool true,.bool true,U,U,U,U,U,U,U,U,U,U,U,U,U,U,U,U,U,U,U,U,U,U,U,U,U,U,U,U,U,U,U,U,U,U,U,U,U,U,U,U,U,U,U,U,U,U,U,U,U,U,U,U,U,U,U,U,U,U,U,U,U] ?_
    go_wp2_with (fail)
    go_ret
    exact ⟨rfl, G⟩
  refine vR ?_
  refine vV (.pointer (some ⟨w.heap.size, 0, none⟩)) ?_
  refine vD (.int .i64 t.po) (qB2.cell 0) ?_
  refine vC (specPortB t.po true (decide_eq_true c0) _) ?_
  rintro _ _ ⟨rfl, rfl⟩
  refine ⟨_, rfl, ?_⟩
  refine vV (.bool false) ?_
  refine vV (.bool false) ?_
  refine vV (.pointer (some ⟨w.heap.size, 1, none⟩)) ?_
  refine vD (.int .i64 t.rm) (qB2.cell 1) ?_
  refine vC (specInB t.rm 1 4096 true (decide_eq_true c1) _) ?_
  rintro _ _ ⟨rfl, rfl⟩
  refine ⟨_, rfl, ?_⟩
  refine vV (.bool false) ?_
  refine vV (.bool false) ?_
  refine vV (.bool false) ?_
  refine vV (.pointer (some ⟨w.heap.size, 3, none⟩)) ?_
  refine vD (.int .i64 t.ep) (qB2.cell 3) ?_
  refine vC (specInB t.ep 0 1000000000 true (decide_eq_true c2) _) ?_
  rintro _ _ ⟨rfl, rfl⟩
  refine ⟨_, rfl, ?_⟩
  refine vV (.bool false) ?_
  refine vV (.bool false) ?_
  refine vV (.bool false) ?_
  refine vV (.pointer (some ⟨w.heap.size, 4, none⟩)) ?_
  refine vD (.int .i64 t.nw) (qB2.cell 4) ?_
  refine vC (specInB t.nw 0 1000000000 true (decide_eq_true c3) _) ?_
  rintro _ _ ⟨rfl, rfl⟩
  refine ⟨_, rfl, ?_⟩
  refine vV (.bool false) ?_
  refine vV (.bool false) ?_
  refine vV (.bool false) ?_
  refine vV (.pointer (some ⟨w.heap.size, 5, none⟩)) ?_
  refine vD (.slice t.la t.ln t.lc) (qB2.cell 5) ?_
  refine vV (.int .i64 (t.ln : Int)) ?_ (hrun := by simp [execOp, go_sem])
  refine vV (.bool false) ?_ (hrun := by simp [execOp, go_sem]; omega)
  refine vV (.bool false) ?_
  refine vE #[.agg (tbCells t),.pointer (some ⟨w.heap.size, 0, none⟩),.bool false,U,U,U,.pointer (some ⟨w.heap.size, 0, none⟩),.int .i64 t.po,.bool true,.bool false,.bool false,.pointer (some ⟨w.heap.size, 1, none⟩),.int .i64 t.rm,.bool true,.bool false,.bool false,.bool false,.pointer (some ⟨w.heap.size, 3, none⟩),.int .i64 t.ep,.bool true,.bool false,.bool false,.bool false,.pointer (some ⟨w.heap.size, 4, none⟩),.int .i64 t.nw,.bool true,.bool false,.bool false,.bool false,.pointer (some ⟨w.heap.size, 5, none⟩),.slice t.la t.ln t.lc,.int .i64 (t.ln : Int),.bool false,.bool false,U,U,U,U,U,U,U,U,U,U,U,U,U,U,U,U,U,U,U,U,U,U,U,U,U,U,U,U,U,U,U,U,U,U,U,U,U,U,U,U,U,U,U,U,U,U,U,U,U,U,U,U,U,U,U,U,U,U,U,U,U] ?_
  go_upto_region 3 with (fail)
  refine vR ?_
  refine vV (.int .i64 0) ?_
  refine vE #[.agg (tbCells t),.pointer (some ⟨w.heap.size, 0, none⟩),.bool false,.int .i64 0,U,U,.pointer (some ⟨w.heap.size, 0, none⟩),.int .i64 t.po,.bool true,.bool false,.bool false,.pointer (some ⟨w.heap.size, 1, none⟩),.int .i64 t.rm,.bool true,.bool false,.bool false,.bool false,.pointer (some ⟨w.heap.size, 3, none⟩),.int .i64 t.ep,.bool true,.bool false,.bool false,.bool false,.pointer (some ⟨w.heap.size, 4, none⟩),.int .i64 t.nw,.bool true,.bool false,.bool false,.bool false,.pointer (some ⟨w.heap.size, 5, none⟩),.slice t.la t.ln t.lc,.int .i64 (t.ln : Int),.bool false,.bool false,U,U,U,U,U,U,U,U,U,U,U,U,U,U,U,U,U,U,U,U,U,U,U,U,U,U,U,U,U,U,U,U,U,U,U,U,U,U,U,U,U,U,U,U,U,U,U,U,U,U,U,U,U,U,U,U,U,U,U,U,U] ?_
  go_wp2_with (fail)
  have hT_l := qB2.lt
  obtain ⟨bT, hbT⟩ : ∃ b, b = w.heap.size := ⟨_, rfl⟩
  rw [← hbT] at qB2 ⊢
  have HT := qB2
  clear qB2
  have hb_0 : w.heap.size ≤ bT := by omega
  have hb_2 : bT < qw1.heap.size := by omega
  clear hbT
  go_loopw [3] (fun iv wr => ∃ (i : Nat), iv = .int .i64 (i : Int) ∧ i ≤ t.ln ∧ Blk bT wr (tbCells t) ∧ Since w wr ∧ bT < wr.heap.size ∧ Hid (LinesOk xs pp i)) (fun iv _ => t.ln - (intOf iv).toNat)
  case atStart => exact ⟨0, rfl, by omega, HT, G, by omega, (fun j hj => absurd hj (Nat.not_lt_zero j) : LinesOk xs pp 0)⟩
  case round =>
    clear G HT
    obtain ⟨i, rfl, hi, A, G, hbl, hO⟩ := hrel
    obtain ⟨wo, rfl⟩ : ∃ x, x = wr := ⟨_, rfl⟩
    have hF : From wo wo := ⟨Since.refl wo⟩
    by_cases hlt : i < t.ln
    case pos =>
      have hlt' : (i : Int) < (t.ln : Int) := by omega
      obtain ⟨xa, exa0, hxb, hL⟩ := (R.since G).rd.line i hlt
      have exa : Hid (t.la = some xa) := exa0
      clear exa0
      have Rp := (R.since G).ps i hlt
      have hC := fun wx Rx => specConnOk (lAt xs i).c (qAt pp i) (gc i hlt) wx Rx
      unfold cnVal at hC
      have hlo : LineOk (lAt xs i) (qAt pp i) ↔ (connOk (lAt xs i).c (qAt pp i) = true ∧ (lAt xs i).c.st ≠ 0 ∧ (1 ≤ (lAt xs i).hP ∧ (lAt xs i).hP ≤ 65535) ∧ (1 ≤ (lAt xs i).tP ∧ (lAt xs i).tP ≤ 65535)) := Iff.rfl
      have hbad : Hid (q = true → LineOk (lAt xs i) (qAt pp i) ∧ ∀ k, k < i → ¬ SameAd (lAt xs k) (lAt xs i)) := (fun e => (hq.1 e).2 i hlt : q = true → _)
      have hnx : Hid (LineOk (lAt xs i) (qAt pp i) → (∀ k, k < i → ¬ SameAd (lAt xs k) (lAt xs i)) → LinesOk xs pp (i + 1)) := (fun a b => hO.out.next a b : _ → _ → _)
      have RM := fun z (Sz : Since wo z) k (hk : k < i) => (show Rd shL z (some xa) t.ln xs from exa.out ▸ ((R.since G).since Sz).rd).lineX k (by omega)
      have hbad' := hbad
      clear hbad
      generalize connOk (lAt xs i).c (qAt pp i) = ok at hC hlo
      generalize qAt pp i = ps at hC hlo hbad' hnx Rp
      generalize lAt xs i = L at hL Rp hC hlo hbad' hnx
      go_upto_region 4 with (fail)
      refine vR ?_
      refine vV (.int .i64 (i : Int)) ?_
      refine vV (.pointer (some ⟨bT, 5, none⟩)) ?_
      refine vD (.slice (some xa) t.ln t.lc) ((A.cell 5).trans (by show some (.slice t.la t.ln t.lc : Value) = _; rw [exa.out])) ?_
      refine vV (.int .i64 (t.ln : Int)) ?_ (hrun := by simp [execOp, go_sem])
      refine vV (.bool true) ?_ (hrun := by simp [execOp, go_sem, hlt'])
      refine vE #[.agg (tbCells t),.pointer (some ⟨bT, 0, none⟩),u2,.int .i64 (i : Int),u4,u5,.pointer (some ⟨bT, 0, none⟩),.int .i64 t.po,.bool true,.bool false,.bool false,.pointer (some ⟨bT, 1, none⟩),.int .i64 t.rm,.bool true,.bool false,.bool false,.bool false,.pointer (some ⟨bT, 3, none⟩),.int .i64 t.ep,.bool true,.bool false,.bool false,.bool false,.pointer (some ⟨bT, 4, none⟩),.int .i64 t.nw,.bool true,.bool false,.bool false,.bool false,.pointer (some ⟨bT, 5, none⟩),.slice t.la t.ln t.lc,.int .i64 (t.ln : Int),.bool false,.bool false,.int .i64 (i : Int),.pointer (some ⟨bT, 5, none⟩),.slice (some xa) t.ln t.lc,.int .i64 (t.ln : Int),.bool true,u39,u40,u41,u42,u43,u44,u45,u46,u47,u48,u49,u50,u51,u52,u53,u54,u55,u56,u57,u58,u59,u60,u61,u62,u63,u64,u65,u66,u67,u68,u69,u70,u71,u72,u73,u74,u75,u76,u77,u78,u79,u80,u81,u82,u83,u84,u85,u86,u87,u88,u89,u90,u91,u92,u93,u94] ?_
      go_upto_region 6 with (fail)
      refine vR ?_
      refine vV (.pointer (some ⟨bT, 5, none⟩)) ?_
      refine vD (.slice (some xa) t.ln t.lc) ((A.cell 5).trans (by show some (.slice t.la t.ln t.lc : Value) = _; rw [exa.out])) ?_
      refine vV (.int .i64 (i : Int)) ?_
      refine vV (.pointer (some (xa.add (i * 41)))) ?_ (hrun := by simp [execOp, go_sem, hlt])
      refine vQ ln_big (ln_size _) hL ?_
      refine vW (wo.alloc (.cells (lnCells lnZero) 55)) (.pointer (some ⟨wo.heap.size, 0, none⟩)) ?_
      have qB5 := Blk.new wo (lnCells lnZero) 55
      have qg6 := (Since.refl wo).alloc (.cells (lnCells lnZero) 55)
      replace A := A.since qg6
      replace hF := hF.since qg6
      replace G := G.trans qg6
      generalize wo.alloc (.cells (lnCells lnZero) 55) = qw4 at A hF G qB5 qg6 ⊢
      have qB5_l := qB5.lt
      have qg6_s := qg6.size
      refine sB (lnCells L) ln_big qB5 (ln_size _) (ln_size _) (ln_one _) ?_
      intro qw7 qt8 qB9
      clear qB5
      replace A := A.touch qt8 (by omega)
      replace hF := hF.touch qt8 (by omega)
      replace G := since_touch G qt8 (by omega)
      have qt8_s := qt8.size
      refine vE #[.agg (tbCells t),.pointer (some ⟨bT, 0, none⟩),u2,.int .i64 (i : Int),.pointer (some ⟨wo.heap.size, 0, none⟩),u5,.pointer (some ⟨bT, 0, none⟩),.int .i64 t.po,.bool true,.bool false,.bool false,.pointer (some ⟨bT, 1, none⟩),.int .i64 t.rm,.bool true,.bool false,.bool false,.bool false,.pointer (some ⟨bT, 3, none⟩),.int .i64 t.ep,.bool true,.bool false,.bool false,.bool false,.pointer (some ⟨bT, 4, none⟩),.int .i64 t.nw,.bool true,.bool false,.bool false,.bool false,.pointer (some ⟨bT, 5, none⟩),.slice t.la t.ln t.lc,.int .i64 (t.ln : Int),.bool false,.bool false,.int .i64 (i : Int),.pointer (some ⟨bT, 5, none⟩),.slice (some xa) t.ln t.lc,.int .i64 (t.ln : Int),.bool true,u39,u40,.pointer (some ⟨bT, 5, none⟩),.slice (some xa) t.ln t.lc,.int .i64 (i : Int),.pointer (some (xa.add (i * 41))),.agg (lnCells L),u46,u47,u48,u49,u50,u51,u52,u53,u54,u55,u56,u57,u58,u59,u60,u61,u62,u63,u64,u65,u66,u67,u68,u69,u70,u71,u72,u73,u74,u75,u76,u77,u78,u79,u80,u81,u82,u83,u84,u85,u86,u87,u88,u89,u90,u91,u92,u93,u94] ?_
      go_upto_region 7 with (fail)
      by_cases d0 : ok = true
      case neg =>
        have hqf : q = false := by
          cases q
          · rfl
          · exact absurd (hlo.1 (hbad'.out rfl).1).1 d0
        subst hqf
        obtain rfl : ok = false := by simpa using d0
        clear hbad' hnx hq hlo
        refine vR ?_
        refine vV (.pointer (some ⟨wo.heap.size, 4, none⟩)) ?_
        refine vLc cn_big qB9 ?_
        refine vK (hC _ (Rp.since hF.out)) ?_
        intro qw10 qg11
        replace A := A.since qg11
        replace qB9 := qB9.since qg11
        replace hF := hF.since qg11
        replace G := G.trans qg11
        have qg11_s := qg11.size
        refine vV (.bool true) ?_
        refine vV (.bool true) ?_
        refine vS ?_
        refine vS ?_
        refine vS ?_
        refine vS ?_
        refine vV (.bool true) ?_
        refine vV (.bool true) ?_
        refine vS ?_
        refine vS ?_
        refine vS ?_
        refine vS ?_
        refine vS ?_
        refine vV (.bool true) ?_
        refine vV (.bool true) ?_
        refine vS ?_
        refine vS ?_
        refine vS ?_
        refine vS ?_
        refine vS ?_
        refine vV (.bool true) ?_
        refine vE #[.agg (tbCells t),.pointer (some ⟨bT, 0, none⟩),u2,.int .i64 (i : Int),.pointer (some ⟨wo.heap.size, 0, none⟩),u5,.pointer (some ⟨bT, 0, none⟩),.int .i64 t.po,.bool true,.bool false,.bool false,.pointer (some ⟨bT, 1, none⟩),.int .i64 t.rm,.bool true,.bool false,.bool false,.bool false,.pointer (some ⟨bT, 3, none⟩),.int .i64 t.ep,.bool true,.bool false,.bool false,.bool false,.pointer (some ⟨bT, 4, none⟩),.int .i64 t.nw,.bool true,.bool false,.bool false,.bool false,.pointer (some ⟨bT, 5, none⟩),.slice t.la t.ln t.lc,.int .i64 (t.ln : Int),.bool false,.bool false,.int .i64 (i : Int),.pointer (some ⟨bT, 5, none⟩),.slice (some xa) t.ln t.lc,.int .i64 (t.ln : Int),.bool true,u39,u40,.pointer (some ⟨bT, 5, none⟩),.slice (some xa) t.ln t.lc,.int .i64 (i : Int),.pointer (some (xa.add (i * 41))),.agg (lnCells L),.pointer (some ⟨wo.heap.size, 4, none⟩),.agg (cnCells L.c),.bool false,.bool true,.bool true,U,U,U,U,.bool true,.bool true,U,U,U,U,U,.bool true,.bool true,U,U,U,U,U,.bool true,u70,u71,u72,u73,u74,u75,u76,u77,u78,u79,u80,u81,u82,u83,u84,u85,u86,u87,u88,u89,u90,u91,u92,u93,u94] ?_
        go_upto_region 8 with (fail)
        refine vR ?_
        refine vV (.bool false) ?_
        refine vE #[.agg (tbCells t),.pointer (some ⟨bT, 0, none⟩),.bool false,.int .i64 (i : Int),.pointer (some ⟨wo.heap.size, 0, none⟩),u5,.pointer (some ⟨bT, 0, none⟩),.int .i64 t.po,.bool true,.bool false,.bool false,.pointer (some ⟨bT, 1, none⟩),.int .i64 t.rm,.bool true,.bool false,.bool false,.bool false,.pointer (some ⟨bT, 3, none⟩),.int .i64 t.ep,.bool true,.bool false,.bool false,.bool false,.pointer (some ⟨bT, 4, none⟩),.int .i64 t.nw,.bool true,.bool false,.bool false,.bool false,.pointer (some ⟨bT, 5, none⟩),.slice t.la t.ln t.lc,.int .i64 (t.ln : Int),.bool false,.bool false,.int .i64 (i : Int),.pointer (some ⟨bT, 5, none⟩),.slice (some xa) t.ln t.lc,.int .i64 (t.ln : Int),.bool true,u39,u40,.pointer (some ⟨bT, 5, none⟩),.slice (some xa) t.ln t.lc,.int .i64 (i : Int),.pointer (some (xa.add (i * 41))),.agg (lnCells L),.pointer (some ⟨wo.heap.size, 4, none⟩),.agg (cnCells L.c),.bool false,.bool true,.bool true,U,U,U,U,.bool true,.bool true,U,U,U,U,U,.bool true,.bool true,U,U,U,U,U,.bool true,u70,u71,u72,u73,u74,u75,u76,u77,u78,u79,u80,u81,u82,u83,u84,u85,u86,u87,u88,u89,u90,u91,u92,u93,u94] ?_
        go_wp2_with (fail)
        go_ret
        exact ⟨rfl, G⟩
      by_cases d1 : L.c.st ≠ 0
      case neg =>
        have hqf : q = false := by
          cases q
          · rfl
          · exact absurd (hlo.1 (hbad'.out rfl).1).2.1 d1
        subst hqf
        subst d0
        replace d1 : L.c.st = 0 := by omega
        clear hbad' hnx hq hlo
        refine vR ?_
        refine vV (.pointer (some ⟨wo.heap.size, 4, none⟩)) ?_
        refine vLc cn_big qB9 ?_
        refine vK (hC _ (Rp.since hF.out)) ?_
        intro qw10 qg11
        replace A := A.since qg11
        replace qB9 := qB9.since qg11
        replace hF := hF.since qg11
        replace G := G.trans qg11
        have qg11_s := qg11.size
        refine vV (.bool false) ?_
        refine vV (.bool false) ?_
        refine vV (.pointer (some ⟨wo.heap.size, 4, none⟩)) ?_
        refine vV (.pointer (some ⟨wo.heap.size, 4, none⟩)) ?_
        refine vD (.int .i64 L.c.st) (qB9.cell 4) ?_
        refine vV (.bool true) ?_ (hrun := by simp [execOp, go_sem, d1])
        refine vV (.bool true) ?_
        refine vV (.bool true) ?_
        refine vS ?_
        refine vS ?_
        refine vS ?_
        refine vS ?_
        refine vS ?_
        refine vV (.bool true) ?_
        refine vV (.bool true) ?_
        refine vS ?_
        refine vS ?_
        refine vS ?_
        refine vS ?_
        refine vS ?_
        refine vV (.bool true) ?_
        refine vE #[.agg (tbCells t),.pointer (some ⟨bT, 0, none⟩),u2,.int .i64 (i : Int),.pointer (some ⟨wo.heap.size, 0, none⟩),u5,.pointer (some ⟨bT, 0, none⟩),.int .i64 t.po,.bool true,.bool false,.bool false,.pointer (some ⟨bT, 1, none⟩),.int .i64 t.rm,.bool true,.bool false,.bool false,.bool false,.pointer (some ⟨bT, 3, none⟩),.int .i64 t.ep,.bool true,.bool false,.bool false,.bool false,.pointer (some ⟨bT, 4, none⟩),.int .i64 t.nw,.bool true,.bool false,.bool false,.bool false,.pointer (some ⟨bT, 5, none⟩),.slice t.la t.ln t.lc,.int .i64 (t.ln : Int),.bool false,.bool false,.int .i64 (i : Int),.pointer (some ⟨bT, 5, none⟩),.slice (some xa) t.ln t.lc,.int .i64 (t.ln : Int),.bool true,u39,u40,.pointer (some ⟨bT, 5, none⟩),.slice (some xa) t.ln t.lc,.int .i64 (i : Int),.pointer (some (xa.add (i * 41))),.agg (lnCells L),.pointer (some ⟨wo.heap.size, 4, none⟩),.agg (cnCells L.c),.bool true,.bool false,.bool false,.pointer (some ⟨wo.heap.size, 4, none⟩),.pointer (some ⟨wo.heap.size, 4, none⟩),.int .i64 L.c.st,.bool true,.bool true,.bool true,U,U,U,U,U,.bool true,.bool true,U,U,U,U,U,.bool true,u70,u71,u72,u73,u74,u75,u76,u77,u78,u79,u80,u81,u82,u83,u84,u85,u86,u87,u88,u89,u90,u91,u92,u93,u94] ?_
        go_upto_region 8 with (fail)
        refine vR ?_
        refine vV (.bool false) ?_
        refine vE #[.agg (tbCells t),.pointer (some ⟨bT, 0, none⟩),.bool false,.int .i64 (i : Int),.pointer (some ⟨wo.heap.size, 0, none⟩),u5,.pointer (some ⟨bT, 0, none⟩),.int .i64 t.po,.bool true,.bool false,.bool false,.pointer (some ⟨bT, 1, none⟩),.int .i64 t.rm,.bool true,.bool false,.bool false,.bool false,.pointer (some ⟨bT, 3, none⟩),.int .i64 t.ep,.bool true,.bool false,.bool false,.bool false,.pointer (some ⟨bT, 4, none⟩),.int .i64 t.nw,.bool true,.bool false,.bool false,.bool false,.pointer (some ⟨bT, 5, none⟩),.slice t.la t.ln t.lc,.int .i64 (t.ln : Int),.bool false,.bool false,.int .i64 (i : Int),.pointer (some ⟨bT, 5, none⟩),.slice (some xa) t.ln t.lc,.int .i64 (t.ln : Int),.bool true,u39,u40,.pointer (some ⟨bT, 5, none⟩),.slice (some xa) t.ln t.lc,.int .i64 (i : Int),.pointer (some (xa.add (i * 41))),.agg (lnCells L),.pointer (some ⟨wo.heap.size, 4, none⟩),.agg (cnCells L.c),.bool true,.bool false,.bool false,.pointer (some ⟨wo.heap.size, 4, none⟩),.pointer (some ⟨wo.heap.size, 4, none⟩),.int .i64 L.c.st,.bool true,.bool true,.bool true,U,U,U,U,U,.bool true,.bool true,U,U,U,U,U,.bool true,u70,u71,u72,u73,u74,u75,u76,u77,u78,u79,u80,u81,u82,u83,u84,u85,u86,u87,u88,u89,u90,u91,u92,u93,u94] ?_
        go_wp2_with (fail)
        go_ret
        exact ⟨rfl, G⟩
      by_cases d2 : 1 ≤ L.hP ∧ L.hP ≤ 65535
      case neg =>
        have hqf : q = false := by
          cases q
          · rfl
          · exact absurd (hlo.1 (hbad'.out rfl).1).2.2.1 d2
        subst hqf
        subst d0
        clear hbad' hnx hq hlo
        refine vR ?_
        refine vV (.pointer (some ⟨wo.heap.size, 4, none⟩)) ?_
        refine vLc cn_big qB9 ?_
        refine vK (hC _ (Rp.since hF.out)) ?_
        intro qw10 qg11
        replace A := A.since qg11
        replace qB9 := qB9.since qg11
        replace hF := hF.since qg11
        replace G := G.trans qg11
        have qg11_s := qg11.size
        refine vV (.bool false) ?_
        refine vV (.bool false) ?_
        refine vV (.pointer (some ⟨wo.heap.size, 4, none⟩)) ?_
        refine vV (.pointer (some ⟨wo.heap.size, 4, none⟩)) ?_
        refine vD (.int .i64 L.c.st) (qB9.cell 4) ?_
        refine vV (.bool false) ?_ (hrun := by simp [execOp, go_sem, d1])
        refine vV (.bool false) ?_
        refine vV (.bool false) ?_
        refine vV (.pointer (some ⟨wo.heap.size, 0, none⟩)) ?_
        refine vV (.pointer (some ⟨wo.heap.size, 1, none⟩)) ?_
        refine vD (.int .i64 L.hP) (qB9.cell 1) ?_
        refine vC (specPortB L.hP false (decide_eq_false d2) _) ?_
        rintro _ _ ⟨rfl, rfl⟩
        refine ⟨_, rfl, ?_⟩
        refine vV (.bool true) ?_
        refine vV (.bool true) ?_
        refine vV (.bool true) ?_
        refine vS ?_
        refine vS ?_
        refine vS ?_
        refine vS ?_
        refine vS ?_
        refine vV (.bool true) ?_
        refine vE #[.agg (tbCells t),.pointer (some ⟨bT, 0, none⟩),u2,.int .i64 (i : Int),.pointer (some ⟨wo.heap.size, 0, none⟩),u5,.pointer (some ⟨bT, 0, none⟩),.int .i64 t.po,.bool true,.bool false,.bool false,.pointer (some ⟨bT, 1, none⟩),.int .i64 t.rm,.bool true,.bool false,.bool false,.bool false,.pointer (some ⟨bT, 3, none⟩),.int .i64 t.ep,.bool true,.bool false,.bool false,.bool false,.pointer (some ⟨bT, 4, none⟩),.int .i64 t.nw,.bool true,.bool false,.bool false,.bool false,.pointer (some ⟨bT, 5, none⟩),.slice t.la t.ln t.lc,.int .i64 (t.ln : Int),.bool false,.bool false,.int .i64 (i : Int),.pointer (some ⟨bT, 5, none⟩),.slice (some xa) t.ln t.lc,.int .i64 (t.ln : Int),.bool true,u39,u40,.pointer (some ⟨bT, 5, none⟩),.slice (some xa) t.ln t.lc,.int .i64 (i : Int),.pointer (some (xa.add (i * 41))),.agg (lnCells L),.pointer (some ⟨wo.heap.size, 4, none⟩),.agg (cnCells L.c),.bool true,.bool false,.bool false,.pointer (some ⟨wo.heap.size, 4, none⟩),.pointer (some ⟨wo.heap.size, 4, none⟩),.int .i64 L.c.st,.bool false,.bool false,.bool false,.pointer (some ⟨wo.heap.size, 0, none⟩),.pointer (some ⟨wo.heap.size, 1, none⟩),.int .i64 L.hP,.bool false,.bool true,.bool true,.bool true,U,U,U,U,U,.bool true,u70,u71,u72,u73,u74,u75,u76,u77,u78,u79,u80,u81,u82,u83,u84,u85,u86,u87,u88,u89,u90,u91,u92,u93,u94] ?_
        go_upto_region 8 with (fail)
        refine vR ?_
        refine vV (.bool false) ?_
        refine vE #[.agg (tbCells t),.pointer (some ⟨bT, 0, none⟩),.bool false,.int .i64 (i : Int),.pointer (some ⟨wo.heap.size, 0, none⟩),u5,.pointer (some ⟨bT, 0, none⟩),.int .i64 t.po,.bool true,.bool false,.bool false,.pointer (some ⟨bT, 1, none⟩),.int .i64 t.rm,.bool true,.bool false,.bool false,.bool false,.pointer (some ⟨bT, 3, none⟩),.int .i64 t.ep,.bool true,.bool false,.bool false,.bool false,.pointer (some ⟨bT, 4, none⟩),.int .i64 t.nw,.bool true,.bool false,.bool false,.bool false,.pointer (some ⟨bT, 5, none⟩),.slice t.la t.ln t.lc,.int .i64 (t.ln : Int),.bool false,.bool false,.int .i64 (i : Int),.pointer (some ⟨bT, 5, none⟩),.slice (some xa) t.ln t.lc,.int .i64 (t.ln : Int),.bool true,u39,u40,.pointer (some ⟨bT, 5, none⟩),.slice (some xa) t.ln t.lc,.int .i64 (i : Int),.pointer (some (xa.add (i * 41))),.agg (lnCells L),.pointer (some ⟨wo.heap.size, 4, none⟩),.agg (cnCells L.c),.bool true,.bool false,.bool false,.pointer (some ⟨wo.heap.size, 4, none⟩),.pointer (some ⟨wo.heap.size, 4, none⟩),.int .i64 L.c.st,.bool false,.bool false,.bool false,.pointer (some ⟨wo.heap.size, 0, none⟩),.pointer (some ⟨wo.heap.size, 1, none⟩),.int .i64 L.hP,.bool false,.bool true,.bool true,.bool true,U,U,U,U,U,.bool true,u70,u71,u72,u73,u74,u75,u76,u77,u78,u79,u80,u81,u82,u83,u84,u85,u86,u87,u88,u89,u90,u91,u92,u93,u94] ?_
        go_wp2_with (fail)
        go_ret
        exact ⟨rfl, G⟩
      by_cases d3 : 1 ≤ L.tP ∧ L.tP ≤ 65535
      case neg =>
        have hqf : q = false := by
          cases q
          · rfl
          · exact absurd (hlo.1 (hbad'.out rfl).1).2.2.2 d3
        subst hqf
        subst d0
        clear hbad' hnx hq hlo
        refine vR ?_
        refine vV (.pointer (some ⟨wo.heap.size, 4, none⟩)) ?_
        refine vLc cn_big qB9 ?_
        refine vK (hC _ (Rp.since hF.out)) ?_
        intro qw10 qg11
        replace A := A.since qg11
        replace qB9 := qB9.since qg11
        replace hF := hF.since qg11
        replace G := G.trans qg11
        have qg11_s := qg11.size
        refine vV (.bool false) ?_
        refine vV (.bool false) ?_
        refine vV (.pointer (some ⟨wo.heap.size, 4, none⟩)) ?_
        refine vV (.pointer (some ⟨wo.heap.size, 4, none⟩)) ?_
        refine vD (.int .i64 L.c.st) (qB9.cell 4) ?_
        refine vV (.bool false) ?_ (hrun := by simp [execOp, go_sem, d1])
        refine vV (.bool false) ?_
        refine vV (.bool false) ?_
        refine vV (.pointer (some ⟨wo.heap.size, 0, none⟩)) ?_
        refine vV (.pointer (some ⟨wo.heap.size, 1, none⟩)) ?_
        refine vD (.int .i64 L.hP) (qB9.cell 1) ?_
        refine vC (specPortB L.hP true (decide_eq_true d2) _) ?_
        rintro _ _ ⟨rfl, rfl⟩
        refine ⟨_, rfl, ?_⟩
        refine vV (.bool false) ?_
        refine vV (.bool false) ?_
        refine vV (.bool false) ?_
        refine vV (.pointer (some ⟨wo.heap.size, 2, none⟩)) ?_
        refine vV (.pointer (some ⟨wo.heap.size, 3, none⟩)) ?_
        refine vD (.int .i64 L.tP) (qB9.cell 3) ?_
        refine vC (specPortB L.tP false (decide_eq_false d3) _) ?_
        rintro _ _ ⟨rfl, rfl⟩
        refine ⟨_, rfl, ?_⟩
        refine vV (.bool true) ?_
        refine vV (.bool true) ?_
        refine vE #[.agg (tbCells t),.pointer (some ⟨bT, 0, none⟩),u2,.int .i64 (i : Int),.pointer (some ⟨wo.heap.size, 0, none⟩),u5,.pointer (some ⟨bT, 0, none⟩),.int .i64 t.po,.bool true,.bool false,.bool false,.pointer (some ⟨bT, 1, none⟩),.int .i64 t.rm,.bool true,.bool false,.bool false,.bool false,.pointer (some ⟨bT, 3, none⟩),.int .i64 t.ep,.bool true,.bool false,.bool false,.bool false,.pointer (some ⟨bT, 4, none⟩),.int .i64 t.nw,.bool true,.bool false,.bool false,.bool false,.pointer (some ⟨bT, 5, none⟩),.slice t.la t.ln t.lc,.int .i64 (t.ln : Int),.bool false,.bool false,.int .i64 (i : Int),.pointer (some ⟨bT, 5, none⟩),.slice (some xa) t.ln t.lc,.int .i64 (t.ln : Int),.bool true,u39,u40,.pointer (some ⟨bT, 5, none⟩),.slice (some xa) t.ln t.lc,.int .i64 (i : Int),.pointer (some (xa.add (i * 41))),.agg (lnCells L),.pointer (some ⟨wo.heap.size, 4, none⟩),.agg (cnCells L.c),.bool true,.bool false,.bool false,.pointer (some ⟨wo.heap.size, 4, none⟩),.pointer (some ⟨wo.heap.size, 4, none⟩),.int .i64 L.c.st,.bool false,.bool false,.bool false,.pointer (some ⟨wo.heap.size, 0, none⟩),.pointer (some ⟨wo.heap.size, 1, none⟩),.int .i64 L.hP,.bool true,.bool false,.bool false,.bool false,.pointer (some ⟨wo.heap.size, 2, none⟩),.pointer (some ⟨wo.heap.size, 3, none⟩),.int .i64 L.tP,.bool false,.bool true,.bool true,u70,u71,u72,u73,u74,u75,u76,u77,u78,u79,u80,u81,u82,u83,u84,u85,u86,u87,u88,u89,u90,u91,u92,u93,u94] ?_
        go_upto_region 8 with (fail)
        refine vR ?_
        refine vV (.bool false) ?_
        refine vE #[.agg (tbCells t),.pointer (some ⟨bT, 0, none⟩),.bool false,.int .i64 (i : Int),.pointer (some ⟨wo.heap.size, 0, none⟩),u5,.pointer (some ⟨bT, 0, none⟩),.int .i64 t.po,.bool true,.bool false,.bool false,.pointer (some ⟨bT, 1, none⟩),.int .i64 t.rm,.bool true,.bool false,.bool false,.bool false,.pointer (some ⟨bT, 3, none⟩),.int .i64 t.ep,.bool true,.bool false,.bool false,.bool false,.pointer (some ⟨bT, 4, none⟩),.int .i64 t.nw,.bool true,.bool false,.bool false,.bool false,.pointer (some ⟨bT, 5, none⟩),.slice t.la t.ln t.lc,.int .i64 (t.ln : Int),.bool false,.bool false,.int .i64 (i : Int),.pointer (some ⟨bT, 5, none⟩),.slice (some xa) t.ln t.lc,.int .i64 (t.ln : Int),.bool true,u39,u40,.pointer (some ⟨bT, 5, none⟩),.slice (some xa) t.ln t.lc,.int .i64 (i : Int),.pointer (some (xa.add (i * 41))),.agg (lnCells L),.pointer (some ⟨wo.heap.size, 4, none⟩),.agg (cnCells L.c),.bool true,.bool false,.bool false,.pointer (some ⟨wo.heap.size, 4, none⟩),.pointer (some ⟨wo.heap.size, 4, none⟩),.int .i64 L.c.st,.bool false,.bool false,.bool false,.pointer (some ⟨wo.heap.size, 0, none⟩),.pointer (some ⟨wo.heap.size, 1, none⟩),.int .i64 L.hP,.bool true,.bool false,.bool false,.bool false,.pointer (some ⟨wo.heap.size, 2, none⟩),.pointer (some ⟨wo.heap.size, 3, none⟩),.int .i64 L.tP,.bool false,.bool true,.bool true,u70,u71,u72,u73,u74,u75,u76,u77,u78,u79,u80,u81,u82,u83,u84,u85,u86,u87,u88,u89,u90,u91,u92,u93,u94] ?_
        go_wp2_with (fail)
        go_ret
        exact ⟨rfl, G⟩
      have hlK : LineOk L ps := hlo.2 ⟨d0, d1, d2, d3⟩
      subst d0
      refine vR ?_
      refine vV (.pointer (some ⟨wo.heap.size, 4, none⟩)) ?_
      refine vLc cn_big qB9 ?_
      refine vK (hC _ (Rp.since hF.out)) ?_
      intro qw10 qg11
      replace A := A.since qg11
      replace qB9 := qB9.since qg11
      replace hF := hF.since qg11
      replace G := G.trans qg11
      have qg11_s := qg11.size
      refine vV (.bool false) ?_
      refine vV (.bool false) ?_
      refine vV (.pointer (some ⟨wo.heap.size, 4, none⟩)) ?_
      refine vV (.pointer (some ⟨wo.heap.size, 4, none⟩)) ?_
      refine vD (.int .i64 L.c.st) (qB9.cell 4) ?_
      refine vV (.bool false) ?_ (hrun := by simp [execOp, go_sem, d1])
      refine vV (.bool false) ?_
      refine vV (.bool false) ?_
      refine vV (.pointer (some ⟨wo.heap.size, 0, none⟩)) ?_
      refine vV (.pointer (some ⟨wo.heap.size, 1, none⟩)) ?_
      refine vD (.int .i64 L.hP) (qB9.cell 1) ?_
      refine vC (specPortB L.hP true (decide_eq_true d2) _) ?_
      rintro _ _ ⟨rfl, rfl⟩
      refine ⟨_, rfl, ?_⟩
      refine vV (.bool false) ?_
      refine vV (.bool false) ?_
      refine vV (.bool false) ?_
      refine vV (.pointer (some ⟨wo.heap.size, 2, none⟩)) ?_
      refine vV (.pointer (some ⟨wo.heap.size, 3, none⟩)) ?_
      refine vD (.int .i64 L.tP) (qB9.cell 3) ?_
      refine vC (specPortB L.tP true (decide_eq_true d3) _) ?_
      rintro _ _ ⟨rfl, rfl⟩
      refine ⟨_, rfl, ?_⟩
      refine vV (.bool false) ?_
      refine vV (.bool false) ?_
      refine vE #[.agg (tbCells t),.pointer (some ⟨bT, 0, none⟩),u2,.int .i64 (i : Int),.pointer (some ⟨wo.heap.size, 0, none⟩),u5,.pointer (some ⟨bT, 0, none⟩),.int .i64 t.po,.bool true,.bool false,.bool false,.pointer (some ⟨bT, 1, none⟩),.int .i64 t.rm,.bool true,.bool false,.bool false,.bool false,.pointer (some ⟨bT, 3, none⟩),.int .i64 t.ep,.bool true,.bool false,.bool false,.bool false,.pointer (some ⟨bT, 4, none⟩),.int .i64 t.nw,.bool true,.bool false,.bool false,.bool false,.pointer (some ⟨bT, 5, none⟩),.slice t.la t.ln t.lc,.int .i64 (t.ln : Int),.bool false,.bool false,.int .i64 (i : Int),.pointer (some ⟨bT, 5, none⟩),.slice (some xa) t.ln t.lc,.int .i64 (t.ln : Int),.bool true,u39,u40,.pointer (some ⟨bT, 5, none⟩),.slice (some xa) t.ln t.lc,.int .i64 (i : Int),.pointer (some (xa.add (i * 41))),.agg (lnCells L),.pointer (some ⟨wo.heap.size, 4, none⟩),.agg (cnCells L.c),.bool true,.bool false,.bool false,.pointer (some ⟨wo.heap.size, 4, none⟩),.pointer (some ⟨wo.heap.size, 4, none⟩),.int .i64 L.c.st,.bool false,.bool false,.bool false,.pointer (some ⟨wo.heap.size, 0, none⟩),.pointer (some ⟨wo.heap.size, 1, none⟩),.int .i64 L.hP,.bool true,.bool false,.bool false,.bool false,.pointer (some ⟨wo.heap.size, 2, none⟩),.pointer (some ⟨wo.heap.size, 3, none⟩),.int .i64 L.tP,.bool true,.bool false,.bool false,u70,u71,u72,u73,u74,u75,u76,u77,u78,u79,u80,u81,u82,u83,u84,u85,u86,u87,u88,u89,u90,u91,u92,u93,u94] ?_
      go_upto_region 9 with (fail)
      refine vR ?_
      refine vV (.int .i64 0) ?_
      refine vE #[.agg (tbCells t),.pointer (some ⟨bT, 0, none⟩),u2,.int .i64 (i : Int),.pointer (some ⟨wo.heap.size, 0, none⟩),.int .i64 0,.pointer (some ⟨bT, 0, none⟩),.int .i64 t.po,.bool true,.bool false,.bool false,.pointer (some ⟨bT, 1, none⟩),.int .i64 t.rm,.bool true,.bool false,.bool false,.bool false,.pointer (some ⟨bT, 3, none⟩),.int .i64 t.ep,.bool true,.bool false,.bool false,.bool false,.pointer (some ⟨bT, 4, none⟩),.int .i64 t.nw,.bool true,.bool false,.bool false,.bool false,.pointer (some ⟨bT, 5, none⟩),.slice t.la t.ln t.lc,.int .i64 (t.ln : Int),.bool false,.bool false,.int .i64 (i : Int),.pointer (some ⟨bT, 5, none⟩),.slice (some xa) t.ln t.lc,.int .i64 (t.ln : Int),.bool true,u39,u40,.pointer (some ⟨bT, 5, none⟩),.slice (some xa) t.ln t.lc,.int .i64 (i : Int),.pointer (some (xa.add (i * 41))),.agg (lnCells L),.pointer (some ⟨wo.heap.size, 4, none⟩),.agg (cnCells L.c),.bool true,.bool false,.bool false,.pointer (some ⟨wo.heap.size, 4, none⟩),.pointer (some ⟨wo.heap.size, 4, none⟩),.int .i64 L.c.st,.bool false,.bool false,.bool false,.pointer (some ⟨wo.heap.size, 0, none⟩),.pointer (some ⟨wo.heap.size, 1, none⟩),.int .i64 L.hP,.bool true,.bool false,.bool false,.bool false,.pointer (some ⟨wo.heap.size, 2, none⟩),.pointer (some ⟨wo.heap.size, 3, none⟩),.int .i64 L.tP,.bool true,.bool false,.bool false,u70,u71,u72,u73,u74,u75,u76,u77,u78,u79,u80,u81,u82,u83,u84,u85,u86,u87,u88,u89,u90,u91,u92,u93,u94] ?_
      go_wp2_with (fail)
      have hL_l := qB9.lt
      obtain ⟨bL, hbL⟩ : ∃ b, b = wo.heap.size := ⟨_, rfl⟩
      rw [← hbL] at qB9 ⊢
      have HL := qB9
      clear qB9
      have hb_1 : bT < bL := by omega
      have hb_3 : wo.heap.size ≤ bL := by omega
      have hb_4 : bL < qw10.heap.size := by omega
      clear hbL
      have hSw := hF.out
      clear hF
      go_loopw [5] (fun kv wq => ∃ (k : Nat), kv = .int .i64 (k : Int) ∧ k ≤ i ∧ Blk bT wq (tbCells t) ∧ Blk bL wq (lnCells L) ∧ Since wo wq ∧ Since w wq ∧ bL < wq.heap.size ∧ Hid (∀ m, m < k → ¬ SameAd (lAt xs m) L)) (fun kv _ => i - (intOf kv).toNat)
      case atStart => exact ⟨0, rfl, by omega, A, HL, hSw, G, by omega, (fun m hm => absurd hm (Nat.not_lt_zero m) : ∀ m, m < 0 → ¬ SameAd (lAt xs m) L)⟩
      case round =>
        clear G HL A hSw
        obtain ⟨k, rfl, hk, A, C, S, G, hbl2, hD⟩ := hrel
        by_cases hkt : k < i
        case pos =>
          have hkt' : (k : Int) < (i : Int) := by omega
          have hkn : k < t.ln := by omega
          have hM := fun z (Sz : Since wr z) => RM z (S.trans Sz) k hkt
          have hsm : SameAd (lAt xs k) L ↔ ((lAt xs k).hH = L.hH ∧ (lAt xs k).hP = L.hP) ∧ ((lAt xs k).tH = L.tH ∧ (lAt xs k).tP = L.tP) := Iff.rfl
          have hbd2 : Hid (q = true → ¬ SameAd (lAt xs k) L) := (fun e => (hbad'.out e).2 k hkt : q = true → _)
          have hD2 : Hid (¬ SameAd (lAt xs k) L → ∀ m, m < k + 1 → ¬ SameAd (lAt xs m) L) := (fun h m hm => by
            by_cases e : m = k
            · subst e; exact h
            · exact hD.out m (by omega) : _ → _)
          generalize lAt xs k = M at hM hsm hbd2 hD2
          clear hD
          go_upto_region 10 with (fail)
          refine vR ?_
          refine vV (.int .i64 (k : Int)) ?_
          refine vV (.int .i64 (i : Int)) ?_
          refine vV (.bool true) ?_ (hrun := by simp [execOp, go_sem, hkt'])
          refine vE #[.agg (tbCells t),.pointer (some ⟨bT, 0, none⟩),u2,.int .i64 (i : Int),.pointer (some ⟨bL, 0, none⟩),.int .i64 (k : Int),.pointer (some ⟨bT, 0, none⟩),.int .i64 t.po,.bool true,.bool false,.bool false,.pointer (some ⟨bT, 1, none⟩),.int .i64 t.rm,.bool true,.bool false,.bool false,.bool false,.pointer (some ⟨bT, 3, none⟩),.int .i64 t.ep,.bool true,.bool false,.bool false,.bool false,.pointer (some ⟨bT, 4, none⟩),.int .i64 t.nw,.bool true,.bool false,.bool false,.bool false,.pointer (some ⟨bT, 5, none⟩),.slice t.la t.ln t.lc,.int .i64 (t.ln : Int),.bool false,.bool false,.int .i64 (i : Int),.pointer (some ⟨bT, 5, none⟩),.slice (some xa) t.ln t.lc,.int .i64 (t.ln : Int),.bool true,u39,u40,.pointer (some ⟨bT, 5, none⟩),.slice (some xa) t.ln t.lc,.int .i64 (i : Int),.pointer (some (xa.add (i * 41))),.agg (lnCells L),.pointer (some ⟨bL, 4, none⟩),.agg (cnCells L.c),.bool true,.bool false,.bool false,.pointer (some ⟨bL, 4, none⟩),.pointer (some ⟨bL, 4, none⟩),.int .i64 L.c.st,.bool false,.bool false,.bool false,.pointer (some ⟨bL, 0, none⟩),.pointer (some ⟨bL, 1, none⟩),.int .i64 L.hP,.bool true,.bool false,.bool false,.bool false,.pointer (some ⟨bL, 2, none⟩),.pointer (some ⟨bL, 3, none⟩),.int .i64 L.tP,.bool true,.bool false,.bool false,.int .i64 (k : Int),.int .i64 (i : Int),.bool true,u73,u74,u75,u76,u77,u78,u79,u80,u81,u82,u83,u84,u85,u86,u87,u88,u89,u90,u91,u92,u93,u94] ?_
          go_upto_region 12 with (fail)
          by_cases e1 : M.hH = L.hH ∧ M.hP = L.hP
          case pos =>
            by_cases e2 : M.tH = L.tH ∧ M.tP = L.tP
            case pos =>
              have hqf : q = false := by
                cases q
                · rfl
                · exact absurd (hsm.2 ⟨e1, e2⟩) (hbd2.out rfl)
              subst hqf
              clear hbd2 hD2 hbad' hnx hq hsm hlo
              obtain ⟨h1, h2⟩ := e1
              obtain ⟨h3, h4⟩ := e2
              refine wp_region_qs (wb := wr) (by kernel_rfl) (by kernel_rfl) (Since.refl _) ?_
              refine q_val (by kernel_rfl) (.pointer (some ⟨bT, 5, none⟩)) (fun x hx => by kernel_rfl) ?_
              refine q_cell (by kernel_rfl) _ _ rfl ⟨bT, 5, none⟩ (by kernel_rfl) (.slice (some xa) t.ln t.lc) (fun y hy => ((A.since hy).cell 5).trans (by show some (.slice t.la t.ln t.lc : Value) = _; rw [exa.out])) (fun y => by kernel_rfl) ?_
              refine q_val (by kernel_rfl) (.int .i64 (k : Int)) (fun x hx => by kernel_rfl) ?_
              refine q_val (by kernel_rfl) (.pointer (some (xa.add (k * 41)))) (fun x hx => by simp [execOp, go_sem, hkn]) ?_
              refine q_val (by kernel_rfl) (.pointer (some ((xa.add (k * 41)).add 0))) (fun x hx => by kernel_rfl) ?_
              refine q_Q (by kernel_rfl) ad_big (cs := #[.int .u32 M.hH, .int .i64 M.hP]) rfl _ rfl (by kernel_rfl) (fun y hy => line_here (hM y hy)) ?_
              refine q_val (by kernel_rfl) (.pointer (some ⟨bL, 0, none⟩)) (fun x hx => by kernel_rfl) ?_
              refine q_part C (by kernel_rfl) ad_big _ rfl 0 (by kernel_rfl) [.int .u32 L.hH, .int .i64 L.hP] rfl (fun j v hj => by match j, hj with | 0, h => exact h | 1, h => exact h | n + 2, h => exact absurd h (by simp)) ?_
              refine q_val (by kernel_rfl) (.bool true) (fun x hx => by simp [execOp, go_sem, h1, h2]) ?_
              refine q_val (by kernel_rfl) (.bool true) (fun x hx => by kernel_rfl) ?_
              refine q_val (by kernel_rfl) (.pointer (some ⟨bT, 5, none⟩)) (fun x hx => by kernel_rfl) ?_
              refine q_cell (by kernel_rfl) _ _ rfl ⟨bT, 5, none⟩ (by kernel_rfl) (.slice (some xa) t.ln t.lc) (fun y hy => ((A.since hy).cell 5).trans (by show some (.slice t.la t.ln t.lc : Value) = _; rw [exa.out])) (fun y => by kernel_rfl) ?_
              refine q_val (by kernel_rfl) (.int .i64 (k : Int)) (fun x hx => by kernel_rfl) ?_
              refine q_val (by kernel_rfl) (.pointer (some (xa.add (k * 41)))) (fun x hx => by simp [execOp, go_sem, hkn]) ?_
              refine q_val (by kernel_rfl) (.pointer (some ((xa.add (k * 41)).add 2))) (fun x hx => by kernel_rfl) ?_
              refine q_Q (by kernel_rfl) ad_big (cs := #[.int .u32 M.tH, .int .i64 M.tP]) rfl _ rfl (by kernel_rfl) (fun y hy => line_there (hM y hy)) ?_
              refine q_val (by kernel_rfl) (.pointer (some ⟨bL, 2, none⟩)) (fun x hx => by kernel_rfl) ?_
              refine q_part C (by kernel_rfl) ad_big _ rfl 2 (by kernel_rfl) [.int .u32 L.tH, .int .i64 L.tP] rfl (fun j v hj => by match j, hj with | 0, h => exact h | 1, h => exact h | n + 2, h => exact absurd h (by simp)) ?_
              refine q_val (by kernel_rfl) (.bool true) (fun x hx => by simp [execOp, go_sem, h3, h4]) ?_
              refine q_val (by kernel_rfl) (.bool true) (fun x hx => by kernel_rfl) ?_
              refine q_frame (a' := { tmps := #[.agg (tbCells t),.pointer (some ⟨bT, 0, none⟩),u2,.int .i64 (i : Int),.pointer (some ⟨bL, 0, none⟩),.int .i64 (k : Int),.pointer (some ⟨bT, 0, none⟩),.int .i64 t.po,.bool true,.bool false,.bool false,.pointer (some ⟨bT, 1, none⟩),.int .i64 t.rm,.bool true,.bool false,.bool false,.bool false,.pointer (some ⟨bT, 3, none⟩),.int .i64 t.ep,.bool true,.bool false,.bool false,.bool false,.pointer (some ⟨bT, 4, none⟩),.int .i64 t.nw,.bool true,.bool false,.bool false,.bool false,.pointer (some ⟨bT, 5, none⟩),.slice t.la t.ln t.lc,.int .i64 (t.ln : Int),.bool false,.bool false,.int .i64 (i : Int),.pointer (some ⟨bT, 5, none⟩),.slice (some xa) t.ln t.lc,.int .i64 (t.ln : Int),.bool true,u39,u40,.pointer (some ⟨bT, 5, none⟩),.slice (some xa) t.ln t.lc,.int .i64 (i : Int),.pointer (some (xa.add (i * 41))),.agg (lnCells L),.pointer (some ⟨bL, 4, none⟩),.agg (cnCells L.c),.bool true,.bool false,.bool false,.pointer (some ⟨bL, 4, none⟩),.pointer (some ⟨bL, 4, none⟩),.int .i64 L.c.st,.bool false,.bool false,.bool false,.pointer (some ⟨bL, 0, none⟩),.pointer (some ⟨bL, 1, none⟩),.int .i64 L.hP,.bool true,.bool false,.bool false,.bool false,.pointer (some ⟨bL, 2, none⟩),.pointer (some ⟨bL, 3, none⟩),.int .i64 L.tP,.bool true,.bool false,.bool false,.int .i64 (k : Int),.int .i64 (i : Int),.bool true,u73,u74,.pointer (some ⟨bT, 5, none⟩),.slice (some xa) t.ln t.lc,.int .i64 (k : Int),.pointer (some (xa.add (k * 41))),.pointer (some ((xa.add (k * 41)).add 0)),.agg #[.int .u32 M.hH, .int .i64 M.hP],.pointer (some ⟨bL, 0, none⟩),.agg #[.int .u32 L.hH, .int .i64 L.hP],.bool true,.bool true,.pointer (some ⟨bT, 5, none⟩),.slice (some xa) t.ln t.lc,.int .i64 (k : Int),.pointer (some (xa.add (k * 41))),.pointer (some ((xa.add (k * 41)).add 2)),.agg #[.int .u32 M.tH, .int .i64 M.tP],.pointer (some ⟨bL, 2, none⟩),.agg #[.int .u32 L.tH, .int .i64 L.tP],.bool true,.bool true], defers := [] }) (by kernel_rfl) ?_
              refine q_nil ?_
              intro qw12 qh13
              replace A := A.since qh13
              replace C := C.since qh13
              replace G := G.trans qh13
              have qh13_s := qh13.size
              go_upto_region 13 with (fail)
              refine vR ?_
              refine vV (.bool false) ?_
              refine vE #[.agg (tbCells t),.pointer (some ⟨bT, 0, none⟩),.bool false,.int .i64 (i : Int),.pointer (some ⟨bL, 0, none⟩),.int .i64 (k : Int),.pointer (some ⟨bT, 0, none⟩),.int .i64 t.po,.bool true,.bool false,.bool false,.pointer (some ⟨bT, 1, none⟩),.int .i64 t.rm,.bool true,.bool false,.bool false,.bool false,.pointer (some ⟨bT, 3, none⟩),.int .i64 t.ep,.bool true,.bool false,.bool false,.bool false,.pointer (some ⟨bT, 4, none⟩),.int .i64 t.nw,.bool true,.bool false,.bool false,.bool false,.pointer (some ⟨bT, 5, none⟩),.slice t.la t.ln t.lc,.int .i64 (t.ln : Int),.bool false,.bool false,.int .i64 (i : Int),.pointer (some ⟨bT, 5, none⟩),.slice (some xa) t.ln t.lc,.int .i64 (t.ln : Int),.bool true,u39,u40,.pointer (some ⟨bT, 5, none⟩),.slice (some xa) t.ln t.lc,.int .i64 (i : Int),.pointer (some (xa.add (i * 41))),.agg (lnCells L),.pointer (some ⟨bL, 4, none⟩),.agg (cnCells L.c),.bool true,.bool false,.bool false,.pointer (some ⟨bL, 4, none⟩),.pointer (some ⟨bL, 4, none⟩),.int .i64 L.c.st,.bool false,.bool false,.bool false,.pointer (some ⟨bL, 0, none⟩),.pointer (some ⟨bL, 1, none⟩),.int .i64 L.hP,.bool true,.bool false,.bool false,.bool false,.pointer (some ⟨bL, 2, none⟩),.pointer (some ⟨bL, 3, none⟩),.int .i64 L.tP,.bool true,.bool false,.bool false,.int .i64 (k : Int),.int .i64 (i : Int),.bool true,u73,u74,.pointer (some ⟨bT, 5, none⟩),.slice (some xa) t.ln t.lc,.int .i64 (k : Int),.pointer (some (xa.add (k * 41))),.pointer (some ((xa.add (k * 41)).add 0)),.agg #[.int .u32 M.hH, .int .i64 M.hP],.pointer (some ⟨bL, 0, none⟩),.agg #[.int .u32 L.hH, .int .i64 L.hP],.bool true,.bool true,.pointer (some ⟨bT, 5, none⟩),.slice (some xa) t.ln t.lc,.int .i64 (k : Int),.pointer (some (xa.add (k * 41))),.pointer (some ((xa.add (k * 41)).add 2)),.agg #[.int .u32 M.tH, .int .i64 M.tP],.pointer (some ⟨bL, 2, none⟩),.agg #[.int .u32 L.tH, .int .i64 L.tP],.bool true,.bool true] ?_
              go_wp2_with (fail)
              go_ret
              exact ⟨rfl, G⟩
            case neg =>
              have hns : ¬ SameAd M L := fun h => e2 (hsm.1 h).2
              have hD3 : Hid (∀ m, m < k + 1 → ¬ SameAd (lAt xs m) L) := hD2.out hns
              clear hbd2 hD2
              obtain ⟨h1, h2⟩ := e1
              clear hsm
              have e2' : M.tH = L.tH → ¬ M.tP = L.tP := fun a b => e2 ⟨a, b⟩
              refine wp_region_qs (wb := wr) (by kernel_rfl) (by kernel_rfl) (Since.refl _) ?_
              refine q_val (by kernel_rfl) (.pointer (some ⟨bT, 5, none⟩)) (fun x hx => by kernel_rfl) ?_
              refine q_cell (by kernel_rfl) _ _ rfl ⟨bT, 5, none⟩ (by kernel_rfl) (.slice (some xa) t.ln t.lc) (fun y hy => ((A.since hy).cell 5).trans (by show some (.slice t.la t.ln t.lc : Value) = _; rw [exa.out])) (fun y => by kernel_rfl) ?_
              refine q_val (by kernel_rfl) (.int .i64 (k : Int)) (fun x hx => by kernel_rfl) ?_
              refine q_val (by kernel_rfl) (.pointer (some (xa.add (k * 41)))) (fun x hx => by simp [execOp, go_sem, hkn]) ?_
              refine q_val (by kernel_rfl) (.pointer (some ((xa.add (k * 41)).add 0))) (fun x hx => by kernel_rfl) ?_
              refine q_Q (by kernel_rfl) ad_big (cs := #[.int .u32 M.hH, .int .i64 M.hP]) rfl _ rfl (by kernel_rfl) (fun y hy => line_here (hM y hy)) ?_
              refine q_val (by kernel_rfl) (.pointer (some ⟨bL, 0, none⟩)) (fun x hx => by kernel_rfl) ?_
              refine q_part C (by kernel_rfl) ad_big _ rfl 0 (by kernel_rfl) [.int .u32 L.hH, .int .i64 L.hP] rfl (fun j v hj => by match j, hj with | 0, h => exact h | 1, h => exact h | n + 2, h => exact absurd h (by simp)) ?_
              refine q_val (by kernel_rfl) (.bool true) (fun x hx => by simp [execOp, go_sem, h1, h2]) ?_
              refine q_val (by kernel_rfl) (.bool true) (fun x hx => by kernel_rfl) ?_
              refine q_val (by kernel_rfl) (.pointer (some ⟨bT, 5, none⟩)) (fun x hx => by kernel_rfl) ?_
              refine q_cell (by kernel_rfl) _ _ rfl ⟨bT, 5, none⟩ (by kernel_rfl) (.slice (some xa) t.ln t.lc) (fun y hy => ((A.since hy).cell 5).trans (by show some (.slice t.la t.ln t.lc : Value) = _; rw [exa.out])) (fun y => by kernel_rfl) ?_
              refine q_val (by kernel_rfl) (.int .i64 (k : Int)) (fun x hx => by kernel_rfl) ?_
              refine q_val (by kernel_rfl) (.pointer (some (xa.add (k * 41)))) (fun x hx => by simp [execOp, go_sem, hkn]) ?_
              refine q_val (by kernel_rfl) (.pointer (some ((xa.add (k * 41)).add 2))) (fun x hx => by kernel_rfl) ?_
              refine q_Q (by kernel_rfl) ad_big (cs := #[.int .u32 M.tH, .int .i64 M.tP]) rfl _ rfl (by kernel_rfl) (fun y hy => line_there (hM y hy)) ?_
              refine q_val (by kernel_rfl) (.pointer (some ⟨bL, 2, none⟩)) (fun x hx => by kernel_rfl) ?_
              refine q_part C (by kernel_rfl) ad_big _ rfl 2 (by kernel_rfl) [.int .u32 L.tH, .int .i64 L.tP] rfl (fun j v hj => by match j, hj with | 0, h => exact h | 1, h => exact h | n + 2, h => exact absurd h (by simp)) ?_
              refine q_val (by kernel_rfl) (.bool false) (fun x hx => by simp [execOp, go_sem]; exact e2') ?_
              refine q_val (by kernel_rfl) (.bool false) (fun x hx => by kernel_rfl) ?_
              refine q_frame (a' := { tmps := #[.agg (tbCells t),.pointer (some ⟨bT, 0, none⟩),u2,.int .i64 (i : Int),.pointer (some ⟨bL, 0, none⟩),.int .i64 (k : Int),.pointer (some ⟨bT, 0, none⟩),.int .i64 t.po,.bool true,.bool false,.bool false,.pointer (some ⟨bT, 1, none⟩),.int .i64 t.rm,.bool true,.bool false,.bool false,.bool false,.pointer (some ⟨bT, 3, none⟩),.int .i64 t.ep,.bool true,.bool false,.bool false,.bool false,.pointer (some ⟨bT, 4, none⟩),.int .i64 t.nw,.bool true,.bool false,.bool false,.bool false,.pointer (some ⟨bT, 5, none⟩),.slice t.la t.ln t.lc,.int .i64 (t.ln : Int),.bool false,.bool false,.int .i64 (i : Int),.pointer (some ⟨bT, 5, none⟩),.slice (some xa) t.ln t.lc,.int .i64 (t.ln : Int),.bool true,u39,u40,.pointer (some ⟨bT, 5, none⟩),.slice (some xa) t.ln t.lc,.int .i64 (i : Int),.pointer (some (xa.add (i * 41))),.agg (lnCells L),.pointer (some ⟨bL, 4, none⟩),.agg (cnCells L.c),.bool true,.bool false,.bool false,.pointer (some ⟨bL, 4, none⟩),.pointer (some ⟨bL, 4, none⟩),.int .i64 L.c.st,.bool false,.bool false,.bool false,.pointer (some ⟨bL, 0, none⟩),.pointer (some ⟨bL, 1, none⟩),.int .i64 L.hP,.bool true,.bool false,.bool false,.bool false,.pointer (some ⟨bL, 2, none⟩),.pointer (some ⟨bL, 3, none⟩),.int .i64 L.tP,.bool true,.bool false,.bool false,.int .i64 (k : Int),.int .i64 (i : Int),.bool true,u73,u74,.pointer (some ⟨bT, 5, none⟩),.slice (some xa) t.ln t.lc,.int .i64 (k : Int),.pointer (some (xa.add (k * 41))),.pointer (some ((xa.add (k * 41)).add 0)),.agg #[.int .u32 M.hH, .int .i64 M.hP],.pointer (some ⟨bL, 0, none⟩),.agg #[.int .u32 L.hH, .int .i64 L.hP],.bool true,.bool true,.pointer (some ⟨bT, 5, none⟩),.slice (some xa) t.ln t.lc,.int .i64 (k : Int),.pointer (some (xa.add (k * 41))),.pointer (some ((xa.add (k * 41)).add 2)),.agg #[.int .u32 M.tH, .int .i64 M.tP],.pointer (some ⟨bL, 2, none⟩),.agg #[.int .u32 L.tH, .int .i64 L.tP],.bool false,.bool false], defers := [] }) (by kernel_rfl) ?_
              refine q_nil ?_
              intro qw12 qh13
              replace A := A.since qh13
              replace C := C.since qh13
              replace G := G.trans qh13
              have qh13_s := qh13.size
              have A3 := A
              have C3 := C
              have S3 : Since wo qw12 := S.trans qh13
              go_wp2_with (fail)
              go_roundw
              case rel =>
                exact ⟨k + 1, by go_num, by omega, A3, C3, S3, G, by omega, hD3⟩
              case measure => simp [intOf]; omega
          case neg =>
            have hns : ¬ SameAd M L := fun h => e1 (hsm.1 h).1
            have hD3 : Hid (∀ m, m < k + 1 → ¬ SameAd (lAt xs m) L) := hD2.out hns
            clear hbd2 hD2
            clear hsm
            have e1' : M.hH = L.hH → ¬ M.hP = L.hP := fun a b => e1 ⟨a, b⟩
            refine wp_region_qs (wb := wr) (by kernel_rfl) (by kernel_rfl) (Since.refl _) ?_
            refine q_val (by kernel_rfl) (.pointer (some ⟨bT, 5, none⟩)) (fun x hx => by kernel_rfl) ?_
            refine q_cell (by kernel_rfl) _ _ rfl ⟨bT, 5, none⟩ (by kernel_rfl) (.slice (some xa) t.ln t.lc) (fun y hy => ((A.since hy).cell 5).trans (by show some (.slice t.la t.ln t.lc : Value) = _; rw [exa.out])) (fun y => by kernel_rfl) ?_
            refine q_val (by kernel_rfl) (.int .i64 (k : Int)) (fun x hx => by kernel_rfl) ?_
            refine q_val (by kernel_rfl) (.pointer (some (xa.add (k * 41)))) (fun x hx => by simp [execOp, go_sem, hkn]) ?_
            refine q_val (by kernel_rfl) (.pointer (some ((xa.add (k * 41)).add 0))) (fun x hx => by kernel_rfl) ?_
            refine q_Q (by kernel_rfl) ad_big (cs := #[.int .u32 M.hH, .int .i64 M.hP]) rfl _ rfl (by kernel_rfl) (fun y hy => line_here (hM y hy)) ?_
            refine q_val (by kernel_rfl) (.pointer (some ⟨bL, 0, none⟩)) (fun x hx => by kernel_rfl) ?_
            refine q_part C (by kernel_rfl) ad_big _ rfl 0 (by kernel_rfl) [.int .u32 L.hH, .int .i64 L.hP] rfl (fun j v hj => by match j, hj with | 0, h => exact h | 1, h => exact h | n + 2, h => exact absurd h (by simp)) ?_
            refine q_val (by kernel_rfl) (.bool false) (fun x hx => by simp [execOp, go_sem]; exact e1') ?_
            refine q_val (by kernel_rfl) (.bool false) (fun x hx => by kernel_rfl) ?_
            refine q_skip (by kernel_rfl) ?_
            refine q_skip (by kernel_rfl) ?_
            refine q_skip (by kernel_rfl) ?_
            refine q_skip (by kernel_rfl) ?_
            refine q_skip (by kernel_rfl) ?_
            refine q_skip (by kernel_rfl) ?_
            refine q_skip (by kernel_rfl) ?_
            refine q_skip (by kernel_rfl) ?_
            refine q_skip (by kernel_rfl) ?_
            refine q_val (by kernel_rfl) (.bool false) (fun x hx => by kernel_rfl) ?_
            refine q_frame (a' := { tmps := #[.agg (tbCells t),.pointer (some ⟨bT, 0, none⟩),u2,.int .i64 (i : Int),.pointer (some ⟨bL, 0, none⟩),.int .i64 (k : Int),.pointer (some ⟨bT, 0, none⟩),.int .i64 t.po,.bool true,.bool false,.bool false,.pointer (some ⟨bT, 1, none⟩),.int .i64 t.rm,.bool true,.bool false,.bool false,.bool false,.pointer (some ⟨bT, 3, none⟩),.int .i64 t.ep,.bool true,.bool false,.bool false,.bool false,.pointer (some ⟨bT, 4, none⟩),.int .i64 t.nw,.bool true,.bool false,.bool false,.bool false,.pointer (some ⟨bT, 5, none⟩),.slice t.la t.ln t.lc,.int .i64 (t.ln : Int),.bool false,.bool false,.int .i64 (i : Int),.pointer (some ⟨bT, 5, none⟩),.slice (some xa) t.ln t.lc,.int .i64 (t.ln : Int),.bool true,u39,u40,.pointer (some ⟨bT, 5, none⟩),.slice (some xa) t.ln t.lc,.int .i64 (i : Int),.pointer (some (xa.add (i * 41))),.agg (lnCells L),.pointer (some ⟨bL, 4, none⟩),.agg (cnCells L.c),.bool true,.bool false,.bool false,.pointer (some ⟨bL, 4, none⟩),.pointer (some ⟨bL, 4, none⟩),.int .i64 L.c.st,.bool false,.bool false,.bool false,.pointer (some ⟨bL, 0, none⟩),.pointer (some ⟨bL, 1, none⟩),.int .i64 L.hP,.bool true,.bool false,.bool false,.bool false,.pointer (some ⟨bL, 2, none⟩),.pointer (some ⟨bL, 3, none⟩),.int .i64 L.tP,.bool true,.bool false,.bool false,.int .i64 (k : Int),.int .i64 (i : Int),.bool true,u73,u74,.pointer (some ⟨bT, 5, none⟩),.slice (some xa) t.ln t.lc,.int .i64 (k : Int),.pointer (some (xa.add (k * 41))),.pointer (some ((xa.add (k * 41)).add 0)),.agg #[.int .u32 M.hH, .int .i64 M.hP],.pointer (some ⟨bL, 0, none⟩),.agg #[.int .u32 L.hH, .int .i64 L.hP],.bool false,.bool false,U,U,U,U,U,U,U,U,U,.bool false], defers := [] }) (by kernel_rfl) ?_
            refine q_nil ?_
            intro qw12 qh13
            replace A := A.since qh13
            replace C := C.since qh13
            replace G := G.trans qh13
            have qh13_s := qh13.size
            have A3 := A
            have C3 := C
            have S3 : Since wo qw12 := S.trans qh13
            go_wp2_with (fail)
            go_roundw
            case rel =>
              exact ⟨k + 1, by go_num, by omega, A3, C3, S3, G, by omega, hD3⟩
            case measure => simp [intOf]; omega
        case neg =>
          obtain rfl : k = i := by omega
          have hO2 : Hid (LinesOk xs pp (k + 1)) := hnx.out hlK hD.out
          clear hnx hbad' hD hO hlK hlo
          go_upto_region 10 with (fail)
          refine vR ?_
          refine vV (.int .i64 (k : Int)) ?_
          refine vV (.int .i64 (k : Int)) ?_
          refine vV (.bool false) ?_ (hrun := by simp [execOp, go_sem])
          refine vE #[.agg (tbCells t),.pointer (some ⟨bT, 0, none⟩),u2,.int .i64 (k : Int),.pointer (some ⟨bL, 0, none⟩),.int .i64 (k : Int),.pointer (some ⟨bT, 0, none⟩),.int .i64 t.po,.bool true,.bool false,.bool false,.pointer (some ⟨bT, 1, none⟩),.int .i64 t.rm,.bool true,.bool false,.bool false,.bool false,.pointer (some ⟨bT, 3, none⟩),.int .i64 t.ep,.bool true,.bool false,.bool false,.bool false,.pointer (some ⟨bT, 4, none⟩),.int .i64 t.nw,.bool true,.bool false,.bool false,.bool false,.pointer (some ⟨bT, 5, none⟩),.slice t.la t.ln t.lc,.int .i64 (t.ln : Int),.bool false,.bool false,.int .i64 (k : Int),.pointer (some ⟨bT, 5, none⟩),.slice (some xa) t.ln t.lc,.int .i64 (t.ln : Int),.bool true,u39,u40,.pointer (some ⟨bT, 5, none⟩),.slice (some xa) t.ln t.lc,.int .i64 (k : Int),.pointer (some (xa.add (k * 41))),.agg (lnCells L),.pointer (some ⟨bL, 4, none⟩),.agg (cnCells L.c),.bool true,.bool false,.bool false,.pointer (some ⟨bL, 4, none⟩),.pointer (some ⟨bL, 4, none⟩),.int .i64 L.c.st,.bool false,.bool false,.bool false,.pointer (some ⟨bL, 0, none⟩),.pointer (some ⟨bL, 1, none⟩),.int .i64 L.hP,.bool true,.bool false,.bool false,.bool false,.pointer (some ⟨bL, 2, none⟩),.pointer (some ⟨bL, 3, none⟩),.int .i64 L.tP,.bool true,.bool false,.bool false,.int .i64 (k : Int),.int .i64 (k : Int),.bool false,u73,u74,u75,u76,u77,u78,u79,u80,u81,u82,u83,u84,u85,u86,u87,u88,u89,u90,u91,u92,u93,u94] ?_
          go_wp2_with (fail)
          go_roundw
          case rel =>
            exact ⟨k + 1, by go_num, by omega, A, G, by omega, hO2⟩
          case measure => simp [intOf]; omega
    case neg =>
      obtain rfl : i = t.ln := by omega
      have hqt : q = true := hq.2 ⟨⟨c0, c1, c2, c3, c4⟩, hO.out⟩
      subst hqt
      go_upto_region 4 with (fail)
      refine vR ?_
      refine vV (.int .i64 (t.ln : Int)) ?_
      refine vV (.pointer (some ⟨bT, 5, none⟩)) ?_
      refine vD (.slice t.la t.ln t.lc) (A.cell 5) ?_
      refine vV (.int .i64 (t.ln : Int)) ?_ (hrun := by simp [execOp, go_sem])
      refine vV (.bool false) ?_ (hrun := by simp [execOp, go_sem])
      refine vE #[.agg (tbCells t),.pointer (some ⟨bT, 0, none⟩),u2,.int .i64 (t.ln : Int),u4,u5,.pointer (some ⟨bT, 0, none⟩),.int .i64 t.po,.bool true,.bool false,.bool false,.pointer (some ⟨bT, 1, none⟩),.int .i64 t.rm,.bool true,.bool false,.bool false,.bool false,.pointer (some ⟨bT, 3, none⟩),.int .i64 t.ep,.bool true,.bool false,.bool false,.bool false,.pointer (some ⟨bT, 4, none⟩),.int .i64 t.nw,.bool true,.bool false,.bool false,.bool false,.pointer (some ⟨bT, 5, none⟩),.slice t.la t.ln t.lc,.int .i64 (t.ln : Int),.bool false,.bool false,.int .i64 (t.ln : Int),.pointer (some ⟨bT, 5, none⟩),.slice t.la t.ln t.lc,.int .i64 (t.ln : Int),.bool false,u39,u40,u41,u42,u43,u44,u45,u46,u47,u48,u49,u50,u51,u52,u53,u54,u55,u56,u57,u58,u59,u60,u61,u62,u63,u64,u65,u66,u67,u68,u69,u70,u71,u72,u73,u74,u75,u76,u77,u78,u79,u80,u81,u82,u83,u84,u85,u86,u87,u88,u89,u90,u91,u92,u93,u94] ?_
      go_upto_region 14 with (fail)
      refine vR ?_
      refine vV (.bool true) ?_
      refine vE #[.agg (tbCells t),.pointer (some ⟨bT, 0, none⟩),.bool true,.int .i64 (t.ln : Int),u4,u5,.pointer (some ⟨bT, 0, none⟩),.int .i64 t.po,.bool true,.bool false,.bool false,.pointer (some ⟨bT, 1, none⟩),.int .i64 t.rm,.bool true,.bool false,.bool false,.bool false,.pointer (some ⟨bT, 3, none⟩),.int .i64 t.ep,.bool true,.bool false,.bool false,.bool false,.pointer (some ⟨bT, 4, none⟩),.int .i64 t.nw,.bool true,.bool false,.bool false,.bool false,.pointer (some ⟨bT, 5, none⟩),.slice t.la t.ln t.lc,.int .i64 (t.ln : Int),.bool false,.bool false,.int .i64 (t.ln : Int),.pointer (some ⟨bT, 5, none⟩),.slice t.la t.ln t.lc,.int .i64 (t.ln : Int),.bool false,u39,u40,u41,u42,u43,u44,u45,u46,u47,u48,u49,u50,u51,u52,u53,u54,u55,u56,u57,u58,u59,u60,u61,u62,u63,u64,u65,u66,u67,u68,u69,u70,u71,u72,u73,u74,u75,u76,u77,u78,u79,u80,u81,u82,u83,u84,u85,u86,u87,u88,u89,u90,u91,u92,u93,u94] ?_
      go_wp2_with (fail)
      go_ret
      exact ⟨rfl, G⟩
end Go.Proofs.Ytpkenhcglnognaa
