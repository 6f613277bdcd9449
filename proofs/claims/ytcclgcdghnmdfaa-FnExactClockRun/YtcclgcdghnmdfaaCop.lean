/-
  Lists of clock ops: opened, copied, held against another, marked.
-/
import Derived.Test.YtcclgcdghnmdfaaTimLaw
import Derived.Test.YtcclgcdghnmdfaaOpenClock
import Derived.Test.YtcclgcdghnmdfaaDue
namespace Go.Proofs.Ytcclgcdghnmdfaa
open Go.ChangeShapes Go.WideShapes Go.ChangeAt Go.RowKit Go.Deep
set_option linter.unusedVariables false
set_option maxRecDepth 10000

/-- A clock op: Kind, Id, Wait. -/
def shO : Shape (Int × Int × Int) := ⟨73, 3, fun x => [.int .i64 x.1, .int .i64 x.2.1, .int .i64 x.2.2], fun _ => rfl, fun x v hv => by simp at hv; rcases hv with rfl | rfl | rfl <;> rfl, (0, 0, 0), by decide⟩

/-- Op i. -/
def oAt (os : List (Int × Int × Int)) (i : Nat) : Int × Int × Int := os.getD i (0, 0, 0)

theorem info_O : (Try.prog.info? 73).map (fun i => (i.zero, i.size, i.bytes)) = some (some (.agg #[.int .i64 0, .int .i64 0, .int .i64 0]), 3, 24) := by kernel_rfl

theorem Rd.op {w : World} {a : Option Addr} {n : Nat} {os : List (Int × Int × Int)} (h : Rd shO w a n os) (i : Nat) (hi : i < n) : ∃ x, a = some x ∧ x.block < w.heap.size ∧ w.cell? (x.add (i * 3)) = some (.int .i64 (oAt os i).1) ∧ w.cell? ⟨(x.add (i * 3)).block, (x.add (i * 3)).off + 1, none⟩ = some (.int .i64 (oAt os i).2.1) ∧ w.cell? ⟨(x.add (i * 3)).block, (x.add (i * 3)).off + 2, none⟩ = some (.int .i64 (oAt os i).2.2) := by
  obtain ⟨x, e, hb, hc⟩ := h.cell i hi
  refine ⟨x, e, hb, hc 0 (by decide), ?_, ?_⟩
  · rw [addr_step x (i * 3) 1 (by omega)]
    exact hc 1 (by decide)
  · rw [addr_step x (i * 3) 2 (by omega)]
    exact hc 2 (by decide)

theorem Held.op {w : World} {B g n cap : Nat} {os : List (Int × Int × Int)} (h : Held shO w B g n cap os) (i : Nat) (hi : i < n) : w.cell? ⟨g, i * 3, none⟩ = some (.int .i64 (oAt os i).1) ∧ w.cell? ⟨g, i * 3 + 1, none⟩ = some (.int .i64 (oAt os i).2.1) ∧ w.cell? ⟨g, i * 3 + 2, none⟩ = some (.int .i64 (oAt os i).2.2) := ⟨h.cell i hi 0 (by decide), h.cell i hi 1 (by decide), h.cell i hi 2 (by decide)⟩

theorem Held.setO {w : World} {B g n cap : Nat} {os : List (Int × Int × Int)} (h : Held shO w B g n cap os) (i : Nat) (hi : i < n) (x y z : Int) : Held shO (((w.setCell ⟨g, i * 3, none⟩ (.int .i64 x)).setCell ⟨g, i * 3 + 1, none⟩ (.int .i64 y)).setCell ⟨g, i * 3 + 2, none⟩ (.int .i64 z)) B g n cap (os.set i (x, y, z)) := h.set i hi (x, y, z)

theorem cells_zeroO : ∀ n : Nat, shO.cells (List.replicate n (0, 0, 0)) = List.replicate (n * 3) (.int .i64 0)
  | 0 => rfl
  | n + 1 => by
    rw [List.replicate_succ, show (n + 1) * 3 = n * 3 + 1 + 1 + 1 by omega, List.replicate_succ, List.replicate_succ, List.replicate_succ, ← cells_zeroO n]
    rfl

theorem made_op {w : World} {B g n : Nat} (h : w.ownsRow B 73 3 (.slice (some ⟨g, 0, none⟩) n n) n (madeCells #[.int .i64 0, .int .i64 0, .int .i64 0] (n * 3)).toList) : Held shO w B g n n (List.replicate n (0, 0, 0)) := by
  refine Held.of_owns (by simp) ?_ h
  rw [cells_zeroO n]
  apply List.ext_getElem?
  intro j
  by_cases hj : j < n * 3
  · simp only [madeCells, Array.getElem?_toList, List.getElem?_replicate, hj, if_true]
    have hm : j % 3 = 0 ∨ j % 3 = 1 ∨ j % 3 = 2 := by omega
    rcases hm with h | h | h <;> simp [hj, h]
  · simp [madeCells, hj]

theorem szOps (a : Option Addr) (n cap : Nat) (left : Int) (h0 : 0 ≤ left) (hl : left ≤ 1048576) (hn : n ≤ maxLen) (w : World) :
    Calls Try.prog 27 #[.slice a n cap, .int .i64 left] w fun e w' => (∃ r : Int, e = .returned (.int .i64 r) ∧ (0 ≤ r → (n : Int) ≤ left)) ∧ w = w' := by
  unfold maxLen at hn
  have hsub : IntKind.i64.wrap (left - (n : Int)) = left - (n : Int) := by rw [IntWalk.i64_left]; exact IntWalk.wrap64_in _ ⟨by omega, by omega⟩
  by_cases h : left - (n : Int) < 0
  · go_enter Try.func27, Try.ntmps27
    go_wp2
    go_ret
    exact ⟨⟨-1, rfl, by omega⟩, rfl⟩
  · go_enter Try.func27, Try.ntmps27
    go_wp2
    go_ret
    exact ⟨⟨_, rfl, by omega⟩, rfl⟩

theorem toOp (x y z : Int) (w : World) :
    Calls Try.prog 52 #[.agg #[.int .i64 x, .int .i64 y, .int .i64 z]] w fun e w' => e = .returned (.agg #[.int .i64 x, .int .i64 y, .int .i64 z]) ∧ Since w w' := by
  go_enter Try.func52, Try.ntmps52
  go_wp2
  refine bodyPost_ret (v := .agg #[.int .i64 x, .int .i64 y, .int .i64 z]) ?_ rfl ⟨rfl, ?_⟩
  · simp [results, go_sem]
  · repeat (first | exact Since.refl _ | refine since_put1 ?_ (by simp; try omega) _ _ | refine Since.alloc ?_ _)

set_option maxHeartbeats 1000000 in
theorem toOps (a : Option Addr) (n cap : Nat) (os : List (Int × Int × Int)) (hn : n ≤ 1048576) (w : World) (R : Rd shO w a n os) :
    Calls Try.prog 29 #[.slice a n cap] w fun e w' => ∃ g, e = .returned (.slice (some ⟨g, 0, none⟩) n n) ∧ Held shO w' w.heap.size g n n os ∧ Since w w' := by
  obtain ⟨ii, hi, hz0, hz1, hz2⟩ := info_parts info_O
  go_enter Try.func29, Try.ntmps29
  go_wp2_with (refine wpList_make_full _ rfl _ _ 48 rfl w.heap.size 73 ii (.agg #[.int .i64 0, .int .i64 0, .int .i64 0]) 3 Try.underlying48 hi hz0 hz1 .i64 .i64 _ _ n rfl rfl rfl rfl ?c1 ?c2 (Nat.le_refl _) ?_)
  case c1 => rw [hz2]; omega
  case c2 => unfold maxLen; omega
  intro w1 hown hgrow
  have T0 := made_op hown
  have S0 : Since w w1 := ⟨hgrow.os, hgrow.tape, hgrow.output, hgrow.size, fun k hk => hgrow.block k hk (by simp)⟩
  generalize hg : w.heap.size = g at T0 hown ⊢
  go_wp2
  go_loopw [4] (fun i wr => ∃ (k : Nat), k ≤ n ∧ i = .int .i64 k ∧ Held shO wr g g n n (os.take k ++ List.replicate (n - k) (0, 0, 0)) ∧ Since w wr) (fun i _ => n - (intOf i).toNat)
  case atStart => exact ⟨0, by omega, rfl, by simpa using T0, S0⟩
  case round =>
    obtain ⟨k, hk, rfl, T, S⟩ := hrel
    have Rr := R.since S
    by_cases hlt : k < n
    · obtain ⟨x, rfl, hb, q0, q1, q2⟩ := Rr.op k hlt
      have hto := fun wx => toOp (oAt os k).1 (oAt os k).2.1 (oAt os k).2.2 wx
      generalize hO : oAt os k = O at q0 q1 q2 hto
      go_wp2_with (go_at_call 52; refine (hto _).mono ?_; rintro _ w2 ⟨rfl, g2⟩; have T2 := T.since g2; obtain ⟨d0, d1, d2⟩ := T2.op k hlt; have f0 := T2.free (k * 3); have f1 := T2.free (k * 3 + 1); have f2 := T2.free (k * 3 + 2))
      have hT := T2.setO k hlt O.1 O.2.1 O.2.2
      have e := shO.take_set os n k R.len hlt
      rw [show shO.get os k = (O.1, O.2.1, O.2.2) from hO, show shO.z = (0, 0, 0) from rfl] at e
      rw [e] at hT
      go_roundw
      case rel => exact ⟨k + 1, by omega, by go_num, hT, since_put1 (since_put1 (since_put1 (S.trans g2) (by omega) _ _) (by omega) _ _) (by omega) _ _⟩
      case measure => simp [intOf]; omega
    · have hkn : k = n := by omega
      subst hkn
      go_wp2
      go_ret
      refine ⟨g, rfl, ?_, S⟩
      have e : os.take k ++ List.replicate (k - k) ((0, 0, 0) : Int × Int × Int) = os := by simp [List.take_of_length_le (Nat.le_of_eq R.len)]
      rw [e] at T
      exact T.raise (by omega)

theorem eqOp (x y z : Int) (w : World) :
    Calls Try.prog 53 #[.agg #[.int .i64 x, .int .i64 y, .int .i64 z], .agg #[.int .i64 x, .int .i64 y, .int .i64 z]] w fun e w' => e = .returned (.bool true) ∧ Since w w' := by
  go_enter Try.func53, Try.ntmps53
  go_wp2
  go_ret
  exact ⟨rfl, ((Since.refl _).alloc _).alloc _⟩

set_option maxHeartbeats 1000000 in
theorem eqOps (a b : Option Addr) (n ca cb : Nat) (os : List (Int × Int × Int)) (hn : n ≤ 1048576) (w : World) (T : Rd shO w a n os) (T' : Rd shO w b n os) :
    Calls Try.prog 31 #[.slice a n ca, .slice b n cb] w fun e w' => e = .returned (.bool true) ∧ Since w w' := by
  go_enter Try.func31, Try.ntmps31
  go_wp2
  go_loopw [5] (fun i wr => ∃ (k : Nat), k ≤ n ∧ i = .int .i64 k ∧ Since w wr) (fun i _ => n - (intOf i).toNat)
  case atStart => exact ⟨0, by omega, rfl, Since.refl _⟩
  case round =>
    obtain ⟨k, hk, rfl, S⟩ := hrel
    by_cases hlt : k < n
    · obtain ⟨x, rfl, hb, q0, q1, q2⟩ := (T.since S).op k hlt
      obtain ⟨y, rfl, hb', r0, r1, r2⟩ := (T'.since S).op k hlt
      have hlt' : (k : Int) < (n : Int) := by omega
      generalize oAt os k = O at q0 q1 q2 r0 r1 r2
      clear T T'
      have xb : (x.add (k * 3)).block = x.block := add_block _ _
      have yb : (y.add (k * 3)).block = y.block := add_block _ _
      go_wp2
      have c0 : ∀ z : Later wr, z.val.cell? (x.add (k * 3)) = some (.int .i64 O.1) := fun z => (Below.cell z.ok (p := x.add (k * 3)) (by rw [xb]; exact hb)).trans q0
      have c1 : ∀ z : Later wr, z.val.cell? ⟨(x.add (k * 3)).block, (x.add (k * 3)).off + 1, none⟩ = some (.int .i64 O.2.1) := fun z => (Below.cell z.ok (p := ⟨(x.add (k * 3)).block, (x.add (k * 3)).off + 1, none⟩) (by show (x.add (k * 3)).block < _; rw [xb]; exact hb)).trans q1
      have c2 : ∀ z : Later wr, z.val.cell? ⟨(x.add (k * 3)).block, (x.add (k * 3)).off + 2, none⟩ = some (.int .i64 O.2.2) := fun z => (Below.cell z.ok (p := ⟨(x.add (k * 3)).block, (x.add (k * 3)).off + 2, none⟩) (by show (x.add (k * 3)).block < _; rw [xb]; exact hb)).trans q2
      have d0 : ∀ z : Later wr, z.val.cell? (y.add (k * 3)) = some (.int .i64 O.1) := fun z => (Below.cell z.ok (p := y.add (k * 3)) (by rw [yb]; exact hb')).trans r0
      have d1 : ∀ z : Later wr, z.val.cell? ⟨(y.add (k * 3)).block, (y.add (k * 3)).off + 1, none⟩ = some (.int .i64 O.2.1) := fun z => (Below.cell z.ok (p := ⟨(y.add (k * 3)).block, (y.add (k * 3)).off + 1, none⟩) (by show (y.add (k * 3)).block < _; rw [yb]; exact hb')).trans r1
      have d2 : ∀ z : Later wr, z.val.cell? ⟨(y.add (k * 3)).block, (y.add (k * 3)).off + 2, none⟩ = some (.int .i64 O.2.2) := fun z => (Below.cell z.ok (p := ⟨(y.add (k * 3)).block, (y.add (k * 3)).off + 2, none⟩) (by show (y.add (k * 3)).block < _; rw [yb]; exact hb')).trans r2
      have he : ∀ z : Later wr, Calls Try.prog 53 #[.agg #[.int .i64 O.1, .int .i64 O.2.1, .int .i64 O.2.2], .agg #[.int .i64 O.1, .int .i64 O.2.1, .int .i64 O.2.2]] z.val fun e w'' => e = .returned (.bool true) ∧ ∃ z : Later wr, w'' = z.val := fun z => calm_call (eqOp O.1 O.2.1 O.2.2 z.val)
      have hne : Nonempty (Later wr) := ⟨⟨wr, Since.refl _⟩⟩
      clear q0 q1 q2 r0 r1 r2 xb yb
      refine wp_region_calm (wb := wr) (by kernel_rfl) (by kernel_rfl) (Since.refl _) ?_
      repeat (go_big_quiet_step (exact he _))
      refine wpQuiet_nil ?_
      rintro _ ⟨y, rfl⟩
      go_wp2
      have S2 := S.trans y.ok
      go_roundw
      case rel => exact ⟨k + 1, by omega, by go_num, S2⟩
      case measure => simp [intOf]; omega
    · have hkn : k = n := by omega
      subst hkn
      clear T T'
      go_wp2
      go_ret
      exact ⟨rfl, S⟩

set_option maxHeartbeats 1000000 in
theorem markOps (B g n cap : Nat) (os : List (Int × Int × Int)) (k : Int) (hk0 : 1 ≤ k) (hk1 : k + 3 * n ≤ 1073741824) (w : World) (T : Held shO w B g n cap os) :
    Calls Try.prog 32 #[.slice (some ⟨g, 0, none⟩) n cap, .int .i64 k] w fun e w' => e = .returned (.int .i64 (k + 3 * n)) ∧ Touch g w w' ∧ ∃ ms, Held shO w' B g n cap ms := by
  go_enter Try.func32, Try.ntmps32
  go_wp2
  go_loopw [1, 5] (fun q i wr => ∃ (j : Nat) (ms : List (Int × Int × Int)), j ≤ n ∧ i = .int .i64 j ∧ q = .int .i64 (k + 3 * j) ∧ Held shO wr B g n cap ms ∧ Touch g w wr) (fun _ i _ => n - (intOf i).toNat)
  case atStart => exact ⟨0, os, by omega, rfl, by simp, T, Touch.refl _ _⟩
  case round =>
    obtain ⟨j, ms, hj, rfl, rfl, Tr, S⟩ := hrel
    by_cases hlt : j < n
    · have hlt' : (j : Int) < (n : Int) := by omega
      clear T
      obtain ⟨c0, c1, c2⟩ := Tr.op j hlt
      have f0 := Tr.free (j * 3)
      have f1 := Tr.free (j * 3 + 1)
      have f2 := Tr.free (j * 3 + 2)
      have hw1 : IntKind.i64.wrap (k + 3 * j + 1) = k + 3 * j + 1 := by rw [IntWalk.i64_left]; exact IntWalk.wrap64_in _ ⟨by omega, by omega⟩
      have hw2 : IntKind.i64.wrap (k + 3 * j + 1 + 1) = k + 3 * j + 1 + 1 := by rw [IntWalk.i64_left]; exact IntWalk.wrap64_in _ ⟨by omega, by omega⟩
      have hT := Tr.setO j hlt (k + 3 * j) (k + 3 * j + 1) (k + 3 * j + 1 + 1)
      go_wp2
      go_roundw
      case rel => exact ⟨j + 1, _, by omega, by go_num, by go_num, hT, ((S.put _ _).put _ _).put _ _⟩
      case measure => simp [intOf]; omega
    · have hjn : j = n := by omega
      subst hjn
      go_wp2
      go_ret
      exact ⟨rfl, S, ms, Tr⟩

theorem open_clockops {H : Type} {enc : TypeId × Value → H} {W : World} {base : Nat} {v : Value} {d : DataW H} {p : List MemPlace} (hv : Value.okWide Try.prog W .any base 45 v) (h : DataW.Trod enc Try.prog W 0 (fun _ => true) true 45 v d p) :
    ∃ (a : Option Addr) (n cap : Nat) (os : List (Int × Int × Int)), v = .slice a n cap ∧ Rd shO W a n os ∧ ∀ i, i < n → (Lit.int .i64 (oAt os i).1).wf = true ∧ (Lit.int .i64 (oAt os i).2.1).wf = true ∧ (Lit.int .i64 (oAt os i).2.2).wf = true := by
  obtain ⟨a0, l0, c0, rfl⟩ := okWide_slice Try.underlying45 hv
  obtain ⟨fuel, hf⟩ := h
  rcases open_slice Try.underlying45 hf with ⟨hcs, _⟩ | ⟨a, len, cap, m, n, D, Pl, hcs, hb, hl, hm, hmm, _, hx⟩
  · simp [Value.cells] at hcs
    obtain ⟨rfl, rfl, rfl⟩ := hcs
    exact ⟨none, 0, 0, [], rfl, ⟨rfl, Nat.zero_le _, fun i hi => by omega⟩, fun i hi => by omega⟩
  · simp [Value.cells] at hcs
    obtain ⟨e1, e2, e3⟩ := hcs
    rw [e1, e2, e3]
    clear hv hf e1 e2 e3
    have hm' : m = cap := by simpa using hmm
    have ce : Try.prog.cellsOf 75 = 3 := by kernel_rfl
    have each : ∀ i, i < m → ∃ o : Int × Int × Int, W.cell? (a.add (i * 3)) = some (.int .i64 o.1) ∧ W.cell? (a.add (i * 3 + 1)) = some (.int .i64 o.2.1) ∧ W.cell? (a.add (i * 3 + 2)) = some (.int .i64 o.2.2) ∧ (Lit.int .i64 o.1).wf = true ∧ (Lit.int .i64 o.2.1).wf = true ∧ (Lit.int .i64 o.2.2).wf = true := by
      intro i hi
      obtain ⟨cs', h1, h2⟩ := hx i hi
      rw [ce] at h1
      obtain ⟨_, hlen, hcell⟩ := World.cells?_some h1
      obtain ⟨xs, k, hk, hxy, _, hxl, hg⟩ := DataW.trod_struct Try.underlying75 h2
      match xs, hxl, cs', hlen with
      | [y0, y1, y2], _, [v0, v1, v2], _ =>
        have g0 := hg 0 _ rfl
        have g1 := hg 1 _ rfl
        have g2 := hg 2 _ rfl
        have ci : Try.prog.cellsOf 3 = 1 := by kernel_rfl
        simp [ci] at g0 g1 g2
        obtain ⟨b0, e0, _, w0⟩ := DataW.trod_int Try.underlying3 g0
        obtain ⟨b1, e1, _, w1⟩ := DataW.trod_int Try.underlying3 g1
        obtain ⟨b2, e2, _, w2⟩ := DataW.trod_int Try.underlying3 g2
        simp only [List.cons.injEq, and_true] at e0 e1 e2
        subst e0
        subst e1
        subst e2
        have q0 := hcell 0 (by omega)
        have q1 := hcell 1 (by omega)
        have q2 := hcell 2 (by omega)
        rw [add_add] at q0 q1 q2
        exact ⟨(b0, b1, b2), by simpa using q0, by simpa using q1, by simpa using q2, w0, w1, w2⟩
    obtain ⟨q, hq⟩ := choose_lt each
    have e : ∀ i, i < len → oAt ((List.range len).map q) i = q i := fun i hi => by simp [oAt, List.getD, hi]
    refine ⟨some a, len, cap, (List.range len).map q, rfl, ⟨by simp, Nat.le_trans hl hm, fun i hi => ⟨a, rfl, ?_, fun j hj => ?_⟩⟩, fun i hi => ?_⟩
    · have hb2 := World.block_lt_of_cell? W _ (hq i (by omega)).1
      have hbl : (a.add (i * 3)).block = a.block := by unfold Addr.add; split <;> rfl
      omega
    · have h1 : shO.get ((List.range len).map q) i = q i := e i hi
      rw [h1]
      obtain ⟨q0, q1, q2, _⟩ := hq i (by omega)
      match j, hj with
      | 0, _ => exact q0
      | 1, _ => exact q1
      | 2, _ => exact q2
    · rw [e i hi]
      exact (hq i (by omega)).2.2.2
end Go.Proofs.Ytcclgcdghnmdfaa
