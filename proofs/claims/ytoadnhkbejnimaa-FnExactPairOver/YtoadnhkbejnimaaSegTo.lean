/-
  Lists of segments that came in: opened, sized and copied by the laws' functions.
-/
import Derived.Test.YtoadnhkbejnimaaSegLaws
import Derived.Test.YtoadnhkbejnimaaOpenSeg
import Derived.Test.YtoadnhkbejnimaaOpenNet
import Derived.Deep.DeepCutAuto
namespace Go.Proofs.Ytoadnhkbejnimaa
open Go.ChangeShapes Go.WideShapes Go.ChangeAt Go.RowKit
set_option linter.unusedVariables false
set_option maxRecDepth 10000
open Go.Deep
set_option linter.unusedSimpArgs false

theorem info_G8 : (Try.prog.info? 58).map (fun i => (i.zero, i.size, i.bytes)) = some (some (.agg #[.int .i64 0, .int .i64 0, .int .u32 0, .int .u32 0, .int .i64 0, .int .i64 0, .int .i64 0, .string ByteArray.empty]), 8, 64) := by kernel_rfl

theorem Rd.sgs {w : World} {a : Option Addr} {n : Nat} {xs : List Sg} (h : Rd shG w a n xs) (i : Nat) (hi : i < n) : ∃ x, a = some x ∧ x.block < w.heap.size ∧ w.cell? (x.add (i * 8)) = some (.int .i64 (gAt xs i).fr) ∧ w.cell? ⟨(x.add (i * 8)).block, (x.add (i * 8)).off + 1, none⟩ = some (.int .i64 (gAt xs i).tt) ∧ w.cell? ⟨(x.add (i * 8)).block, (x.add (i * 8)).off + 2, none⟩ = some (.int .u32 (gAt xs i).sq) ∧ w.cell? ⟨(x.add (i * 8)).block, (x.add (i * 8)).off + 3, none⟩ = some (.int .u32 (gAt xs i).ak) ∧ w.cell? ⟨(x.add (i * 8)).block, (x.add (i * 8)).off + 4, none⟩ = some (.int .i64 (gAt xs i).fl) ∧ w.cell? ⟨(x.add (i * 8)).block, (x.add (i * 8)).off + 5, none⟩ = some (.int .i64 (gAt xs i).wn) ∧ w.cell? ⟨(x.add (i * 8)).block, (x.add (i * 8)).off + 6, none⟩ = some (.int .i64 (gAt xs i).ms) ∧ w.cell? ⟨(x.add (i * 8)).block, (x.add (i * 8)).off + 7, none⟩ = some (.string (gAt xs i).d) := by
  obtain ⟨x, e, hb, hc⟩ := h.cell i hi
  refine ⟨x, e, hb, hc 0 (by decide), by rw [addr_step x (i * 8) 1 (by omega)]; exact hc 1 (by decide), by rw [addr_step x (i * 8) 2 (by omega)]; exact hc 2 (by decide), by rw [addr_step x (i * 8) 3 (by omega)]; exact hc 3 (by decide), by rw [addr_step x (i * 8) 4 (by omega)]; exact hc 4 (by decide), by rw [addr_step x (i * 8) 5 (by omega)]; exact hc 5 (by decide), by rw [addr_step x (i * 8) 6 (by omega)]; exact hc 6 (by decide), by rw [addr_step x (i * 8) 7 (by omega)]; exact hc 7 (by decide)⟩

theorem Held.setG {w : World} {B g n cap : Nat} {xs : List Sg} (h : Held shG w B g n cap xs) (i : Nat) (hi : i < n) (s : Sg) : Held shG (((((((((w).setCell ⟨g, i * 8, none⟩ (.int .i64 s.fr)).setCell ⟨g, i * 8 + 1, none⟩ (.int .i64 s.tt)).setCell ⟨g, i * 8 + 2, none⟩ (.int .u32 s.sq)).setCell ⟨g, i * 8 + 3, none⟩ (.int .u32 s.ak)).setCell ⟨g, i * 8 + 4, none⟩ (.int .i64 s.fl)).setCell ⟨g, i * 8 + 5, none⟩ (.int .i64 s.wn)).setCell ⟨g, i * 8 + 6, none⟩ (.int .i64 s.ms)).setCell ⟨g, i * 8 + 7, none⟩ (.string s.d)) B g n cap (xs.set i s) := h.set i hi s

theorem gcells_zero : ∀ n : Nat, shG.cells (List.replicate n ⟨0, 0, 0, 0, 0, 0, 0, ByteArray.empty⟩) = (List.range (n * 8)).map (fun j => if j % 8 = 2 ∨ j % 8 = 3 then .int .u32 0 else if j % 8 = 7 then .string ByteArray.empty else .int .i64 0)
  | 0 => rfl
  | n + 1 => by
    rw [List.replicate_succ', show (n + 1) * 8 = n * 8 + 1 + 1 + 1 + 1 + 1 + 1 + 1 + 1 by omega, List.range_succ, List.range_succ, List.range_succ, List.range_succ, List.range_succ, List.range_succ, List.range_succ, List.range_succ, List.map_append, List.map_append, List.map_append, List.map_append, List.map_append, List.map_append, List.map_append, List.map_append, ← gcells_zero n, Shape.cells_append]
    have h0 : n * 8 % 8 = 0 := by omega
    have h1 : (n * 8 + 1) % 8 = 1 := by omega
    have h2 : (n * 8 + 1 + 1) % 8 = 2 := by omega
    have h3 : (n * 8 + 1 + 1 + 1) % 8 = 3 := by omega
    have h4 : (n * 8 + 1 + 1 + 1 + 1) % 8 = 4 := by omega
    have h5 : (n * 8 + 1 + 1 + 1 + 1 + 1) % 8 = 5 := by omega
    have h6 : (n * 8 + 1 + 1 + 1 + 1 + 1 + 1) % 8 = 6 := by omega
    have h7 : (n * 8 + 1 + 1 + 1 + 1 + 1 + 1 + 1) % 8 = 7 := by omega
    simp only [List.map_cons, List.map_nil, h0, h1, h2, h3, h4, h5, h6, h7]
    simp [Shape.cells, shG]

theorem made_seg {w : World} {B g n : Nat} (h : w.ownsRow B 58 8 (.slice (some ⟨g, 0, none⟩) n n) n (madeCells #[.int .i64 0, .int .i64 0, .int .u32 0, .int .u32 0, .int .i64 0, .int .i64 0, .int .i64 0, .string ByteArray.empty] (n * 8)).toList) : Held shG w B g n n (List.replicate n ⟨0, 0, 0, 0, 0, 0, 0, ByteArray.empty⟩) := by
  refine Held.of_owns (by simp) ?_ h
  rw [gcells_zero n]
  apply List.ext_getElem?
  intro j
  by_cases hj : j < n * 8
  · simp only [madeCells, Array.getElem?_toList]
    have hm : j % 8 = 0 ∨ j % 8 = 1 ∨ j % 8 = 2 ∨ j % 8 = 3 ∨ j % 8 = 4 ∨ j % 8 = 5 ∨ j % 8 = 6 ∨ j % 8 = 7 := by omega
    rcases hm with h | h | h | h | h | h | h | h <;> simp [hj, h]
  · simp [madeCells, hj]

set_option maxHeartbeats 1000000 in
theorem szSegs (a : Option Addr) (n cap : Nat) (xs : List Sg) (left : Int) (h0 : 0 ≤ left) (hl : left ≤ 1048576) (w : World) (R : Rd shG w a n xs) (hsm : ∀ i, i < n → (gAt xs i).d.size ≤ maxLen) :
    Calls Try.prog 23 #[.slice a n cap, .int .i64 left] w fun e w' => (∃ r : Int, e = .returned (.int .i64 r) ∧ r ≤ left ∧ (0 ≤ r → (n : Int) ≤ left)) ∧ Since w w' := by
  have hmost := R.most
  unfold maxLen at hmost
  have hsub : IntKind.i64.wrap (left - (n : Int)) = left - (n : Int) := by rw [IntWalk.i64_left]; exact IntWalk.wrap64_in _ ⟨by omega, by omega⟩
  by_cases hn : (n : Int) ≤ left
  · have hn' : ¬ left - (n : Int) < 0 := by omega
    go_enter Try.func23, Try.ntmps23
    go_wp2
    go_loopw [1, 5] (fun l i wr => ∃ (k : Nat) (q : Int), k ≤ n ∧ i = .int .i64 k ∧ l = .int .i64 q ∧ 0 ≤ q ∧ q ≤ left ∧ Since w wr) (fun _ i _ => n - (intOf i).toNat)
    case atStart => exact ⟨0, _, by omega, rfl, rfl, by omega, by omega, Since.refl _⟩
    case round =>
      obtain ⟨k, q, hk, rfl, rfl, hq0, hq1, S⟩ := hrel
      by_cases hlt : k < n
      · obtain ⟨x, rfl, hb, c0, c1, c2, c3, c4, c5, c6, c7⟩ := (R.since S).sgs k hlt
        have hs0 := fun wx => szSg (gAt xs k) q ⟨hq0, by omega⟩ (hsm k hlt) wx
        unfold sgCells at hs0
        have hs : ∀ wx, Calls Try.prog 45 #[.agg #[.int .i64 (gAt xs k).fr, .int .i64 (gAt xs k).tt, .int .u32 (gAt xs k).sq, .int .u32 (gAt xs k).ak, .int .i64 (gAt xs k).fl, .int .i64 (gAt xs k).wn, .int .i64 (gAt xs k).ms, .string (gAt xs k).d], .int .i64 q] wx fun e w' => (∃ r : Int, e = .returned (.int .i64 r) ∧ r ≤ q) ∧ Since wx w' := fun wx => (hs0 wx).mono (by
          rintro e w' ⟨rfl, g⟩
          refine ⟨⟨_, rfl, ?_⟩, g⟩
          split <;> omega)
        clear hs0
        generalize hz : gAt xs k = t at c0 c1 c2 c3 c4 c5 c6 c7 hs
        clear R hsm
        go_wp2_with (go_at_call 45; refine (hs _).mono ?_; rintro _ w1 ⟨⟨r, rfl, hr1⟩, g1⟩)
        · go_ret
          exact ⟨⟨-1, rfl, by omega, by omega⟩, S.trans g1⟩
        · go_roundw
          case rel => exact ⟨k + 1, r, by omega, by go_num, rfl, by omega, by omega, S.trans g1⟩
          case measure => simp [intOf]; omega
      · have hkn : k = n := by omega
        subst hkn
        clear R hsm
        go_wp2
        go_ret
        exact ⟨⟨q, rfl, by omega, fun _ => by omega⟩, S⟩
  · have hn' : left - (n : Int) < 0 := by omega
    clear R hsm
    go_enter Try.func23, Try.ntmps23
    go_wp2
    go_ret
    exact ⟨⟨-1, rfl, by omega, by omega⟩, Since.refl _⟩

set_option maxHeartbeats 4000000 in
theorem toSegs (a : Option Addr) (n cap : Nat) (xs : List Sg) (hn : n ≤ 1048576) (w : World) (R : Rd shG w a n xs) :
    Calls Try.prog 26 #[.slice a n cap] w fun e w' => ∃ g, e = .returned (.slice (some ⟨g, 0, none⟩) n n) ∧ Held shG w' w.heap.size g n n xs ∧ Since w w' := by
  obtain ⟨ii, hi, hz0, hz1, hz2⟩ := info_parts info_G8
  go_enter Try.func26, Try.ntmps26
  go_wp2_with (refine wpList_make_full _ rfl _ _ 34 rfl w.heap.size 58 ii (.agg #[.int .i64 0, .int .i64 0, .int .u32 0, .int .u32 0, .int .i64 0, .int .i64 0, .int .i64 0, .string ByteArray.empty]) 8 Try.underlying34 hi hz0 hz1 .i64 .i64 _ _ n rfl rfl rfl rfl ?c1 ?c2 (Nat.le_refl _) ?_)
  case c1 => rw [hz2]; omega
  case c2 => unfold maxLen; omega
  intro w1 hown hgrow
  have T0 := made_seg hown
  have S0 : Since w w1 := ⟨hgrow.os, hgrow.tape, hgrow.output, hgrow.size, fun k hk => hgrow.block k hk (by simp)⟩
  generalize hg : w.heap.size = g at T0 hown ⊢
  go_wp2
  go_loopw [4] (fun i wr => ∃ (k : Nat), k ≤ n ∧ i = .int .i64 k ∧ Held shG wr g g n n (xs.take k ++ List.replicate (n - k) ⟨0, 0, 0, 0, 0, 0, 0, ByteArray.empty⟩) ∧ Since w wr) (fun i _ => n - (intOf i).toNat)
  case atStart => exact ⟨0, by omega, rfl, by simpa using T0, S0⟩
  case round =>
    obtain ⟨k, hk, rfl, T, S⟩ := hrel
    have Rr := R.since S
    by_cases hlt : k < n
    · obtain ⟨x, rfl, hb, c0, c1, c2, c3, c4, c5, c6, c7⟩ := Rr.sgs k hlt
      have hto := fun wx => toSg (gAt xs k) wx
      unfold sgCells at hto
      generalize hO : gAt xs k = O at c0 c1 c2 c3 c4 c5 c6 c7 hto
      go_wp2_with (go_at_call 50; refine (hto _).mono ?_; rintro _ w2 ⟨rfl, g2⟩; have T2 := T.since g2; obtain ⟨d0, d1, d2, d3, d4, d5, d6, d7⟩ := Held.seg T2 k hlt; have f0 := T2.free (k * 8); have f1 := T2.free (k * 8 + 1); have f2 := T2.free (k * 8 + 2); have f3 := T2.free (k * 8 + 3); have f4 := T2.free (k * 8 + 4); have f5 := T2.free (k * 8 + 5); have f6 := T2.free (k * 8 + 6); have f7 := T2.free (k * 8 + 7))
      have hT := T2.setG k hlt O
      have e := shG.take_set xs n k R.len hlt
      rw [show shG.get xs k = O from hO, show shG.z = ⟨0, 0, 0, 0, 0, 0, 0, ByteArray.empty⟩ from rfl] at e
      rw [e] at hT
      go_roundw
      case rel => exact ⟨k + 1, by omega, by go_num, hT, (since_put1 (since_put1 (since_put1 (since_put1 (since_put1 (since_put1 (since_put1 (since_put1 (S.trans g2) (by omega) _ _) (by omega) _ _) (by omega) _ _) (by omega) _ _) (by omega) _ _) (by omega) _ _) (by omega) _ _) (by omega) _ _)⟩
      case measure => simp [intOf]; omega
    · have hkn : k = n := by omega
      subst hkn
      go_wp2
      go_ret
      refine ⟨g, rfl, ?_, S⟩
      have e : xs.take k ++ List.replicate (k - k) (⟨0, 0, 0, 0, 0, 0, 0, ByteArray.empty⟩ : Sg) = xs := by simp [List.take_of_length_le (Nat.le_of_eq R.len)]
      rw [e] at T
      exact T.raise (by omega)

theorem open_segs {H : Type} {enc : TypeId × Value → H} {W : World} {fuel : Nat} {c : Value} {x : DataW H × List MemPlace} (hf : DataW.trod enc Try.prog W 0 (fun _ => true) true fuel 50 [c] = some x) :
    ∃ (a : Option Addr) (n cap : Nat) (xs : List Sg), c = .slice a n cap ∧ Rd shG W a n xs ∧ ∀ i, i < n → (gAt xs i).d.size ≤ maxLen := by
  rcases open_slice Try.underlying50 hf with ⟨hcs, _⟩ | ⟨a, len, cap, m, n, D, Pl, hcs, hb, hl, hm, hmm, _, hx⟩
  · simp only [List.cons.injEq, and_true] at hcs
    exact ⟨none, 0, 0, [], hcs, ⟨rfl, Nat.zero_le _, fun i hi => by omega⟩, fun i hi => by omega⟩
  · simp only [List.cons.injEq, and_true] at hcs
    have hm' : m = cap := by simpa using hmm
    have ce : Try.prog.cellsOf 87 = 8 := by kernel_rfl
    have each : ∀ i, i < m → ∃ o : Sg, W.cell? (a.add (i * 8)) = some (.int .i64 o.fr) ∧ W.cell? (a.add (i * 8 + 1)) = some (.int .i64 o.tt) ∧ W.cell? (a.add (i * 8 + 2)) = some (.int .u32 o.sq) ∧ W.cell? (a.add (i * 8 + 3)) = some (.int .u32 o.ak) ∧ W.cell? (a.add (i * 8 + 4)) = some (.int .i64 o.fl) ∧ W.cell? (a.add (i * 8 + 5)) = some (.int .i64 o.wn) ∧ W.cell? (a.add (i * 8 + 6)) = some (.int .i64 o.ms) ∧ W.cell? (a.add (i * 8 + 7)) = some (.string o.d) ∧ o.d.size ≤ maxLen := by
      intro i hi
      obtain ⟨cs', h1, h2⟩ := hx i hi
      rw [ce] at h1
      obtain ⟨_, hlen, hcell⟩ := World.cells?_some h1
      obtain ⟨xs, k, hk, hxy, _, hxl, hg⟩ := DataW.trod_struct Try.underlying87 h2
      match xs, hxl, cs', hlen with
      | [y0, y1, y2, y3, y4, y5, y6, y7], _, [v0, v1, v2, v3, v4, v5, v6, v7], _ =>
        have ci : Try.prog.cellsOf 22 = 1 := by kernel_rfl
        have cj : Try.prog.cellsOf 9 = 1 := by kernel_rfl
        have ck : Try.prog.cellsOf 3 = 1 := by kernel_rfl
        have g0 := hg 0 _ rfl
        simp [ci, cj, ck] at g0
        obtain ⟨b0, e0, _, w0⟩ := DataW.trod_int Try.underlying3 g0
        have g1 := hg 1 _ rfl
        simp [ci, cj, ck] at g1
        obtain ⟨b1, e1, _, w1⟩ := DataW.trod_int Try.underlying3 g1
        have g2 := hg 2 _ rfl
        simp [ci, cj, ck] at g2
        obtain ⟨b2, e2, _, w2⟩ := DataW.trod_int Try.underlying22 g2
        have g3 := hg 3 _ rfl
        simp [ci, cj, ck] at g3
        obtain ⟨b3, e3, _, w3⟩ := DataW.trod_int Try.underlying22 g3
        have g4 := hg 4 _ rfl
        simp [ci, cj, ck] at g4
        obtain ⟨b4, e4, _, w4⟩ := DataW.trod_int Try.underlying3 g4
        have g5 := hg 5 _ rfl
        simp [ci, cj, ck] at g5
        obtain ⟨b5, e5, _, w5⟩ := DataW.trod_int Try.underlying3 g5
        have g6 := hg 6 _ rfl
        simp [ci, cj, ck] at g6
        obtain ⟨b6, e6, _, w6⟩ := DataW.trod_int Try.underlying3 g6
        have g7 := hg 7 _ rfl
        simp [ci, cj, ck] at g7
        obtain ⟨b7, e7, _, w7⟩ := DataW.trod_string Try.underlying9 g7
        simp only [List.cons.injEq, and_true] at e0 e1 e2 e3 e4 e5 e6 e7
        subst e0
        subst e1
        subst e2
        subst e3
        subst e4
        subst e5
        subst e6
        subst e7
        have q0 := hcell 0 (by omega)
        have q1 := hcell 1 (by omega)
        have q2 := hcell 2 (by omega)
        have q3 := hcell 3 (by omega)
        have q4 := hcell 4 (by omega)
        have q5 := hcell 5 (by omega)
        have q6 := hcell 6 (by omega)
        have q7 := hcell 7 (by omega)
        rw [add_add] at q0 q1 q2 q3 q4 q5 q6 q7
        exact ⟨⟨b0, b1, b2, b3, b4, b5, b6, b7⟩, by simpa using q0, by simpa using q1, by simpa using q2, by simpa using q3, by simpa using q4, by simpa using q5, by simpa using q6, by simpa using q7, w7⟩
    have : Inhabited Sg := ⟨sgZero⟩
    obtain ⟨q, hq⟩ := choose_lt each
    have e : ∀ i, i < len → gAt ((List.range len).map q) i = q i := fun i hi => by simp [gAt, Shape.get, List.getD, hi]
    refine ⟨some a, len, cap, (List.range len).map q, hcs, ⟨by simp, Nat.le_trans hl hm, fun i hi => ⟨a, rfl, ?_, fun j hj => ?_⟩⟩, fun i hi => ?_⟩
    · have hb2 := World.block_lt_of_cell? W _ (hq i (by omega)).1
      have hbl : (a.add (i * 8)).block = a.block := by unfold Addr.add; split <;> rfl
      omega
    · have h1 : shG.get ((List.range len).map q) i = q i := e i hi
      rw [h1]
      obtain ⟨q0, q1, q2, q3, q4, q5, q6, q7, _⟩ := hq i (by omega)
      match j, hj with
      | 0, _ => exact q0
      | 1, _ => exact q1
      | 2, _ => exact q2
      | 3, _ => exact q3
      | 4, _ => exact q4
      | 5, _ => exact q5
      | 6, _ => exact q6
      | 7, _ => exact q7
    · rw [e i hi]
      exact (hq i (by omega)).2.2.2.2.2.2.2.2
end Go.Proofs.Ytoadnhkbejnimaa
