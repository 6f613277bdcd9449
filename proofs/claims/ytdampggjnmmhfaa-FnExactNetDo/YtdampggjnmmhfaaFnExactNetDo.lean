/-
  Proved: at every net and every op impl.NetDo answers as spec.NetDo, writes into no argument, and its answer owns its memory (the law FnExactNetDo returns true, and its arguments read as before); no condition (of a net of more than 1048576 texts and bytes the law asks nothing).
-/
import Derived.Test.YtdampggjnmmhfaaRows
import Derived.Test.YtdampggjnmmhfaaNet
import Derived.Test.YtdampggjnmmhfaaNetDoLaw
import Derived.Test.YtdampggjnmmhfaaOpenNet
import Derived.Test.YtdampggjnmmhfaaDrawnStore
import Derived.WalkKit
import Derived.ProofKit
import Derived.OpenShut
import Derived.ShutString
import Derived.ChangeOld
import Derived.Below
import Derived.Carry
namespace Go.Proofs.Ytdampggjnmmhfaa.fnExactNetDo
open Go.ChangeShapes Go.WideShapes Go.ChangeAt Go.RowKit
open Go.ChangeMaps (open_string shut_string)
set_option linter.unusedVariables false

theorem own : ownKnob Try.prog.godebug = none := by kernel_rfl
theorem laidOut : laidOutB Try.prog = true := by kernel_rfl

set_option maxHeartbeats 4000000 in
theorem walk (a0 : Option Addr) (n0 c0 : Nat) (s0 : List ByteArray) (k1 a1 f1 t1 : Int) (w : World) (R0 : Reads w a0 n0 s0) (z0 : ∀ i, i < n0 → (txt s0 i).size ≤ maxLen) (x10 : (Lit.int .i64 k1).wf = true) (x11 : (Lit.int .i64 a1).wf = true) (x12 : (Lit.int .i64 f1).wf = true) (x13 : (Lit.int .i64 t1).wf = true) :
    Calls Try.prog 5 #[.agg #[.slice a0 n0 c0], .agg #[.int .i64 k1, .int .i64 a1, .int .i64 f1, .int .i64 t1]] w fun e w' => e = .returned (.bool true) ∧ Below w.heap.size w w' := by
  have G := ((Since.refl w).alloc (.cells #[.slice a0 n0 c0] 24)).alloc (.cells #[.int .i64 k1, .int .i64 a1, .int .i64 f1, .int .i64 t1] 35)
  have A := (Rec1.new w (.slice a0 n0 c0) 24).since ((Since.refl _).alloc (.cells #[.int .i64 k1, .int .i64 a1, .int .i64 f1, .int .i64 t1] 35))
  have O := Blk.new (w.alloc (.cells #[.slice a0 n0 c0] 24)) #[.int .i64 k1, .int .i64 a1, .int .i64 f1, .int .i64 t1] 35
  simp only [World.size_alloc] at O
  have hsz := szNet a0 n0 c0 s0 1048576 (by omega) (by omega) _ (R0.since G) z0
  obtain ⟨r, hr⟩ : ∃ r, Hid (r = netDo s0 k1 a1 f1 t1) := ⟨_, rfl⟩
  go_enter Try.func5, Try.ntmps5
  go_wp2_with (go_at_call 8; refine hsz.mono ?_; rintro _ w1 ⟨q, rfl, hq, hb, g1⟩; replace hb : Hid _ := hb; have z_A := g1.le; simp only [World.size_alloc] at z_A; replace G := G.trans g1; replace A := A.since g1; replace O := O.since g1; have cA := A.c0)
  · go_ret
    exact ⟨rfl, G⟩
  obtain ⟨hn, hs⟩ := hb.out (by omega)
  have hs' : ∀ i, i < n0 → (txt s0 i).size ≤ 1048576 := fun i hi => by have := hs i hi; omega
  clear hsz hb hs z0
  replace hs' : Hid _ := hs'
  have hrl : r.1.length ≤ n0 + 1 := by rw [hr.out, ← R0.len]; exact netDo_len _ _ _ _ _
  replace hrl : Hid _ := hrl
  refine wp_region_store (wb := w1) 10 (fun i x v => match i with
      | 0 => v = .agg #[.slice a0 n0 c0]
      | 1 => IsNet w1.heap.size n0 n0 s0 x v
      | 2 => v = .agg #[.int .i64 k1, .int .i64 a1, .int .i64 f1, .int .i64 t1]
      | 3 => v = .agg #[.int .i64 k1, .int .i64 a1, .int .i64 f1, .int .i64 t1]
      | 4 => IsDone w1.heap.size r x v
      | 5 => IsDone w1.heap.size r x v
      | 6 => SomeNet w1.heap.size r.1 x v
      | 7 => v = .string r.2.1
      | 8 => v = .bool r.2.2
      | 9 => IsBox w1.heap.size x v
      | 10 => True
      | 11 => v = .string r.2.1
      | 12 => v = .bool r.2.2
      | _ => True) (fun vals x => Stored w1.heap.size 9 6 vals x) (fun v => { tmps := #[Value.agg #[Value.slice a0 n0 c0], Value.agg #[Value.int IntKind.i64 k1, Value.int IntKind.i64 a1, Value.int IntKind.i64 f1, Value.int IntKind.i64 t1], Value.pointer (some ⟨w.heap.size, 0, none⟩), Value.pointer (some ⟨w.heap.size + 1, 0, none⟩), Value.bool false, Value.int IntKind.i64 q, v 9, v 11, v 12, undef, undef, undef, undef, undef, undef, undef, undef, undef, undef, Value.agg #[Value.slice a0 n0 c0], Value.int IntKind.i64 1048576, Value.int IntKind.i64 q, Value.int IntKind.i64 q, Value.bool (decide (q < 0)), v 5, v 0, v 1, v 2, v 3, v 4, v 6, v 7, v 8, undef, undef, undef, undef, undef, undef, undef, undef, undef, undef, undef, undef, undef, undef, undef, undef, undef, undef, undef, undef, undef, undef, undef, undef, undef, undef, undef, undef, undef, undef, undef, undef, undef, undef, undef, undef, undef, undef, undef, undef, undef, undef, undef, undef, undef, undef, undef, undef, undef, undef, undef, undef, undef, undef, undef, undef, undef, undef, undef, undef, undef, undef, undef, undef, undef, undef, undef, undef, undef, undef, undef, undef, undef, undef, undef, undef, undef, undef, undef, undef, undef, undef, undef, undef, undef, undef, undef, undef, undef, undef, undef, undef], defers := [] }) (by kernel_rfl) (by decide) (by kernel_rfl) (Since.refl _) (fun vals => by kernel_rfl) ?_ ?_ ?_ ?_ ?_ ?_ ?_
  case refine_1 =>
    intro j x x' v h1 h2
    match j, h2 with
    | 1, h2 => exact h2.since h1
    | 4, h2 => exact h2.since h1
    | 5, h2 => exact h2.since h1
    | 6, h2 => exact h2.since h1
    | 9, h2 => exact h2.since h1
    | 0, h2 | 2, h2 | 3, h2 | 7, h2 | 8, h2 | 10, h2 | 11, h2 | 12, h2 => exact h2
    | n + 13, _ => trivial
  case refine_2 => exact fun _ _ => trivial
  case refine_3 => exact fun _ _ _ h1 h2 => h2.since h1
  case refine_4 => exact fun _ _ _ h h2 => h2.congr (h _ rfl { on := 9, ground := .data } (by simp) rfl) (h _ rfl { on := 6, ground := .data } (by simp) rfl)
  case refine_5 =>
    repeat (first | exact eachBut_nil | refine eachBut_skip ?_ | refine eachBut_cons ?_ ?_)
    all_goals intro vals x hx hv
    all_goals simp [Region.binds] at hv
    · simp [does, doesUpon, go_sem, hv, Since.refl]
    · simp [does, doesUpon, go_sem, hv, Since.refl]
    · simp [does, doesUpon, go_sem]
      exact ⟨(Since.refl _).alloc _, IsBox.new hx.le⟩
    · obtain ⟨g, m, c, h1, T⟩ := hv
      simp [does, doesUpon, go_sem, h1, Since.refl]
    · obtain ⟨g, m, c, h1, T⟩ := hv
      simp [does, doesUpon, go_sem, h1, Since.refl]
    · obtain ⟨g, m, c, h1, T⟩ := hv
      simp [does, doesUpon, go_sem, h1, Since.refl]
      exact ⟨g, m, c, rfl, T⟩
    · obtain ⟨g, m, c, h1, T⟩ := hv
      simp [does, doesUpon, go_sem, h1, Since.refl]
      exact ⟨g, m, c, rfl, T⟩
    · obtain ⟨⟨g, h1, T⟩, h3⟩ := hv
      simp [does, doesUpon, go_sem, h1, h3]
      refine (specNetDo _ g n0 n0 s0 k1 a1 f1 t1 (by omega) _ T).mono ?_
      rintro _ x' ⟨g, m, c, rfl, T', h5⟩
      rw [← hr.out] at T' ⊢
      exact ⟨_, rfl, h5, g, m, c, rfl, T'.mono hx.le⟩
    · simp [does, doesUpon, go_sem, hv]
      refine (toNetOp k1 a1 f1 t1 _).mono ?_
      rintro _ x' ⟨rfl, h1⟩
      simp [h1]
    · have Ox := O.since hx
      have o0 : x.cell? ⟨w.heap.size + 1, 0, none⟩ = some (.int .i64 k1) := Ox.cell 0
      have o1 : x.cell? ⟨w.heap.size + 1, 1, none⟩ = some (.int .i64 a1) := Ox.cell 1
      have o2 : x.cell? ⟨w.heap.size + 1, 2, none⟩ = some (.int .i64 f1) := Ox.cell 2
      have o3 : x.cell? ⟨w.heap.size + 1, 3, none⟩ = some (.int .i64 t1) := Ox.cell 3
      simp [does, doesUpon, go_sem, o0, o1, o2, o3, Since.refl]
    · simp [does, doesUpon, go_sem, hv]
      refine (toNet a0 n0 c0 s0 (by omega) _ (R0.since (G.trans hx))).mono ?_
      rintro _ x' ⟨g, rfl, T, h1⟩
      exact ⟨_, rfl, h1, g, rfl, T.mono hx.le⟩
    · simp [does, doesUpon, go_sem, (A.since hx).c0, Since.refl]
  case refine_6 =>
    intro o ho vals x hx hv
    obtain rfl := Option.some.inj ho
    simp [Region.binds] at hv
    have hpb : IsBox w1.heap.size x (vals 9) := by first | exact hv.1 | exact hv.2.1 | exact hv.2.2.1
    have hqb : SomeNet w1.heap.size r.1 x (vals 6) := by first | exact hv.2.1 | exact hv.1 | exact hv.2.2.1
    obtain ⟨b, u, h9, lb, hb⟩ := hpb
    obtain ⟨g, m, c, h6, T⟩ := hqb
    have hc := (Rec1.of_heap hb).c0
    have hf := (Rec1.of_heap hb).fz 0
    simp [does, doesUpon, go_sem, h9, h6, hc, hf]
    refine ⟨since_put1 hx lb 0 _, ?_, ⟨b, _, h9, h6, lb, box_put hb⟩⟩
    intro j v h2
    match j, h2 with
    | 1, h2 => exact h2.put hb
    | 4, h2 => exact h2.put hb
    | 5, h2 => exact h2.put hb
    | 6, h2 => exact h2.put hb
    | 9, h2 => exact h2.put hb
    | 0, h2 | 2, h2 | 3, h2 | 7, h2 | 8, h2 | 10, h2 | 11, h2 | 12, h2 => exact h2
    | n + 13, _ => trivial
  intro vals w3 k_w3 hv hS
  have h0 : vals 0 = _ := hv 0 (by decide)
  have h1 : IsNet w1.heap.size n0 n0 s0 w3 (vals 1) := hv 1 (by decide)
  obtain ⟨gq_w3, h1, _⟩ := h1
  have h2 : vals 2 = _ := hv 2 (by decide)
  have h3 : vals 3 = _ := hv 3 (by decide)
  have h4 : IsDone w1.heap.size r w3 (vals 4) := hv 4 (by decide)
  obtain ⟨ga_w3, ma_w3, ca_w3, h4, _⟩ := h4
  have h5 : IsDone w1.heap.size r w3 (vals 5) := hv 5 (by decide)
  obtain ⟨gb_w3, mb_w3, cb_w3, h5, _⟩ := h5
  have h6 : SomeNet w1.heap.size r.1 w3 (vals 6) := hv 6 (by decide)
  obtain ⟨g_Tw, m_Tw, c_Tw, h6, Tw⟩ := h6
  have h7 : vals 7 = _ := hv 7 (by decide)
  have h8 : vals 8 = _ := hv 8 (by decide)
  have h11 : vals 11 = _ := hv 11 (by decide)
  have h12 : vals 12 = _ := hv 12 (by decide)
  obtain ⟨b_V, u_V, h9, hu_V, lb_V, hb_V⟩ := hS
  rw [h6] at hu_V
  obtain rfl : u_V = .slice (some ⟨g_Tw, 0, none⟩) m_Tw c_Tw := by simpa using hu_V.symm
  clear hv hu_V
  simp only [h0, h1, h2, h3, h4, h5, h6, h7, h8, h9, h11, h12]
  clear h0 h1 h2 h3 h4 h5 h6 h7 h8 h9 h11 h12
  have l_Tw := Tw.len
  have z_k_w3 := k_w3.le
  try simp only [World.size_alloc] at z_k_w3
  replace G := G.trans k_w3
  replace A := A.since k_w3
  replace O := O.since k_w3
  have V := Rec1.of_heap hb_V
  have ub_V := V.lt
  have ne_V := Tw.ne_box hb_V
  have lo_Tw := Tw.low
  try simp only [World.size_alloc] at lo_Tw
  have hi_Tw := Tw.lt
  replace cA := A.c0
  have cV := V.c0
  have o0 : World.cell? _ ⟨w.heap.size + 1, 0, none⟩ = some (.int .i64 k1) := O.cell 0
  have o1 : World.cell? _ ⟨w.heap.size + 1, 1, none⟩ = some (.int .i64 a1) := O.cell 1
  have o2 : World.cell? _ ⟨w.heap.size + 1, 2, none⟩ = some (.int .i64 f1) := O.cell 2
  have o3 : World.cell? _ ⟨w.heap.size + 1, 3, none⟩ = some (.int .i64 t1) := O.cell 3
  go_wp2_with (fail)
  refine (toNet a0 n0 c0 s0 (by omega) _ (R0.since G)).mono ?_
  rintro _ w5 ⟨gx, rfl, Tx, k5⟩
  have z_k5 := k5.le
  try simp only [World.size_alloc] at z_k5
  replace G := G.trans k5
  replace A := A.since k5
  replace O := O.since k5
  replace V := V.since k5
  replace Tw := Tw.since k5
  have lo_Tx := Tx.low
  try simp only [World.size_alloc] at lo_Tx
  have hi_Tx := Tx.lt
  have X := Rec1.new w5 (.slice (some ⟨gx, 0, none⟩) n0 n0) 27
  have k_X := (Since.refl w5).alloc (.cells #[.slice (some ⟨gx, 0, none⟩) n0 n0] 27)
  have z_k_X := k_X.le
  try simp only [World.size_alloc] at z_k_X
  replace G := G.trans k_X
  replace A := A.since k_X
  replace O := O.since k_X
  replace V := V.since k_X
  replace Tw := Tw.since k_X
  replace Tx := Tx.since k_X
  replace cA := A.c0
  replace cV := V.c0
  have cX := X.c0
  replace o0 : World.cell? _ ⟨w.heap.size + 1, 0, none⟩ = some (.int .i64 k1) := O.cell 0
  replace o1 : World.cell? _ ⟨w.heap.size + 1, 1, none⟩ = some (.int .i64 a1) := O.cell 1
  replace o2 : World.cell? _ ⟨w.heap.size + 1, 2, none⟩ = some (.int .i64 f1) := O.cell 2
  replace o3 : World.cell? _ ⟨w.heap.size + 1, 3, none⟩ = some (.int .i64 t1) := O.cell 3
  go_wp2_with (fail)
  have uX := X.lt
  simp only [World.size_alloc] at uX
  generalize hW6 : w5.alloc (.cells #[.slice (some ⟨gx, 0, none⟩) n0 n0] 27) = w6 at G A O V X Tw Tx cA cV cX o0 o1 o2 o3 ⊢
  have s6 : w6.heap.size = w5.heap.size + 1 := by rw [← hW6]; simp
  clear hW6 k_X
  refine wp_region_store (wb := w6) 9 (fun i x v => match i with
      | 0 => v = .agg #[.slice (some ⟨gx, 0, none⟩) n0 n0]
      | 1 => v = .agg #[.int .i64 k1, .int .i64 a1, .int .i64 f1, .int .i64 t1]
      | 2 => v = .agg #[.int .i64 k1, .int .i64 a1, .int .i64 f1, .int .i64 t1]
      | 3 => IsDone w6.heap.size r x v
      | 4 => IsDone w6.heap.size r x v
      | 5 => SomeNet w6.heap.size r.1 x v
      | 6 => v = .string r.2.1
      | 7 => v = .bool r.2.2
      | 8 => IsBox w6.heap.size x v
      | 9 => True
      | 10 => v = .string r.2.1
      | 11 => v = .bool r.2.2
      | _ => True) (fun vals x => Stored w6.heap.size 8 5 vals x) (fun v => { tmps := #[Value.agg #[Value.slice a0 n0 c0], Value.agg #[Value.int IntKind.i64 k1, Value.int IntKind.i64 a1, Value.int IntKind.i64 f1, Value.int IntKind.i64 t1], Value.pointer (some ⟨w.heap.size, 0, none⟩), Value.pointer (some ⟨w.heap.size + 1, 0, none⟩), Value.bool false, Value.int IntKind.i64 q, Value.pointer (some ⟨b_V, 0, none⟩), Value.string r.snd.fst, Value.bool r.snd.snd, Value.pointer (some ⟨w5.heap.size, 0, none⟩), v 8, v 10, v 11, undef, undef, undef, undef, undef, undef, Value.agg #[Value.slice a0 n0 c0], Value.int IntKind.i64 1048576, Value.int IntKind.i64 q, Value.int IntKind.i64 q, Value.bool (decide (q < 0)), Value.tuple #[Value.agg #[Value.slice (some ⟨gb_w3, 0, none⟩) mb_w3 cb_w3], Value.string r.snd.fst, Value.bool r.snd.snd], Value.agg #[Value.slice a0 n0 c0], Value.agg #[Value.slice (some ⟨gq_w3, 0, none⟩) n0 n0], Value.agg #[Value.int IntKind.i64 k1, Value.int IntKind.i64 a1, Value.int IntKind.i64 f1, Value.int IntKind.i64 t1], Value.agg #[Value.int IntKind.i64 k1, Value.int IntKind.i64 a1, Value.int IntKind.i64 f1, Value.int IntKind.i64 t1], Value.tuple #[Value.agg #[Value.slice (some ⟨ga_w3, 0, none⟩) ma_w3 ca_w3], Value.string r.snd.fst, Value.bool r.snd.snd], Value.agg #[Value.slice (some ⟨g_Tw, 0, none⟩) m_Tw c_Tw], Value.string r.snd.fst, Value.bool r.snd.snd, Value.agg #[Value.slice a0 n0 c0], Value.agg #[Value.slice (some ⟨gx, 0, none⟩) n0 n0], v 4, v 0, v 1, v 2, v 3, v 5, v 6, v 7, undef, undef, undef, undef, undef, undef, undef, undef, undef, undef, undef, undef, undef, undef, undef, undef, undef, undef, undef, undef, undef, undef, undef, undef, undef, undef, undef, undef, undef, undef, undef, undef, undef, undef, undef, undef, undef, undef, undef, undef, undef, undef, undef, undef, undef, undef, undef, undef, undef, undef, undef, undef, undef, undef, undef, undef, undef, undef, undef, undef, undef, undef, undef, undef, undef, undef, undef, undef, undef, undef, undef, undef, undef, undef, undef, undef, undef, undef, undef, undef, undef, undef], defers := [] }) (by kernel_rfl) (by decide) (by kernel_rfl) (Since.refl _) (fun vals => by kernel_rfl) ?_ ?_ ?_ ?_ ?_ ?_ ?_
  case refine_1 =>
    intro j x x' v h1 h2
    match j, h2 with
    | 3, h2 => exact h2.since h1
    | 4, h2 => exact h2.since h1
    | 5, h2 => exact h2.since h1
    | 8, h2 => exact h2.since h1
    | 0, h2 | 1, h2 | 2, h2 | 6, h2 | 7, h2 | 9, h2 | 10, h2 | 11, h2 => exact h2
    | n + 12, _ => trivial
  case refine_2 => exact fun _ _ => trivial
  case refine_3 => exact fun _ _ _ h1 h2 => h2.since h1
  case refine_4 => exact fun _ _ _ h h2 => h2.congr (h _ rfl { on := 8, ground := .data } (by simp) rfl) (h _ rfl { on := 5, ground := .data } (by simp) rfl)
  case refine_5 =>
    repeat (first | exact eachBut_nil | refine eachBut_skip ?_ | refine eachBut_cons ?_ ?_)
    all_goals intro vals x hx hv
    all_goals simp [Region.binds] at hv
    · simp [does, doesUpon, go_sem, hv, Since.refl]
    · simp [does, doesUpon, go_sem, hv, Since.refl]
    · simp [does, doesUpon, go_sem]
      exact ⟨(Since.refl _).alloc _, IsBox.new hx.le⟩
    · obtain ⟨g, m, c, h1, T⟩ := hv
      simp [does, doesUpon, go_sem, h1, Since.refl]
    · obtain ⟨g, m, c, h1, T⟩ := hv
      simp [does, doesUpon, go_sem, h1, Since.refl]
    · obtain ⟨g, m, c, h1, T⟩ := hv
      simp [does, doesUpon, go_sem, h1, Since.refl]
      exact ⟨g, m, c, rfl, T⟩
    · obtain ⟨g, m, c, h1, T⟩ := hv
      simp [does, doesUpon, go_sem, h1, Since.refl]
      exact ⟨g, m, c, rfl, T⟩
    · obtain ⟨h0, h3⟩ := hv
      simp [does, doesUpon, go_sem, h0, h3]
      have Tq := Tx.since hx
      refine (implNetDo _ n0 n0 s0 k1 a1 f1 t1 (by omega) hs'.out _ Tq.reads (fun wx h => implNetOk gx n0 n0 s0 _ wx (Tq.since h))).mono ?_
      rintro _ x' ⟨g, m, c, rfl, T', h5⟩
      rw [← hr.out] at T' ⊢
      exact ⟨_, rfl, h5, g, m, c, rfl, T'.mono hx.le⟩
    · simp [does, doesUpon, go_sem, hv]
      refine (toNetOp k1 a1 f1 t1 _).mono ?_
      rintro _ x' ⟨rfl, h1⟩
      simp [h1]
    · have Ox := O.since hx
      have o0 : x.cell? ⟨w.heap.size + 1, 0, none⟩ = some (.int .i64 k1) := Ox.cell 0
      have o1 : x.cell? ⟨w.heap.size + 1, 1, none⟩ = some (.int .i64 a1) := Ox.cell 1
      have o2 : x.cell? ⟨w.heap.size + 1, 2, none⟩ = some (.int .i64 f1) := Ox.cell 2
      have o3 : x.cell? ⟨w.heap.size + 1, 3, none⟩ = some (.int .i64 t1) := Ox.cell 3
      simp [does, doesUpon, go_sem, o0, o1, o2, o3, Since.refl]
    · simp [does, doesUpon, go_sem, (X.since hx).c0, Since.refl]
  case refine_6 =>
    intro o ho vals x hx hv
    obtain rfl := Option.some.inj ho
    simp [Region.binds] at hv
    have hpb : IsBox w6.heap.size x (vals 8) := by first | exact hv.1 | exact hv.2.1 | exact hv.2.2.1
    have hqb : SomeNet w6.heap.size r.1 x (vals 5) := by first | exact hv.2.1 | exact hv.1 | exact hv.2.2.1
    obtain ⟨b, u, h9, lb, hb⟩ := hpb
    obtain ⟨g, m, c, h6, T⟩ := hqb
    have hc := (Rec1.of_heap hb).c0
    have hf := (Rec1.of_heap hb).fz 0
    simp [does, doesUpon, go_sem, h9, h6, hc, hf]
    refine ⟨since_put1 hx lb 0 _, ?_, ⟨b, _, h9, h6, lb, box_put hb⟩⟩
    intro j v h2
    match j, h2 with
    | 3, h2 => exact h2.put hb
    | 4, h2 => exact h2.put hb
    | 5, h2 => exact h2.put hb
    | 8, h2 => exact h2.put hb
    | 0, h2 | 1, h2 | 2, h2 | 6, h2 | 7, h2 | 9, h2 | 10, h2 | 11, h2 => exact h2
    | n + 12, _ => trivial
  intro vals w7 k_w7 hv hS
  have h0 : vals 0 = _ := hv 0 (by decide)
  have h1 : vals 1 = _ := hv 1 (by decide)
  have h2 : vals 2 = _ := hv 2 (by decide)
  have h3 : IsDone w6.heap.size r w7 (vals 3) := hv 3 (by decide)
  obtain ⟨ga_w7, ma_w7, ca_w7, h3, _⟩ := h3
  have h4 : IsDone w6.heap.size r w7 (vals 4) := hv 4 (by decide)
  obtain ⟨gb_w7, mb_w7, cb_w7, h4, _⟩ := h4
  have h5 : SomeNet w6.heap.size r.1 w7 (vals 5) := hv 5 (by decide)
  obtain ⟨g_Tg, m_Tg, c_Tg, h5, Tg⟩ := h5
  have h6 : vals 6 = _ := hv 6 (by decide)
  have h7 : vals 7 = _ := hv 7 (by decide)
  have h10 : vals 10 = _ := hv 10 (by decide)
  have h11 : vals 11 = _ := hv 11 (by decide)
  obtain ⟨b_Y, u_Y, h8, hu_Y, lb_Y, hb_Y⟩ := hS
  rw [h5] at hu_Y
  obtain rfl : u_Y = .slice (some ⟨g_Tg, 0, none⟩) m_Tg c_Tg := by simpa using hu_Y.symm
  clear hv hu_Y
  simp only [h0, h1, h2, h3, h4, h5, h6, h7, h8, h10, h11]
  clear h0 h1 h2 h3 h4 h5 h6 h7 h8 h10 h11
  have l_Tg := Tg.len
  have z_k_w7 := k_w7.le
  try simp only [World.size_alloc] at z_k_w7
  replace G := G.trans k_w7
  replace A := A.since k_w7
  replace O := O.since k_w7
  replace V := V.since k_w7
  replace X := X.since k_w7
  replace Tw := Tw.since k_w7
  replace Tx := Tx.since k_w7
  have Y := Rec1.of_heap hb_Y
  have ub_Y := Y.lt
  have ne_Y := Tg.ne_box hb_Y
  have lo_Tg := Tg.low
  try simp only [World.size_alloc] at lo_Tg
  have hi_Tg := Tg.lt
  have hmg : m_Tg ≤ 1048577 := by have := hrl.out; omega
  replace cA := A.c0
  replace cV := V.c0
  replace cX := X.c0
  have cY := Y.c0
  go_wp2_with (fail)
  refine (eqNet _ _ m_Tg m_Tw c_Tg c_Tw _ _ _ Tg.reads Tw.reads).mono ?_
  rw [decide_eq_true rfl]
  rintro _ w9 ⟨rfl, k9⟩
  have z_k9 := k9.le
  try simp only [World.size_alloc] at z_k9
  replace G := G.trans k9
  replace A := A.since k9
  replace O := O.since k9
  replace V := V.since k9
  replace X := X.since k9
  replace Y := Y.since k9
  replace Tw := Tw.since k9
  replace Tx := Tx.since k9
  replace Tg := Tg.since k9
  replace cA := A.c0
  replace cV := V.c0
  replace cX := X.c0
  replace cY := Y.c0
  go_wp2_with (fail)
  refine wp_region_each (wb := w9) (fun i x v => match i with
      | 0 => v = .agg #[.slice (some ⟨gx, 0, none⟩) n0 n0]
      | 1 => v = .agg #[.slice a0 n0 c0]
      | 2 => IsNet 0 n0 n0 s0 x v
      | 3 => v = .bool true
      | 4 => v = .bool false
      | _ => True) (fun v => { tmps := #[Value.agg #[Value.slice a0 n0 c0], Value.agg #[Value.int IntKind.i64 k1, Value.int IntKind.i64 a1, Value.int IntKind.i64 f1, Value.int IntKind.i64 t1], Value.pointer (some ⟨w.heap.size, 0, none⟩), Value.pointer (some ⟨w.heap.size + 1, 0, none⟩), Value.bool false, Value.int IntKind.i64 q, Value.pointer (some ⟨b_V, 0, none⟩), Value.string r.snd.fst, Value.bool r.snd.snd, Value.pointer (some ⟨w5.heap.size, 0, none⟩), Value.pointer (some ⟨b_Y, 0, none⟩), Value.string r.snd.fst, Value.bool r.snd.snd, undef, undef, undef, undef, undef, undef, Value.agg #[Value.slice a0 n0 c0], Value.int IntKind.i64 1048576, Value.int IntKind.i64 q, Value.int IntKind.i64 q, Value.bool (decide (q < 0)), Value.tuple #[Value.agg #[Value.slice (some ⟨gb_w3, 0, none⟩) mb_w3 cb_w3], Value.string r.snd.fst, Value.bool r.snd.snd], Value.agg #[Value.slice a0 n0 c0], Value.agg #[Value.slice (some ⟨gq_w3, 0, none⟩) n0 n0], Value.agg #[Value.int IntKind.i64 k1, Value.int IntKind.i64 a1, Value.int IntKind.i64 f1, Value.int IntKind.i64 t1], Value.agg #[Value.int IntKind.i64 k1, Value.int IntKind.i64 a1, Value.int IntKind.i64 f1, Value.int IntKind.i64 t1], Value.tuple #[Value.agg #[Value.slice (some ⟨ga_w3, 0, none⟩) ma_w3 ca_w3], Value.string r.snd.fst, Value.bool r.snd.snd], Value.agg #[Value.slice (some ⟨g_Tw, 0, none⟩) m_Tw c_Tw], Value.string r.snd.fst, Value.bool r.snd.snd, Value.agg #[Value.slice a0 n0 c0], Value.agg #[Value.slice (some ⟨gx, 0, none⟩) n0 n0], Value.tuple #[Value.agg #[Value.slice (some ⟨gb_w7, 0, none⟩) mb_w7 cb_w7], Value.string r.snd.fst, Value.bool r.snd.snd], Value.agg #[Value.slice (some ⟨gx, 0, none⟩) n0 n0], Value.agg #[Value.int IntKind.i64 k1, Value.int IntKind.i64 a1, Value.int IntKind.i64 f1, Value.int IntKind.i64 t1], Value.agg #[Value.int IntKind.i64 k1, Value.int IntKind.i64 a1, Value.int IntKind.i64 f1, Value.int IntKind.i64 t1], Value.tuple #[Value.agg #[Value.slice (some ⟨ga_w7, 0, none⟩) ma_w7 ca_w7], Value.string r.snd.fst, Value.bool r.snd.snd], Value.agg #[Value.slice (some ⟨g_Tg, 0, none⟩) m_Tg c_Tg], Value.string r.snd.fst, Value.bool r.snd.snd, Value.agg #[Value.slice (some ⟨g_Tg, 0, none⟩) m_Tg c_Tg], Value.agg #[Value.slice (some ⟨g_Tw, 0, none⟩) m_Tw c_Tw], Value.bool true, Value.bool false, Value.bool false, Value.string r.snd.fst, Value.string r.snd.fst, Value.bool false, Value.bool false, Value.bool false, Value.bool r.snd.snd, Value.bool r.snd.snd, Value.bool false, Value.bool false, v 0, v 1, v 2, v 3, v 4, undef, undef, undef, undef, undef, undef, undef, undef, undef, undef, undef, undef, undef, undef, undef, undef, undef, undef, undef, undef, undef, undef, undef, undef, undef, undef, undef, undef, undef, undef, undef, undef, undef, undef, undef, undef, undef, undef, undef, undef, undef, undef, undef, undef, undef, undef, undef, undef, undef, undef, undef, undef, undef, undef, undef, undef, undef, undef, undef, undef, undef, undef, undef], defers := [] }) (by kernel_rfl) (by kernel_rfl) (Since.refl _) ?_ (fun vals => by kernel_rfl) ?_ ?_
  case refine_1 =>
    intro j x x' v h1 h2
    match j, h2 with
    | 2, h2 => exact h2.since h1
    | 0, h2 | 1, h2 | 3, h2 | 4, h2 => exact h2
    | n + 5, _ => trivial
  case refine_2 =>
    repeat (first | exact eachDoes_nil | refine eachDoes_cons ?_ ?_)
    all_goals intro vals x hx hv
    all_goals simp [Region.binds] at hv
    · simp [does, doesUpon, go_sem, hv, Since.refl]
    · obtain ⟨h0, g, h2, T⟩ := hv
      simp [does, doesUpon, go_sem, h0, h2]
      refine (eqNet _ _ n0 n0 n0 n0 s0 s0 _ (Tx.since hx).reads T.reads).mono ?_
      rintro _ x' ⟨rfl, h1⟩
      simp [h1]
    · simp [does, doesUpon, go_sem, hv]
      refine (toNet a0 n0 c0 s0 (by omega) _ (R0.since (G.trans hx))).mono ?_
      rintro _ x' ⟨g, rfl, T, h1⟩
      exact ⟨_, rfl, h1, g, rfl, T.mono (Nat.zero_le _)⟩
    · simp [does, doesUpon, go_sem, (A.since hx).c0, Since.refl]
    · simp [does, doesUpon, go_sem, (X.since hx).c0, Since.refl]
  intro vals w10 k10 hv
  have h4 : vals 4 = _ := hv 4 (by decide)
  clear hv
  simp only [h4]
  clear h4
  have z_k10 := k10.le
  try simp only [World.size_alloc] at z_k10
  replace G := G.trans k10
  replace A := A.since k10
  replace O := O.since k10
  replace V := V.since k10
  replace X := X.since k10
  replace Y := Y.since k10
  replace Tw := Tw.since k10
  replace Tx := Tx.since k10
  replace Tg := Tg.since k10
  replace cA := A.c0
  replace cV := V.c0
  replace cX := X.c0
  replace cY := Y.c0
  go_wp2_with (fail)
  refine (markNet _ gx n0 n0 s0 1 (by omega) (by omega) _ Tx).mono ?_
  rintro _ w11 ⟨rfl, t11, ms, hM, Tx1⟩
  clear hM
  have z_t11 := t11.le
  try simp only [World.size_alloc] at z_t11
  replace G := G.touch t11 (by omega)
  replace A := A.touch t11 (by omega)
  replace O := O.touch t11 (by omega)
  replace V := V.touch t11 (by omega)
  replace X := X.touch t11 (by omega)
  replace Y := Y.touch t11 (by omega)
  replace Tw := Tw.touch t11 (by omega)
  replace Tg := Tg.touch t11 (by omega)
  clear Tx
  have Tx := Tx1
  clear Tx1
  replace cA := A.c0
  replace cV := V.c0
  replace cX := X.c0
  replace cY := Y.c0
  have hq1 : ¬ (1 : Int) + (n0 : Int) < 0 := by omega
  go_wp2_with (fail)
  refine (eqNet _ _ m_Tg m_Tw c_Tg c_Tw _ _ _ Tg.reads Tw.reads).mono ?_
  rw [decide_eq_true rfl]
  rintro _ w12 ⟨rfl, k12⟩
  have z_k12 := k12.le
  try simp only [World.size_alloc] at z_k12
  replace G := G.trans k12
  replace A := A.since k12
  replace O := O.since k12
  replace V := V.since k12
  replace X := X.since k12
  replace Y := Y.since k12
  replace Tw := Tw.since k12
  replace Tx := Tx.since k12
  replace Tg := Tg.since k12
  replace cA := A.c0
  replace cV := V.c0
  replace cX := X.c0
  replace cY := Y.c0
  go_wp2_with (fail)
  refine (markNet _ g_Tg m_Tg c_Tg _ 1 (by omega) (by omega) _ Tg).mono ?_
  rintro _ w13 ⟨rfl, t13, mg, hM, Tg1⟩
  replace hM : Hid _ := hM
  have z_t13 := t13.le
  try simp only [World.size_alloc] at z_t13
  replace G := G.touch t13 (by omega)
  replace A := A.touch t13 (by omega)
  replace O := O.touch t13 (by omega)
  replace V := V.touch t13 (by omega)
  replace X := X.touch t13 (by omega)
  replace Y := Y.touch t13 (by omega)
  replace Tw := Tw.touch t13 (by omega)
  replace Tx := Tx.touch t13 (by omega)
  clear Tg
  have Tg := Tg1
  clear Tg1
  replace cA := A.c0
  replace cV := V.c0
  replace cX := X.c0
  replace cY := Y.c0
  have hq2 : ¬ (1 : Int) + (m_Tg : Int) < 0 := by omega
  go_wp2_with (fail)
  refine (heldNet _ m_Tg c_Tg mg 1 (by omega) (by omega) _ Tg.reads hM.out).mono ?_
  rintro _ w14 ⟨rfl, k14⟩
  have z_k14 := k14.le
  try simp only [World.size_alloc] at z_k14
  replace G := G.trans k14
  replace A := A.since k14
  replace O := O.since k14
  replace V := V.since k14
  replace X := X.since k14
  replace Y := Y.since k14
  replace Tw := Tw.since k14
  replace Tx := Tx.since k14
  replace Tg := Tg.since k14
  replace cA := A.c0
  replace cV := V.c0
  replace cX := X.c0
  replace cY := Y.c0
  replace o0 : World.cell? _ ⟨w.heap.size + 1, 0, none⟩ = some (.int .i64 k1) := O.cell 0
  replace o1 : World.cell? _ ⟨w.heap.size + 1, 1, none⟩ = some (.int .i64 a1) := O.cell 1
  replace o2 : World.cell? _ ⟨w.heap.size + 1, 2, none⟩ = some (.int .i64 f1) := O.cell 2
  replace o3 : World.cell? _ ⟨w.heap.size + 1, 3, none⟩ = some (.int .i64 t1) := O.cell 3
  go_wp2_with (fail)
  refine wp_region_store (wb := w14) 10 (fun i x v => match i with
      | 0 => v = .agg #[.slice a0 n0 c0]
      | 1 => IsNet w14.heap.size n0 n0 s0 x v
      | 2 => v = .agg #[.int .i64 k1, .int .i64 a1, .int .i64 f1, .int .i64 t1]
      | 3 => v = .agg #[.int .i64 k1, .int .i64 a1, .int .i64 f1, .int .i64 t1]
      | 4 => IsDone w14.heap.size r x v
      | 5 => IsDone w14.heap.size r x v
      | 6 => SomeNet w14.heap.size r.1 x v
      | 7 => v = .string r.2.1
      | 8 => v = .bool r.2.2
      | 9 => IsBox w14.heap.size x v
      | 10 => True
      | 11 => v = .string r.2.1
      | 12 => v = .bool r.2.2
      | _ => True) (fun vals x => Stored w14.heap.size 9 6 vals x) (fun v => { tmps := #[Value.agg #[Value.slice a0 n0 c0], Value.agg #[Value.int IntKind.i64 k1, Value.int IntKind.i64 a1, Value.int IntKind.i64 f1, Value.int IntKind.i64 t1], Value.pointer (some ⟨w.heap.size, 0, none⟩), Value.pointer (some ⟨w.heap.size + 1, 0, none⟩), Value.bool false, Value.int IntKind.i64 q, Value.pointer (some ⟨b_V, 0, none⟩), Value.string r.snd.fst, Value.bool r.snd.snd, Value.pointer (some ⟨w5.heap.size, 0, none⟩), Value.pointer (some ⟨b_Y, 0, none⟩), Value.string r.snd.fst, Value.bool r.snd.snd, Value.int IntKind.i64 (1 + n0), Value.int IntKind.i64 (1 + m_Tg), Value.int IntKind.i64 (1 + m_Tg), v 9, v 11, v 12, Value.agg #[Value.slice a0 n0 c0], Value.int IntKind.i64 1048576, Value.int IntKind.i64 q, Value.int IntKind.i64 q, Value.bool (decide (q < 0)), Value.tuple #[Value.agg #[Value.slice (some ⟨gb_w3, 0, none⟩) mb_w3 cb_w3], Value.string r.snd.fst, Value.bool r.snd.snd], Value.agg #[Value.slice a0 n0 c0], Value.agg #[Value.slice (some ⟨gq_w3, 0, none⟩) n0 n0], Value.agg #[Value.int IntKind.i64 k1, Value.int IntKind.i64 a1, Value.int IntKind.i64 f1, Value.int IntKind.i64 t1], Value.agg #[Value.int IntKind.i64 k1, Value.int IntKind.i64 a1, Value.int IntKind.i64 f1, Value.int IntKind.i64 t1], Value.tuple #[Value.agg #[Value.slice (some ⟨ga_w3, 0, none⟩) ma_w3 ca_w3], Value.string r.snd.fst, Value.bool r.snd.snd], Value.agg #[Value.slice (some ⟨g_Tw, 0, none⟩) m_Tw c_Tw], Value.string r.snd.fst, Value.bool r.snd.snd, Value.agg #[Value.slice a0 n0 c0], Value.agg #[Value.slice (some ⟨gx, 0, none⟩) n0 n0], Value.tuple #[Value.agg #[Value.slice (some ⟨gb_w7, 0, none⟩) mb_w7 cb_w7], Value.string r.snd.fst, Value.bool r.snd.snd], Value.agg #[Value.slice (some ⟨gx, 0, none⟩) n0 n0], Value.agg #[Value.int IntKind.i64 k1, Value.int IntKind.i64 a1, Value.int IntKind.i64 f1, Value.int IntKind.i64 t1], Value.agg #[Value.int IntKind.i64 k1, Value.int IntKind.i64 a1, Value.int IntKind.i64 f1, Value.int IntKind.i64 t1], Value.tuple #[Value.agg #[Value.slice (some ⟨ga_w7, 0, none⟩) ma_w7 ca_w7], Value.string r.snd.fst, Value.bool r.snd.snd], Value.agg #[Value.slice (some ⟨g_Tg, 0, none⟩) m_Tg c_Tg], Value.string r.snd.fst, Value.bool r.snd.snd, Value.agg #[Value.slice (some ⟨g_Tg, 0, none⟩) m_Tg c_Tg], Value.agg #[Value.slice (some ⟨g_Tw, 0, none⟩) m_Tw c_Tw], Value.bool true, Value.bool false, Value.bool false, Value.string r.snd.fst, Value.string r.snd.fst, Value.bool false, Value.bool false, Value.bool false, Value.bool r.snd.snd, Value.bool r.snd.snd, Value.bool false, Value.bool false, vals 0, vals 1, vals 2, vals 3, Value.bool false, Value.agg #[Value.slice (some ⟨gx, 0, none⟩) n0 n0], Value.int IntKind.i64 1, Value.int IntKind.i64 (1 + n0), Value.int IntKind.i64 (1 + n0), Value.bool (decide (1 + n0 < 0)), Value.bool (decide (1 + n0 < 0)), Value.agg #[Value.slice (some ⟨g_Tg, 0, none⟩) m_Tg c_Tg], Value.agg #[Value.slice (some ⟨g_Tw, 0, none⟩) m_Tw c_Tw], Value.bool true, Value.bool false, Value.bool (decide (1 + n0 < 0)), Value.bool (decide (1 + n0 < 0)), Value.string r.snd.fst, Value.string r.snd.fst, Value.bool false, Value.bool (decide (1 + n0 < 0)), Value.bool (decide (1 + n0 < 0)), Value.bool r.snd.snd, Value.bool r.snd.snd, Value.bool false, Value.bool (decide (1 + n0 < 0)), Value.agg #[Value.slice (some ⟨g_Tg, 0, none⟩) m_Tg c_Tg], Value.int IntKind.i64 1, Value.int IntKind.i64 (1 + m_Tg), Value.agg #[Value.slice (some ⟨g_Tg, 0, none⟩) m_Tg c_Tg], Value.int IntKind.i64 1, Value.int IntKind.i64 (1 + m_Tg), Value.int IntKind.i64 (1 + m_Tg), Value.bool (decide (1 + m_Tg < 0)), Value.int IntKind.i64 (1 + m_Tg), Value.int IntKind.i64 (1 + m_Tg), Value.bool false, v 5, v 0, v 1, v 2, v 3, v 4, v 6, v 7, v 8, undef, undef, undef, undef, undef, undef, undef, undef, undef, undef, undef, undef, undef, undef, undef, undef, undef, undef, undef, undef, undef, undef], defers := [] }) (by kernel_rfl) (by decide) (by kernel_rfl) (Since.refl _) (fun vals => by kernel_rfl) ?_ ?_ ?_ ?_ ?_ ?_ ?_
  case refine_1 =>
    intro j x x' v h1 h2
    match j, h2 with
    | 1, h2 => exact h2.since h1
    | 4, h2 => exact h2.since h1
    | 5, h2 => exact h2.since h1
    | 6, h2 => exact h2.since h1
    | 9, h2 => exact h2.since h1
    | 0, h2 | 2, h2 | 3, h2 | 7, h2 | 8, h2 | 10, h2 | 11, h2 | 12, h2 => exact h2
    | n + 13, _ => trivial
  case refine_2 => exact fun _ _ => trivial
  case refine_3 => exact fun _ _ _ h1 h2 => h2.since h1
  case refine_4 => exact fun _ _ _ h h2 => h2.congr (h _ rfl { on := 9, ground := .data } (by simp) rfl) (h _ rfl { on := 6, ground := .data } (by simp) rfl)
  case refine_5 =>
    repeat (first | exact eachBut_nil | refine eachBut_skip ?_ | refine eachBut_cons ?_ ?_)
    all_goals intro vals x hx hv
    all_goals simp [Region.binds] at hv
    · simp [does, doesUpon, go_sem, hv, Since.refl]
    · simp [does, doesUpon, go_sem, hv, Since.refl]
    · simp [does, doesUpon, go_sem]
      exact ⟨(Since.refl _).alloc _, IsBox.new hx.le⟩
    · obtain ⟨g, m, c, h1, T⟩ := hv
      simp [does, doesUpon, go_sem, h1, Since.refl]
    · obtain ⟨g, m, c, h1, T⟩ := hv
      simp [does, doesUpon, go_sem, h1, Since.refl]
    · obtain ⟨g, m, c, h1, T⟩ := hv
      simp [does, doesUpon, go_sem, h1, Since.refl]
      exact ⟨g, m, c, rfl, T⟩
    · obtain ⟨g, m, c, h1, T⟩ := hv
      simp [does, doesUpon, go_sem, h1, Since.refl]
      exact ⟨g, m, c, rfl, T⟩
    · obtain ⟨⟨g, h1, T⟩, h3⟩ := hv
      simp [does, doesUpon, go_sem, h1, h3]
      refine (implNetDo _ n0 n0 s0 k1 a1 f1 t1 (by omega) hs'.out _ T.reads (fun wx h => implNetOk g n0 n0 s0 _ wx (T.since h))).mono ?_
      rintro _ x' ⟨g, m, c, rfl, T', h5⟩
      rw [← hr.out] at T' ⊢
      exact ⟨_, rfl, h5, g, m, c, rfl, T'.mono hx.le⟩
    · simp [does, doesUpon, go_sem, hv]
      refine (toNetOp k1 a1 f1 t1 _).mono ?_
      rintro _ x' ⟨rfl, h1⟩
      simp [h1]
    · have Ox := O.since hx
      have o0 : x.cell? ⟨w.heap.size + 1, 0, none⟩ = some (.int .i64 k1) := Ox.cell 0
      have o1 : x.cell? ⟨w.heap.size + 1, 1, none⟩ = some (.int .i64 a1) := Ox.cell 1
      have o2 : x.cell? ⟨w.heap.size + 1, 2, none⟩ = some (.int .i64 f1) := Ox.cell 2
      have o3 : x.cell? ⟨w.heap.size + 1, 3, none⟩ = some (.int .i64 t1) := Ox.cell 3
      simp [does, doesUpon, go_sem, o0, o1, o2, o3, Since.refl]
    · simp [does, doesUpon, go_sem, hv]
      refine (toNet a0 n0 c0 s0 (by omega) _ (R0.since (G.trans hx))).mono ?_
      rintro _ x' ⟨g, rfl, T, h1⟩
      exact ⟨_, rfl, h1, g, rfl, T.mono hx.le⟩
    · simp [does, doesUpon, go_sem, (A.since hx).c0, Since.refl]
  case refine_6 =>
    intro o ho vals x hx hv
    obtain rfl := Option.some.inj ho
    simp [Region.binds] at hv
    have hpb : IsBox w14.heap.size x (vals 9) := by first | exact hv.1 | exact hv.2.1 | exact hv.2.2.1
    have hqb : SomeNet w14.heap.size r.1 x (vals 6) := by first | exact hv.2.1 | exact hv.1 | exact hv.2.2.1
    obtain ⟨b, u, h9, lb, hb⟩ := hpb
    obtain ⟨g, m, c, h6, T⟩ := hqb
    have hc := (Rec1.of_heap hb).c0
    have hf := (Rec1.of_heap hb).fz 0
    simp [does, doesUpon, go_sem, h9, h6, hc, hf]
    refine ⟨since_put1 hx lb 0 _, ?_, ⟨b, _, h9, h6, lb, box_put hb⟩⟩
    intro j v h2
    match j, h2 with
    | 1, h2 => exact h2.put hb
    | 4, h2 => exact h2.put hb
    | 5, h2 => exact h2.put hb
    | 6, h2 => exact h2.put hb
    | 9, h2 => exact h2.put hb
    | 0, h2 | 2, h2 | 3, h2 | 7, h2 | 8, h2 | 10, h2 | 11, h2 | 12, h2 => exact h2
    | n + 13, _ => trivial
  intro vals w16 k_w16 hv hS
  have h0 : vals 0 = _ := hv 0 (by decide)
  have h1 : IsNet w14.heap.size n0 n0 s0 w16 (vals 1) := hv 1 (by decide)
  obtain ⟨gq_w16, h1, _⟩ := h1
  have h2 : vals 2 = _ := hv 2 (by decide)
  have h3 : vals 3 = _ := hv 3 (by decide)
  have h4 : IsDone w14.heap.size r w16 (vals 4) := hv 4 (by decide)
  obtain ⟨ga_w16, ma_w16, ca_w16, h4, _⟩ := h4
  have h5 : IsDone w14.heap.size r w16 (vals 5) := hv 5 (by decide)
  obtain ⟨gb_w16, mb_w16, cb_w16, h5, _⟩ := h5
  have h6 : SomeNet w14.heap.size r.1 w16 (vals 6) := hv 6 (by decide)
  obtain ⟨g_Ti, m_Ti, c_Ti, h6, Ti⟩ := h6
  have h7 : vals 7 = _ := hv 7 (by decide)
  have h8 : vals 8 = _ := hv 8 (by decide)
  have h11 : vals 11 = _ := hv 11 (by decide)
  have h12 : vals 12 = _ := hv 12 (by decide)
  obtain ⟨b_Z, u_Z, h9, hu_Z, lb_Z, hb_Z⟩ := hS
  rw [h6] at hu_Z
  obtain rfl : u_Z = .slice (some ⟨g_Ti, 0, none⟩) m_Ti c_Ti := by simpa using hu_Z.symm
  clear hv hu_Z
  simp only [h0, h1, h2, h3, h4, h5, h6, h7, h8, h9, h11, h12]
  clear h0 h1 h2 h3 h4 h5 h6 h7 h8 h9 h11 h12
  have l_Ti := Ti.len
  have z_k_w16 := k_w16.le
  try simp only [World.size_alloc] at z_k_w16
  replace G := G.trans k_w16
  replace A := A.since k_w16
  replace O := O.since k_w16
  replace V := V.since k_w16
  replace X := X.since k_w16
  replace Y := Y.since k_w16
  replace Tw := Tw.since k_w16
  replace Tx := Tx.since k_w16
  replace Tg := Tg.since k_w16
  have Z := Rec1.of_heap hb_Z
  have ub_Z := Z.lt
  have ne_Z := Ti.ne_box hb_Z
  have lo_Ti := Ti.low
  try simp only [World.size_alloc] at lo_Ti
  have hi_Ti := Ti.lt
  replace cA := A.c0
  replace cV := V.c0
  replace cY := Y.c0
  have cZ := Z.c0
  go_wp2_with (fail)
  refine (eqNet _ _ m_Ti m_Tw c_Ti c_Tw _ _ _ Ti.reads Tw.reads).mono ?_
  rw [decide_eq_true rfl]
  rintro _ w18 ⟨rfl, k18⟩
  have z_k18 := k18.le
  try simp only [World.size_alloc] at z_k18
  replace G := G.trans k18
  replace A := A.since k18
  replace O := O.since k18
  replace V := V.since k18
  replace X := X.since k18
  replace Y := Y.since k18
  replace Z := Z.since k18
  replace Tw := Tw.since k18
  replace Tx := Tx.since k18
  replace Tg := Tg.since k18
  replace Ti := Ti.since k18
  replace cA := A.c0
  replace cV := V.c0
  replace cY := Y.c0
  replace cZ := Z.c0
  go_wp2_with (fail)
  refine (heldNet _ m_Tg c_Tg mg 1 (by omega) (by omega) _ Tg.reads hM.out).mono ?_
  rintro _ w19 ⟨rfl, k19⟩
  replace G := G.trans k19
  go_wp2_with (fail)
  go_ret
  exact ⟨rfl, G⟩

set_option maxRecDepth 100000 in
theorem lifted (os : Os) (started : os.Started) (H : Type) (enc : TypeId × Value → H) :
    ReturnsInHanded {} Try.checked os 5 .any (Rows.fnExactNetDoSpec.pre6 enc Try.prog Try.f5 Rows.fnExactNetDoRow.domain false) (Rows.fnExactNetDoSpec.post enc Try.prog Try.f5 false true false false) := by
  refine returnsInHanded_of_change (C := Try.checked) own started (by kernel_rfl) Try.func5
    (ChangeSpec.witness6 (enc := enc) (C := Try.checked) false ⟨#[], #[.agg #[.slice none 0 0], .agg #[.int .i64 0, .int .i64 0, .int .i64 0, .int .i64 0]], []⟩ 8 (by kernel_rfl) (by kernel_rfl) (by kernel_rfl) (by kernel_rfl)) ?_
  intro W base args ds gs before hval0 hW hcnd _
  have hval : ∀ (j : Nat) t v, Try.f5.params[j]? = some t → args[j]? = some v → Value.okWide Try.prog W .any base t v := hval0
  have hW' := hW
  obtain ⟨p, q, hA0, hV, rfl, hfz, hnd⟩ := hW
  have hA : DataW.TrodAll enc Try.prog W 0 (fun _ => true) true Try.f5.params.toList args.toList ds p := hA0
  rw [Try.params5] at hA hval
  obtain ⟨v0, vs0, d0, ds0, p0, q0, hargs, rfl, rfl, h0, r0⟩ := trodAll_cons hA
  obtain ⟨v1, vs1, d1, ds1, p1, q1, rfl, rfl, rfl, h1, r1⟩ := trodAll_cons r0
  obtain ⟨rfl, rfl, rfl⟩ := trodAll_nil r1
  obtain rfl : args = #[v0, v1] := by cases args; simp_all
  obtain ⟨rfl, rfl⟩ := trodVars_none hV
  have e0 := h0
  have lt0 : ∀ x ∈ p0, x.block < W.heap.size := by obtain ⟨m, hm⟩ := e0; exact DataW.trod_lt m _ _ _ hm
  have e1 := h1
  have lt1 : ∀ x ∈ p1, x.block < W.heap.size := by obtain ⟨m, hm⟩ := e1; exact DataW.trod_lt m _ _ _ hm
  obtain ⟨a0, n0, c0, s0, rfl, R0, z0⟩ := open_net (hval 0 24 v0 rfl rfl) h0
  obtain ⟨k1, a1, f1, t1, rfl, x10, x11, x12, x13⟩ := open_netop (hval 1 35 v1 rfl rfl) h1
  clear hA0 hval0
  refine (walk a0 n0 c0 s0 k1 a1 f1 t1 W R0 z0 x10 x11 x12 x13).mono fun e W' ⟨he, bel⟩ => ?_
  subst he
  exact ⟨_, rfl, _, _, _, [], _, [], hW', trodAll_mk1 (shut_bool Try.underlying4 _), (trodAll_cons_mk (Below.trod laidOut (by kernel_rfl) (of_decide_eq_true (by kernel_rfl)) e0 bel lt0) (trodAll_cons_mk (Below.trod laidOut (by kernel_rfl) (of_decide_eq_true (by kernel_rfl)) e1 bel lt1) trodAll_mk0)), rfl, bel.frame _, fun h => by cases h⟩

theorem over : Rows.fnExactNetDoRow.holds Try.pinned (OpenSpec.ofChange Rows.fnExactNetDoSpec) :=
  OpenClaim.holds_of_wide 5 Try.f5 rfl rfl rfl rfl rfl rfl rfl ⟨rfl, rfl, rfl, rfl, rfl⟩ rfl rfl rfl rfl rfl (by kernel_rfl) Try.func5 (by kernel_rfl)
    (of_decide_eq_true (by kernel_rfl)) (by unfold Func.isWrapper; first | (rw [if_pos (by decide +kernel)]; kernel_rfl) | (rw [if_neg (by decide +kernel)]; exact ⟨rfl, rfl⟩))
    (fun os started H enc _ => lifted os started H enc)

theorem proved : Rows.FnExactNetDoSaid := over
end Go.Proofs.Ytdampggjnmmhfaa.fnExactNetDo

namespace Go.Proofs.Ytdampggjnmmhfaa
theorem fnExactNetDo_holds : Rows.FnExactNetDoSaid := fnExactNetDo.proved
#print axioms fnExactNetDo_holds
end Go.Proofs.Ytdampggjnmmhfaa
