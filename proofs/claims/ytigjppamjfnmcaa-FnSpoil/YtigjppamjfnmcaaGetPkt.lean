/-
  Contract of impl's GetPacket, at every text of at most 1048576 bytes.
-/
import Derived.Test.YtigjppamjfnmcaaReadPkt
import Derived.Recover
import Derived.Defers
namespace Go.Proofs.Ytigjppamjfnmcaa
open Go.ChangeShapes Go.WideShapes Go.ChangeAt Go.RowKit
set_option linter.unusedVariables false
set_option maxRecDepth 10000

/-- The zero packet. -/
def zeroVal : Value := pktVal 0 0 0 0 0 ⟨#[]⟩

theorem catch_panicking (bp bo : Nat) (hne : ¬ bp = bo) (u : TypeId) (pv : Value) (older : List PanicEntry) (w : World) (P0 : w.cell? ⟨bp, 0, none⟩ = some (.int .u32 0)) (P1 : w.cell? ⟨bp, 1, none⟩ = some (.int .u32 0)) (P2 : w.cell? ⟨bp, 2, none⟩ = some (.int .i64 0)) (P3 : w.cell? ⟨bp, 3, none⟩ = some (.int .i64 0)) (P4 : w.cell? ⟨bp, 4, none⟩ = some (.int .i64 0)) (P5 : w.cell? ⟨bp, 5, none⟩ = some (.string ⟨#[]⟩)) (PO : w.cell? ⟨bo, 0, none⟩ = some (.bool false))
    (Z : ∀ i, w.frozen? ⟨bp, i, none⟩ = false) (ZO : w.frozen? ⟨bo, 0, none⟩ = false) :
    CallsD Try.prog 53 #[.pointer (some ⟨bp, 0, none⟩), .pointer (some ⟨bo, 0, none⟩)] (.panicking ({ v := .iface u pv, recovered := false } :: older)) w fun e u' w' =>
      e = .returned (.tuple #[]) ∧ u' = .panicking ({ v := .iface u pv, recovered := true } :: older) ∧ w' = ((((((w.setCell ⟨bp, 0, none⟩ (.int .u32 0)).setCell ⟨bp, 1, none⟩ (.int .u32 0)).setCell ⟨bp, 2, none⟩ (.int .i64 0)).setCell ⟨bp, 3, none⟩ (.int .i64 0)).setCell ⟨bp, 4, none⟩ (.int .i64 0)).setCell ⟨bp, 5, none⟩ (.string ⟨#[]⟩)).setCell ⟨bo, 0, none⟩ (.bool false) := by
  refine callsD_of_wpS Try.func53 rfl fun c₀ cs hu => ?_
  apply wpS_seq
  apply wpS_region
  simp [wpOpsS, go_sem, recoverD, hu, Try.ntmps53, Exit.thenS]
  refine wpS_cond (t := true) (by simp [Act.eval, Array.replicate]) ?_
  simp only [if_true]
  apply wpS_region
  simp [wpOpsS, go_sem, P0, P1, P2, P3, P4, P5, PO, Z, ZO, bodyPostS, results, Try.results53]

theorem catch_idle (bp bo : Nat) (w : World) :
    CallsD Try.prog 53 #[.pointer (some ⟨bp, 0, none⟩), .pointer (some ⟨bo, 0, none⟩)] .returning w fun e u' w' => e = .returned (.tuple #[]) ∧ u' = .returning ∧ w' = w := by
  refine callsD_of_wpS Try.func53 rfl fun c₀ cs hu => ?_
  apply wpS_seq
  apply wpS_region
  simp [wpOpsS, go_sem, recoverD, hu, Try.ntmps53, Exit.thenS]
  refine wpS_cond (t := false) (by simp [Act.eval, Array.replicate]) ?_
  simp only [Bool.false_eq_true, if_false]
  refine wpS_of_wp (wp_skip ?_)
  cases c₀
  simp_all [bodyPostS, results, Try.results53]

/-- The two named results behind a call that makes new blocks alone. -/
theorem doorCells {w w1 : World} {tp tb : TypeId} (g : Since ((w.alloc (.cells #[.int .u32 0, .int .u32 0, .int .i64 0, .int .i64 0, .int .i64 0, .string ⟨#[]⟩] tp)).alloc (.cells #[.bool false] tb)) w1) :
    Since w w1 ∧ (w1.cell? ⟨w.heap.size, 0, none⟩ = some (.int .u32 0) ∧ w1.cell? ⟨w.heap.size, 1, none⟩ = some (.int .u32 0) ∧ w1.cell? ⟨w.heap.size, 2, none⟩ = some (.int .i64 0) ∧ w1.cell? ⟨w.heap.size, 3, none⟩ = some (.int .i64 0) ∧ w1.cell? ⟨w.heap.size, 4, none⟩ = some (.int .i64 0) ∧ w1.cell? ⟨w.heap.size, 5, none⟩ = some (.string ⟨#[]⟩)) ∧
    (∀ i, w1.frozen? ⟨w.heap.size, i, none⟩ = false) ∧ w1.cell? ⟨w.heap.size + 1, 0, none⟩ = some (.bool false) ∧ w1.frozen? ⟨w.heap.size + 1, 0, none⟩ = false := by
  refine ⟨(((Since.refl w).alloc _).alloc _).trans g, kept6 (((Since.refl _).alloc _).trans g), fun i => ?_, ?_, ?_⟩
  · exact (Below.frozen g (p := ⟨w.heap.size, i, none⟩) (by simp; omega)).trans (by simp)
  · exact (Below.cell g (p := ⟨w.heap.size + 1, 0, none⟩) (by simp)).trans (by simp)
  · exact (Below.frozen g (p := ⟨w.heap.size + 1, 0, none⟩) (by simp)).trans (by simp)

theorem readAny (s : ByteArray) (w : World) :
    Calls Try.prog 54 #[.string s] w fun e w' => ((isPkt s ∧ e = .returned (readVal s)) ∨ (¬ isPkt s ∧ Threw e)) ∧ Since w w' := by
  by_cases h : 20 ≤ s.size ∧ s.size ≤ 2000
  · refine (readPacket s h w).mono ?_
    rintro e w' ⟨h1, h2⟩
    refine ⟨?_, h2⟩
    rcases h1 with ⟨h1, h3⟩ | ⟨h1, h3⟩
    · exact .inl ⟨⟨h, h1⟩, h3⟩
    · exact .inr ⟨fun k => h1 k.2, h3⟩
  · refine (readShort s h w).mono ?_
    rintro e w' ⟨h1, h2⟩
    exact ⟨.inr ⟨fun k => h k.1, h1⟩, h2⟩

theorem readGood (s : ByteArray) (h : isPkt s) (w : World) : Calls Try.prog 54 #[.string s] w fun e w' => e = .returned (readVal s) ∧ Since w w' :=
  (readAny s w).mono fun _ _ ⟨h1, h2⟩ => ⟨(h1.resolve_right fun k => k.1 h).2, h2⟩

theorem readBad (s : ByteArray) (h : ¬ isPkt s) (w : World) : Calls Try.prog 54 #[.string s] w fun e w' => Threw e ∧ Since w w' :=
  (readAny s w).mono fun _ _ ⟨h1, h2⟩ => ⟨(h1.resolve_left fun k => h k.1).2, h2⟩

set_option maxHeartbeats 2000000 in
theorem implGetBad (s : ByteArray) (h : ¬ isPkt s) (w : World) :
    Calls Try.prog 25 #[.string s] w fun e w' => e = .returned (.tuple #[zeroVal, .bool false]) ∧ Since w w' := by
  have hmf : ∀ (fn : Fn) (first cap : Array Value) (w : World), (Instr.makeFunc fn first cap).run Try.prog w = .ok (.func fn first cap) w := fun _ _ _ _ => rfl
  have hr := fun wx => readBad s h wx
  go_enter_defers Try.func25, Try.ntmps25
  go_wp2_with (go_at_call 54; refine (hr _).mono ?_; rintro _ w1 ⟨⟨v, rfl⟩, g1⟩)
  obtain ⟨HW, ⟨c0, c1, c2, c3, c4, c5⟩, Z, cb, zb⟩ := doorCells g1
  refine leaves_cons (f := 53) (args := #[.pointer (some ⟨w.heap.size, 0, none⟩), .pointer (some ⟨w.heap.size + 1, 0, none⟩)]) (by simp) (by simp [go_sem]) ?_
  refine (catch_panicking w.heap.size (w.heap.size + 1) (by omega) 9 v [] w1 c0 c1 c2 c3 c4 c5 cb Z zb).mono ?_
  rintro e u' w'' ⟨rfl, rfl, rfl⟩
  have HX := ((((((Below.setCell HW (p := ⟨w.heap.size, 0, none⟩) (Nat.le_refl _) (.int .u32 0)).setCell (p := ⟨w.heap.size, 1, none⟩) (Nat.le_refl _) (.int .u32 0)).setCell (p := ⟨w.heap.size, 2, none⟩) (Nat.le_refl _) (.int .i64 0)).setCell (p := ⟨w.heap.size, 3, none⟩) (Nat.le_refl _) (.int .i64 0)).setCell (p := ⟨w.heap.size, 4, none⟩) (Nat.le_refl _) (.int .i64 0)).setCell (p := ⟨w.heap.size, 5, none⟩) (Nat.le_refl _) (.string ⟨#[]⟩)).setCell (p := ⟨w.heap.size + 1, 0, none⟩) (Nat.le_succ _) (.bool false)
  simp [Leaves, settle, results, Try.results25, go_sem, World.cell?_setCell_same', World.cell?_setCell_other, c0, c1, c2, c3, c4, c5, cb]
  exact ⟨rfl, HX⟩

set_option maxHeartbeats 2000000 in
theorem implGetGood (s : ByteArray) (h : isPkt s) (w : World) :
    Calls Try.prog 25 #[.string s] w fun e w' => e = .returned (.tuple #[readVal s, .bool true]) ∧ Since w w' := by
  have hmf : ∀ (fn : Fn) (first cap : Array Value) (w : World), (Instr.makeFunc fn first cap).run Try.prog w = .ok (.func fn first cap) w := fun _ _ _ _ => rfl
  have hr := fun wx => readGood s h wx
  unfold readVal pktVal at hr ⊢
  go_enter_defers Try.func25, Try.ntmps25
  go_wp2_with (go_at_call 54; refine (hr _).mono ?_; rintro _ w1 ⟨rfl, g1⟩; obtain ⟨HW, ⟨c0, c1, c2, c3, c4, c5⟩, Z, cb, zb⟩ := doorCells g1)
  refine leaves_cons (f := 53) (args := #[.pointer (some ⟨w.heap.size, 0, none⟩), .pointer (some ⟨w.heap.size + 1, 0, none⟩)]) (by simp) (by simp [go_sem]) ?_
  refine (catch_idle w.heap.size (w.heap.size + 1) _).mono ?_
  rintro e u' w'' ⟨rfl, rfl, rfl⟩
  have HX := ((((((Below.setCell HW (p := ⟨w.heap.size, 0, none⟩) (Nat.le_refl _) (.int .u32 (wordAt s 12))).setCell (p := ⟨w.heap.size, 1, none⟩) (Nat.le_refl _) (.int .u32 (wordAt s 16))).setCell (p := ⟨w.heap.size, 2, none⟩) (Nat.le_refl _) (.int .i64 (halfAt s 4))).setCell (p := ⟨w.heap.size, 3, none⟩) (Nat.le_refl _) (.int .i64 (byteAt s 8))).setCell (p := ⟨w.heap.size, 4, none⟩) (Nat.le_refl _) (.int .i64 (byteAt s 9))).setCell (p := ⟨w.heap.size, 5, none⟩) (Nat.le_refl _) (.string (s.extract 20 s.size))).setCell (p := ⟨w.heap.size + 1, 0, none⟩) (Nat.le_succ _) (.bool true)
  simp [Leaves, settle, results, Try.results25, go_sem, World.cell?_setCell_same', World.cell?_setCell_other, c0, c1, c2, c3, c4, c5, cb]
  exact HX
end Go.Proofs.Ytigjppamjfnmcaa
