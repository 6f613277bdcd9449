/-
  Contracts of impl's fateOf, befall and doOp: what befalls a datagram, kind by kind.
-/
import Derived.Test.YtigjppamjfnmcaaNetFate
namespace Go.Proofs.Ytigjppamjfnmcaa
open Go.ChangeShapes Go.WideShapes Go.ChangeAt Go.RowKit
set_option linter.unusedVariables false

/-- What befalls, as a value. -/
def fateVal (kind half turn : Int) : Value :=
  if kind = 0 then .iface 99 (.agg #[]) else if kind = 1 then .iface 100 (.agg #[]) else if kind = 2 then .iface 102 (.agg #[.int .i64 half, .int .i64 turn])
  else if kind = 3 then .iface 103 (.agg #[]) else if kind = 4 then .iface 104 (.agg #[]) else .nilIface

theorem fateOf (kind at_ half turn : Int) (w : World) :
    Calls Try.prog 50 #[.agg #[.int .i64 kind, .int .i64 at_, .int .i64 half, .int .i64 turn]] w fun e w' => e = .returned (.tuple #[fateVal kind half turn, .bool (decide (0 ≤ kind ∧ kind ≤ 4))]) ∧ Since w w' := by
  have G := (Since.refl w).alloc (.cells #[.int .i64 kind, .int .i64 at_, .int .i64 half, .int .i64 turn] 40)
  by_cases h0 : kind = 0
  · subst h0
    go_enter Try.func50, Try.ntmps50
    go_wp2
    go_returns
    exact ⟨rfl, G⟩
  by_cases h1 : kind = 1
  · subst h1
    go_enter Try.func50, Try.ntmps50
    go_wp2
    go_returns
    exact ⟨rfl, G⟩
  by_cases h2 : kind = 2
  · subst h2
    go_enter Try.func50, Try.ntmps50
    go_wp2
    go_returns
    exact ⟨rfl, G⟩
  by_cases h3 : kind = 3
  · subst h3
    go_enter Try.func50, Try.ntmps50
    go_wp2
    go_returns
    exact ⟨rfl, G⟩
  by_cases h4 : kind = 4
  · subst h4
    go_enter Try.func50, Try.ntmps50
    go_wp2
    go_returns
    exact ⟨rfl, G⟩
  have e : fateVal kind half turn = .nilIface := by simp [fateVal, h0, h1, h2, h3, h4]
  have e' : decide (0 ≤ kind ∧ kind ≤ 4) = false := by simp; omega
  rw [e, e']
  clear e e'
  have b0 : (kind == 0) = false := by simpa using h0
  have b1 : (kind == 1) = false := by simpa using h1
  have b2 : (kind == 2) = false := by simpa using h2
  have b3 : (kind == 3) = false := by simpa using h3
  have b4 : (kind == 4) = false := by simpa using h4
  clear h0 h1 h2 h3 h4
  go_enter Try.func50, Try.ntmps50
  go_wp2
  go_returns
  exact ⟨rfl, G⟩

theorem leaves0 (w : World) : Calls Try.prog 100 #[.agg #[]] w fun e w' => e = .returned (.bool true) ∧ Since w w' := by
  go_enter Try.func100, Try.ntmps100
  go_wp2
  go_returns
  exact ⟨rfl, by repeat (first | exact Since.refl _ | apply Since.drew | apply Since.alloc)⟩

theorem leaves1 (w : World) : Calls Try.prog 101 #[.agg #[]] w fun e w' => e = .returned (.bool false) ∧ Since w w' := by
  go_enter Try.func101, Try.ntmps101
  go_wp2
  go_returns
  exact ⟨rfl, by repeat (first | exact Since.refl _ | apply Since.drew | apply Since.alloc)⟩

theorem leaves3 (w : World) : Calls Try.prog 103 #[.agg #[]] w fun e w' => e = .returned (.bool true) ∧ Since w w' := by
  go_enter Try.func103, Try.ntmps103
  go_wp2
  go_returns
  exact ⟨rfl, by repeat (first | exact Since.refl _ | apply Since.drew | apply Since.alloc)⟩

theorem leaves4 (w : World) : Calls Try.prog 104 #[.agg #[]] w fun e w' => e = .returned (.bool true) ∧ Since w w' := by
  go_enter Try.func104, Try.ntmps104
  go_wp2
  go_returns
  exact ⟨rfl, by repeat (first | exact Since.refl _ | apply Since.drew | apply Since.alloc)⟩

theorem leaves2 (h t : Int) (w : World) : Calls Try.prog 102 #[.agg #[.int .i64 h, .int .i64 t]] w fun e w' => e = .returned (.bool false) ∧ Since w w' := by
  go_enter Try.func102, Try.ntmps102
  go_wp2
  go_returns
  exact ⟨rfl, by repeat (first | exact Since.refl _ | apply Since.drew | apply Since.alloc)⟩

set_option maxHeartbeats 1000000 in
set_option maxRecDepth 10000 in
theorem befall0 (B g n cap i : Nat) (ss : List ByteArray) (hi : i < n) (hn : n ≤ 200) (w : World) (T : Texts w B g n cap ss) :
    Calls Try.prog 51 #[.slice (some ⟨g, 0, none⟩) n cap, .int .i64 (i : Int), .iface 99 (.agg #[])] w fun e w' => e = .returned (.tuple #[.slice (some ⟨g, 0, none⟩) (n - 1) cap, .string ByteArray.empty, .bool false]) ∧ Texts w' B g (n - 1) cap (without ss i) ∧ Touch g w w' := by
  have hc := T.cell i hi
  have ta0 : ∀ wx, (Instr.typeAssert (.iface 99 (.agg #[])) 83 99 true).run Try.prog wx = .ok (.tuple #[.agg #[], .bool true]) wx := fun wx => by kernel_rfl
  have hlt : (i : Int) < (n : Int) := by omega
  have hd := fun wx (h : Since w wx) => delText B g n cap i ss hi wx (T.since h)
  go_enter Try.func51, Try.ntmps51
  go_wp2_with (first | (go_at_call 100; refine (leaves0 _).mono ?_; rintro _ w0 ⟨rfl, g0⟩) | (go_at_call 68; refine (hd _ g0).mono ?_; rintro _ w1 ⟨rfl, T1, t1⟩))
  go_returns
  exact ⟨rfl, T1.since ((Since.refl _).alloc _), ((Touch.of_since g0 g).trans t1).alloc _⟩

set_option maxHeartbeats 1000000 in
set_option maxRecDepth 10000 in
theorem befall4 (B g n cap i : Nat) (ss : List ByteArray) (hi : i < n) (hn : n ≤ 200) (w : World) (T : Texts w B g n cap ss) :
    Calls Try.prog 51 #[.slice (some ⟨g, 0, none⟩) n cap, .int .i64 (i : Int), .iface 104 (.agg #[])] w fun e w' => e = .returned (.tuple #[.slice (some ⟨g, 0, none⟩) (n - 1) cap, .string (txt ss i), .bool true]) ∧ Texts w' B g (n - 1) cap (without ss i) ∧ Touch g w w' := by
  have hc := T.cell i hi
  have ta0 : ∀ wx, (Instr.typeAssert (.iface 104 (.agg #[])) 83 99 true).run Try.prog wx = .ok (.tuple #[.agg #[], .bool false]) wx := fun wx => by kernel_rfl
  have ta1 : ∀ wx, (Instr.typeAssert (.iface 104 (.agg #[])) 83 100 true).run Try.prog wx = .ok (.tuple #[.agg #[], .bool false]) wx := fun wx => by kernel_rfl
  have ta2 : ∀ wx, (Instr.typeAssert (.iface 104 (.agg #[])) 83 102 true).run Try.prog wx = .ok (.tuple #[.agg #[.int .i64 0, .int .i64 0], .bool false]) wx := fun wx => by kernel_rfl
  have ta3 : ∀ wx, (Instr.typeAssert (.iface 104 (.agg #[])) 83 103 true).run Try.prog wx = .ok (.tuple #[.agg #[], .bool false]) wx := fun wx => by kernel_rfl
  have ta4 : ∀ wx, (Instr.typeAssert (.iface 104 (.agg #[])) 83 104 true).run Try.prog wx = .ok (.tuple #[.agg #[], .bool true]) wx := fun wx => by kernel_rfl
  have hlt : (i : Int) < (n : Int) := by omega
  have hd := fun wx (h : Since w wx) => delText B g n cap i ss hi wx (T.since h)
  go_enter Try.func51, Try.ntmps51
  go_wp2_with (first | (go_at_call 104; refine (leaves4 _).mono ?_; rintro _ w0 ⟨rfl, g0⟩) | (go_at_call 68; refine (hd _ g0).mono ?_; rintro _ w1 ⟨rfl, T1, t1⟩))
  go_returns
  exact ⟨rfl, T1.since ((Since.refl _).alloc _), ((Touch.of_since g0 g).trans t1).alloc _⟩

set_option maxHeartbeats 1000000 in
set_option maxRecDepth 10000 in
theorem befall3 (B g n cap i : Nat) (ss : List ByteArray) (hi : i < n) (hn : n ≤ 200) (w : World) (hB : B ≤ w.heap.size) (T : Texts w B g n cap ss) :
    Calls Try.prog 51 #[.slice (some ⟨g, 0, none⟩) n cap, .int .i64 (i : Int), .iface 103 (.agg #[])] w fun e w' => ∃ g' c', e = .returned (.tuple #[.slice (some ⟨g', 0, none⟩) n c', .string ByteArray.empty, .bool false]) ∧ Texts w' B g' n c' (without ss i ++ [txt ss i]) ∧ Touch g w w' := by
  have hc := T.cell i hi
  have ta0 : ∀ wx, (Instr.typeAssert (.iface 103 (.agg #[])) 83 99 true).run Try.prog wx = .ok (.tuple #[.agg #[], .bool false]) wx := fun wx => by kernel_rfl
  have ta1 : ∀ wx, (Instr.typeAssert (.iface 103 (.agg #[])) 83 100 true).run Try.prog wx = .ok (.tuple #[.agg #[], .bool false]) wx := fun wx => by kernel_rfl
  have ta2 : ∀ wx, (Instr.typeAssert (.iface 103 (.agg #[])) 83 102 true).run Try.prog wx = .ok (.tuple #[.agg #[.int .i64 0, .int .i64 0], .bool false]) wx := fun wx => by kernel_rfl
  have ta3 : ∀ wx, (Instr.typeAssert (.iface 103 (.agg #[])) 83 103 true).run Try.prog wx = .ok (.tuple #[.agg #[], .bool true]) wx := fun wx => by kernel_rfl
  have hlt : (i : Int) < (n : Int) := by omega
  have hd := fun wx (h : Since w wx) => delText B g n cap i ss hi wx (T.since h)
  have hn1 : n - 1 + 1 = n := by omega
  go_enter Try.func51, Try.ntmps51
  go_wp2_with (first | (go_at_call 103; refine (leaves3 _).mono ?_; rintro _ w0 ⟨rfl, g0⟩; have z0 := g0.le) | (go_at_call 68; refine (hd _ g0).mono ?_; rintro _ w1 ⟨rfl, T1, t1⟩; have z1 := t1.le) | (at_builtin; refine app_texts rfl _ _ rfl rfl (T1.since (((Since.refl _).alloc _).alloc _)) rfl (one_reads' _ _ _ (by simp)) (by simp) (by omega) (by simp; omega) ?_))
  intro g' c' w4 T4 t4
  try rw [hn1] at T4
  go_wp2
  go_returns
  refine ⟨g', c', by first | rfl | (rw [hn1]; rfl), T4, ?_⟩
  exact (((Touch.of_since g0 g).trans t1).trans (Touch.of_since (((Since.refl _).alloc _).alloc _) g)).trans t4

set_option maxHeartbeats 1000000 in
set_option maxRecDepth 10000 in
theorem befall1 (B g n cap i : Nat) (ss : List ByteArray) (hi : i < n) (hn : n ≤ 200) (hs : (txt ss i).size ≤ 2000) (w : World) (hB : B ≤ w.heap.size) (T : Texts w B g n cap ss) :
    Calls Try.prog 51 #[.slice (some ⟨g, 0, none⟩) n cap, .int .i64 (i : Int), .iface 100 (.agg #[])] w fun e w' => ∃ g' m c', e = .returned (.tuple #[.slice (some ⟨g', 0, none⟩) m c', .string ByteArray.empty, .bool false]) ∧ Texts w' B g' m c' (if n < 200 then ss ++ [txt ss i] else ss) ∧ Touch g w w' := by
  have hc := T.cell i hi
  have ta0 : ∀ wx, (Instr.typeAssert (.iface 100 (.agg #[])) 83 99 true).run Try.prog wx = .ok (.tuple #[.agg #[], .bool false]) wx := fun wx => by kernel_rfl
  have ta1 : ∀ wx, (Instr.typeAssert (.iface 100 (.agg #[])) 83 100 true).run Try.prog wx = .ok (.tuple #[.agg #[], .bool true]) wx := fun wx => by kernel_rfl
  have hlt : (i : Int) < (n : Int) := by omega
  have hcl := fun wx => clone (txt ss i) (by omega) wx
  by_cases h2 : (n : Int) < 200
  · rw [if_pos (by omega)]
    go_enter Try.func51, Try.ntmps51
    go_wp2_with (first | (go_at_call 101; refine (leaves1 _).mono ?_; rintro _ w0 ⟨rfl, g0⟩; have z0 := g0.le) | (go_at_call 23; refine (hcl _).mono ?_; rintro _ w1 ⟨rfl, g1⟩; have T1 := T.since (g0.trans (Since.trans ((Since.refl _).alloc _) g1)); have z1 := g1.le; simp only [World.size_alloc] at z1) | (at_builtin; refine app_texts rfl _ _ rfl rfl (T1.since ((Since.refl _).alloc _)) rfl (one_reads _ _) (by simp) (by omega) (by simp; omega) ?_))
    intro g' c' w4 T4 t4
    go_wp2
    go_returns
    refine ⟨g', n + 1, c', rfl, T4, ?_⟩
    exact (Touch.of_since (g0.trans (Since.trans ((Since.refl _).alloc _) (g1.trans ((Since.refl _).alloc _)))) g).trans t4
  · rw [if_neg (by omega)]
    go_enter Try.func51, Try.ntmps51
    go_wp2_with (go_at_call 101; refine (leaves1 _).mono ?_; rintro _ w0 ⟨rfl, g0⟩)
    go_returns
    exact ⟨g, n, cap, rfl, T.since (g0.trans ((Since.refl _).alloc _)), Touch.of_since (g0.trans ((Since.refl _).alloc _)) g⟩

set_option maxHeartbeats 1000000 in
set_option maxRecDepth 10000 in
theorem befall2 (B g n cap i : Nat) (ss : List ByteArray) (half turn : Int) (hi : i < n) (hn : n ≤ 200) (hs : (txt ss i).size ≤ 2000) (w : World) (T : Texts w B g n cap ss) :
    Calls Try.prog 51 #[.slice (some ⟨g, 0, none⟩) n cap, .int .i64 (i : Int), .iface 102 (.agg #[.int .i64 half, .int .i64 turn])] w fun e w' => e = .returned (.tuple #[.slice (some ⟨g, 0, none⟩) n cap, .string ByteArray.empty, .bool false]) ∧ Texts w' B g n cap (if shows (txt ss i) half turn = true then ss.set i (turnOf (txt ss i) half turn) else ss) ∧ Touch g w w' := by
  have hc := T.cell i hi
  have ta0 : ∀ wx, (Instr.typeAssert (.iface 102 (.agg #[.int .i64 half, .int .i64 turn])) 83 99 true).run Try.prog wx = .ok (.tuple #[.agg #[], .bool false]) wx := fun wx => by kernel_rfl
  have ta1 : ∀ wx, (Instr.typeAssert (.iface 102 (.agg #[.int .i64 half, .int .i64 turn])) 83 100 true).run Try.prog wx = .ok (.tuple #[.agg #[], .bool false]) wx := fun wx => by kernel_rfl
  have ta2 : ∀ wx, (Instr.typeAssert (.iface 102 (.agg #[.int .i64 half, .int .i64 turn])) 83 102 true).run Try.prog wx = .ok (.tuple #[.agg #[.int .i64 half, .int .i64 turn], .bool true]) wx := fun wx => by kernel_rfl
  have hlt : (i : Int) < (n : Int) := by omega
  have hsh := fun wx => implShows (txt ss i) half turn (by omega) wx
  have htu := fun wx => implTurned (txt ss i) half turn (by omega) wx
  cases hb : shows (txt ss i) half turn
  · rw [hb] at hsh
    rw [if_neg (by simp)]
    clear htu hb
    go_enter Try.func51, Try.ntmps51
    go_wp2_with (first | (go_at_call 102; refine (leaves2 _ _ _).mono ?_; rintro _ w0 ⟨rfl, g0⟩) | (go_at_call 69; refine (hsh _).mono ?_; rintro _ w1 ⟨rfl, g1⟩))
    go_returns
    have k : Since w w1 := g0.trans (Since.trans ((Since.refl _).alloc _) g1)
    exact ⟨rfl, T.since k, Touch.of_since k g⟩
  · rw [hb] at hsh
    rw [if_pos rfl]
    clear hb
    go_enter Try.func51, Try.ntmps51
    go_wp2_with (first | (go_at_call 102; refine (leaves2 _ _ _).mono ?_; rintro _ w0 ⟨rfl, g0⟩; have F := Blk.new w0 #[.int .i64 half, .int .i64 turn] 102) | (go_at_call 69; refine (hsh _).mono ?_; rintro _ w1 ⟨rfl, g1⟩; replace g1 : Since _ w1 := g1; replace F := F.since g1; have c0 : w1.cell? ⟨w0.heap.size, 0, none⟩ = some (.int .i64 half) := F.cell 0; have c1 : w1.cell? ⟨w0.heap.size, 1, none⟩ = some (.int .i64 turn) := F.cell 1) | (go_at_call 70; refine (htu _).mono ?_; rintro _ w2 ⟨rfl, g2⟩; replace g2 : Since w1 w2 := g2; have T2 := T.since (g0.trans (Since.trans ((Since.refl _).alloc _) (Since.trans g1 g2))); have hc2 := T2.cell i hi; have hf2 := T2.free i))
    go_returns
    have k : Since w w2 := g0.trans (Since.trans ((Since.refl _).alloc _) (Since.trans g1 g2))
    exact ⟨rfl, T2.set i hi _, (Touch.of_since k g).put i _⟩
end Go.Proofs.Ytigjppamjfnmcaa
