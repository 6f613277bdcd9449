/-
  Contracts of impl's fateOf, befall and doOp: what befalls a datagram, kind by kind.
-/
import Derived.Test.YthjdcgckonckoaaNetFate
namespace Go.Proofs.Ythjdcgckonckoaa
open Go.ChangeShapes Go.WideShapes Go.ChangeAt Go.RowKit
set_option linter.unusedVariables false

/-- What befalls, as a value. -/
def fateVal (kind half turn : Int) : Value :=
  if kind = 0 then .iface 71 (.agg #[]) else if kind = 1 then .iface 72 (.agg #[]) else if kind = 2 then .iface 74 (.agg #[.int .i64 half, .int .i64 turn])
  else if kind = 3 then .iface 75 (.agg #[]) else if kind = 4 then .iface 76 (.agg #[]) else .nilIface

theorem fateOf (kind at_ half turn : Int) (w : World) :
    Calls Try.prog 28 #[.agg #[.int .i64 kind, .int .i64 at_, .int .i64 half, .int .i64 turn]] w fun e w' => e = .returned (.tuple #[fateVal kind half turn, .bool (decide (0 ≤ kind ∧ kind ≤ 4))]) ∧ Since w w' := by
  have G := (Since.refl w).alloc (.cells #[.int .i64 kind, .int .i64 at_, .int .i64 half, .int .i64 turn] 34)
  by_cases h0 : kind = 0
  · subst h0
    go_enter Try.func28, Try.ntmps28
    go_wp2
    go_returns
    exact ⟨rfl, G⟩
  by_cases h1 : kind = 1
  · subst h1
    go_enter Try.func28, Try.ntmps28
    go_wp2
    go_returns
    exact ⟨rfl, G⟩
  by_cases h2 : kind = 2
  · subst h2
    go_enter Try.func28, Try.ntmps28
    go_wp2
    go_returns
    exact ⟨rfl, G⟩
  by_cases h3 : kind = 3
  · subst h3
    go_enter Try.func28, Try.ntmps28
    go_wp2
    go_returns
    exact ⟨rfl, G⟩
  by_cases h4 : kind = 4
  · subst h4
    go_enter Try.func28, Try.ntmps28
    go_wp2
    go_returns
    exact ⟨rfl, G⟩
  have e : fateVal kind half turn = .nilIface := by simp [fateVal, h0, h1, h2, h3, h4]
  have e' : decide (0 ≤ kind ∧ kind ≤ 4) = false := by simp; omega
  rw [e, e']
  clear e e'
  have b0 : (kind == 0) = false := by simpa using h0
  have b1 : (kind == 1) = false := by simpa using h1
  have b2 : (kind == 2) = false := by simpa using h2
  have b3 : (kind == 3) = false := by simpa using h3
  have b4 : (kind == 4) = false := by simpa using h4
  clear h0 h1 h2 h3 h4
  go_enter Try.func28, Try.ntmps28
  go_wp2
  go_returns
  exact ⟨rfl, G⟩

theorem leaves0 (w : World) : Calls Try.prog 63 #[.agg #[]] w fun e w' => e = .returned (.bool true) ∧ Since w w' := by
  go_enter Try.func63, Try.ntmps63
  go_wp2
  go_returns
  exact ⟨rfl, by repeat (first | exact Since.refl _ | apply Since.drew | apply Since.alloc)⟩

theorem leaves1 (w : World) : Calls Try.prog 64 #[.agg #[]] w fun e w' => e = .returned (.bool false) ∧ Since w w' := by
  go_enter Try.func64, Try.ntmps64
  go_wp2
  go_returns
  exact ⟨rfl, by repeat (first | exact Since.refl _ | apply Since.drew | apply Since.alloc)⟩

theorem leaves3 (w : World) : Calls Try.prog 66 #[.agg #[]] w fun e w' => e = .returned (.bool true) ∧ Since w w' := by
  go_enter Try.func66, Try.ntmps66
  go_wp2
  go_returns
  exact ⟨rfl, by repeat (first | exact Since.refl _ | apply Since.drew | apply Since.alloc)⟩

theorem leaves4 (w : World) : Calls Try.prog 67 #[.agg #[]] w fun e w' => e = .returned (.bool true) ∧ Since w w' := by
  go_enter Try.func67, Try.ntmps67
  go_wp2
  go_returns
  exact ⟨rfl, by repeat (first | exact Since.refl _ | apply Since.drew | apply Since.alloc)⟩

theorem leaves2 (h t : Int) (w : World) : Calls Try.prog 65 #[.agg #[.int .i64 h, .int .i64 t]] w fun e w' => e = .returned (.bool false) ∧ Since w w' := by
  go_enter Try.func65, Try.ntmps65
  go_wp2
  go_returns
  exact ⟨rfl, by repeat (first | exact Since.refl _ | apply Since.drew | apply Since.alloc)⟩

set_option maxHeartbeats 1000000 in
set_option maxRecDepth 10000 in
theorem befall0 (B g n cap i : Nat) (ss : List ByteArray) (hi : i < n) (hn : n ≤ 200) (w : World) (T : Texts w B g n cap ss) :
    Calls Try.prog 29 #[.slice (some ⟨g, 0, none⟩) n cap, .int .i64 (i : Int), .iface 71 (.agg #[])] w fun e w' => e = .returned (.tuple #[.slice (some ⟨g, 0, none⟩) (n - 1) cap, .string ByteArray.empty, .bool false]) ∧ Texts w' B g (n - 1) cap (without ss i) ∧ Touch g w w' := by
  have hc := T.cell i hi
  have ta0 : ∀ wx, (Instr.typeAssert (.iface 71 (.agg #[])) 59 71 true).run Try.prog wx = .ok (.tuple #[.agg #[], .bool true]) wx := fun wx => by kernel_rfl
  have hlt : (i : Int) < (n : Int) := by omega
  have hd := fun wx (h : Since w wx) => delText B g n cap i ss hi wx (T.since h)
  go_enter Try.func29, Try.ntmps29
  go_wp2_with (first | (go_at_call 63; refine (leaves0 _).mono ?_; rintro _ w0 ⟨rfl, g0⟩) | (go_at_call 37; refine (hd _ g0).mono ?_; rintro _ w1 ⟨rfl, T1, t1⟩))
  go_returns
  exact ⟨rfl, T1.since ((Since.refl _).alloc _), ((Touch.of_since g0 g).trans t1).alloc _⟩

set_option maxHeartbeats 1000000 in
set_option maxRecDepth 10000 in
theorem befall4 (B g n cap i : Nat) (ss : List ByteArray) (hi : i < n) (hn : n ≤ 200) (w : World) (T : Texts w B g n cap ss) :
    Calls Try.prog 29 #[.slice (some ⟨g, 0, none⟩) n cap, .int .i64 (i : Int), .iface 76 (.agg #[])] w fun e w' => e = .returned (.tuple #[.slice (some ⟨g, 0, none⟩) (n - 1) cap, .string (txt ss i), .bool true]) ∧ Texts w' B g (n - 1) cap (without ss i) ∧ Touch g w w' := by
  have hc := T.cell i hi
  have ta0 : ∀ wx, (Instr.typeAssert (.iface 76 (.agg #[])) 59 71 true).run Try.prog wx = .ok (.tuple #[.agg #[], .bool false]) wx := fun wx => by kernel_rfl
  have ta1 : ∀ wx, (Instr.typeAssert (.iface 76 (.agg #[])) 59 72 true).run Try.prog wx = .ok (.tuple #[.agg #[], .bool false]) wx := fun wx => by kernel_rfl
  have ta2 : ∀ wx, (Instr.typeAssert (.iface 76 (.agg #[])) 59 74 true).run Try.prog wx = .ok (.tuple #[.agg #[.int .i64 0, .int .i64 0], .bool false]) wx := fun wx => by kernel_rfl
  have ta3 : ∀ wx, (Instr.typeAssert (.iface 76 (.agg #[])) 59 75 true).run Try.prog wx = .ok (.tuple #[.agg #[], .bool false]) wx := fun wx => by kernel_rfl
  have ta4 : ∀ wx, (Instr.typeAssert (.iface 76 (.agg #[])) 59 76 true).run Try.prog wx = .ok (.tuple #[.agg #[], .bool true]) wx := fun wx => by kernel_rfl
  have hlt : (i : Int) < (n : Int) := by omega
  have hd := fun wx (h : Since w wx) => delText B g n cap i ss hi wx (T.since h)
  go_enter Try.func29, Try.ntmps29
  go_wp2_with (first | (go_at_call 67; refine (leaves4 _).mono ?_; rintro _ w0 ⟨rfl, g0⟩) | (go_at_call 37; refine (hd _ g0).mono ?_; rintro _ w1 ⟨rfl, T1, t1⟩))
  go_returns
  exact ⟨rfl, T1.since ((Since.refl _).alloc _), ((Touch.of_since g0 g).trans t1).alloc _⟩

set_option maxHeartbeats 1000000 in
set_option maxRecDepth 10000 in
theorem befall3 (B g n cap i : Nat) (ss : List ByteArray) (hi : i < n) (hn : n ≤ 200) (w : World) (hB : B ≤ w.heap.size) (T : Texts w B g n cap ss) :
    Calls Try.prog 29 #[.slice (some ⟨g, 0, none⟩) n cap, .int .i64 (i : Int), .iface 75 (.agg #[])] w fun e w' => ∃ g' c', e = .returned (.tuple #[.slice (some ⟨g', 0, none⟩) n c', .string ByteArray.empty, .bool false]) ∧ Texts w' B g' n c' (without ss i ++ [txt ss i]) ∧ Touch g w w' ∧ (g' = g ∨ w.heap.size ≤ g') := by
  have hc := T.cell i hi
  have ta0 : ∀ wx, (Instr.typeAssert (.iface 75 (.agg #[])) 59 71 true).run Try.prog wx = .ok (.tuple #[.agg #[], .bool false]) wx := fun wx => by kernel_rfl
  have ta1 : ∀ wx, (Instr.typeAssert (.iface 75 (.agg #[])) 59 72 true).run Try.prog wx = .ok (.tuple #[.agg #[], .bool false]) wx := fun wx => by kernel_rfl
  have ta2 : ∀ wx, (Instr.typeAssert (.iface 75 (.agg #[])) 59 74 true).run Try.prog wx = .ok (.tuple #[.agg #[.int .i64 0, .int .i64 0], .bool false]) wx := fun wx => by kernel_rfl
  have ta3 : ∀ wx, (Instr.typeAssert (.iface 75 (.agg #[])) 59 75 true).run Try.prog wx = .ok (.tuple #[.agg #[], .bool true]) wx := fun wx => by kernel_rfl
  have hlt : (i : Int) < (n : Int) := by omega
  have hd := fun wx (h : Since w wx) => delText B g n cap i ss hi wx (T.since h)
  have hn1 : n - 1 + 1 = n := by omega
  go_enter Try.func29, Try.ntmps29
  go_wp2_with (first | (go_at_call 66; refine (leaves3 _).mono ?_; rintro _ w0 ⟨rfl, g0⟩; have z0 := g0.le) | (go_at_call 37; refine (hd _ g0).mono ?_; rintro _ w1 ⟨rfl, T1, t1⟩; have z1 := t1.le) | (at_builtin; refine app_texts2 rfl _ _ rfl rfl (T1.since (((Since.refl _).alloc _).alloc _)) rfl (one_reads' _ _ _ (by simp)) (by omega) (by simp; omega) ?_))
  intro g' c' w4 T4 t4 hw4
  try simp only [World.size_alloc] at hw4
  replace hw4 : Hid _ := hw4
  try rw [hn1] at T4
  go_wp2
  go_returns
  refine ⟨g', c', by first | rfl | (rw [hn1]; rfl), T4, ?_, by rcases hw4.out with h | h <;> omega⟩
  exact (((Touch.of_since g0 g).trans t1).trans (Touch.of_since (((Since.refl _).alloc _).alloc _) g)).trans t4

set_option maxHeartbeats 1000000 in
set_option maxRecDepth 10000 in
theorem befall1 (B g n cap i : Nat) (ss : List ByteArray) (hi : i < n) (hn : n ≤ 200) (hs : (txt ss i).size ≤ 2000) (w : World) (hB : B ≤ w.heap.size) (T : Texts w B g n cap ss) :
    Calls Try.prog 29 #[.slice (some ⟨g, 0, none⟩) n cap, .int .i64 (i : Int), .iface 72 (.agg #[])] w fun e w' => ∃ g' m c', e = .returned (.tuple #[.slice (some ⟨g', 0, none⟩) m c', .string ByteArray.empty, .bool false]) ∧ Texts w' B g' m c' (if n < 200 then ss ++ [txt ss i] else ss) ∧ Touch g w w' ∧ (g' = g ∨ w.heap.size ≤ g') := by
  have hc := T.cell i hi
  have ta0 : ∀ wx, (Instr.typeAssert (.iface 72 (.agg #[])) 59 71 true).run Try.prog wx = .ok (.tuple #[.agg #[], .bool false]) wx := fun wx => by kernel_rfl
  have ta1 : ∀ wx, (Instr.typeAssert (.iface 72 (.agg #[])) 59 72 true).run Try.prog wx = .ok (.tuple #[.agg #[], .bool true]) wx := fun wx => by kernel_rfl
  have hlt : (i : Int) < (n : Int) := by omega
  have hcl := fun wx => clone (txt ss i) (by omega) wx
  by_cases h2 : (n : Int) < 200
  · rw [if_pos (by omega)]
    go_enter Try.func29, Try.ntmps29
    go_wp2_with (first | (go_at_call 64; refine (leaves1 _).mono ?_; rintro _ w0 ⟨rfl, g0⟩; have z0 := g0.le) | (go_at_call 24; refine (hcl _).mono ?_; rintro _ w1 ⟨rfl, g1⟩; have T1 := T.since (g0.trans (Since.trans ((Since.refl _).alloc _) g1)); have z1 := g1.le; simp only [World.size_alloc] at z1) | (at_builtin; refine app_texts2 rfl _ _ rfl rfl (T1.since ((Since.refl _).alloc _)) rfl (one_reads _ _) (by omega) (by simp; omega) ?_))
    intro g' c' w4 T4 t4 hw4
    try simp only [World.size_alloc] at hw4
    replace hw4 : Hid _ := hw4
    go_wp2
    go_returns
    refine ⟨g', n + 1, c', rfl, T4, ?_, by rcases hw4.out with h | h <;> omega⟩
    exact (Touch.of_since (g0.trans (Since.trans ((Since.refl _).alloc _) (g1.trans ((Since.refl _).alloc _)))) g).trans t4
  · rw [if_neg (by omega)]
    go_enter Try.func29, Try.ntmps29
    go_wp2_with (go_at_call 64; refine (leaves1 _).mono ?_; rintro _ w0 ⟨rfl, g0⟩)
    go_returns
    exact ⟨g, n, cap, rfl, T.since (g0.trans ((Since.refl _).alloc _)), Touch.of_since (g0.trans ((Since.refl _).alloc _)) g, .inl rfl⟩

set_option maxHeartbeats 1000000 in
set_option maxRecDepth 10000 in
theorem befall2 (B g n cap i : Nat) (ss : List ByteArray) (half turn : Int) (hi : i < n) (hn : n ≤ 200) (hs : (txt ss i).size ≤ 2000) (w : World) (T : Texts w B g n cap ss) :
    Calls Try.prog 29 #[.slice (some ⟨g, 0, none⟩) n cap, .int .i64 (i : Int), .iface 74 (.agg #[.int .i64 half, .int .i64 turn])] w fun e w' => e = .returned (.tuple #[.slice (some ⟨g, 0, none⟩) n cap, .string ByteArray.empty, .bool false]) ∧ Texts w' B g n cap (if shows (txt ss i) half turn = true then ss.set i (turnOf (txt ss i) half turn) else ss) ∧ Touch g w w' := by
  have hc := T.cell i hi
  have ta0 : ∀ wx, (Instr.typeAssert (.iface 74 (.agg #[.int .i64 half, .int .i64 turn])) 59 71 true).run Try.prog wx = .ok (.tuple #[.agg #[], .bool false]) wx := fun wx => by kernel_rfl
  have ta1 : ∀ wx, (Instr.typeAssert (.iface 74 (.agg #[.int .i64 half, .int .i64 turn])) 59 72 true).run Try.prog wx = .ok (.tuple #[.agg #[], .bool false]) wx := fun wx => by kernel_rfl
  have ta2 : ∀ wx, (Instr.typeAssert (.iface 74 (.agg #[.int .i64 half, .int .i64 turn])) 59 74 true).run Try.prog wx = .ok (.tuple #[.agg #[.int .i64 half, .int .i64 turn], .bool true]) wx := fun wx => by kernel_rfl
  have hlt : (i : Int) < (n : Int) := by omega
  have hsh := fun wx => implShows (txt ss i) half turn (by omega) wx
  have htu := fun wx => implTurned (txt ss i) half turn (by omega) wx
  cases hb : shows (txt ss i) half turn
  · rw [hb] at hsh
    rw [if_neg (by simp)]
    clear htu hb
    go_enter Try.func29, Try.ntmps29
    go_wp2_with (first | (go_at_call 65; refine (leaves2 _ _ _).mono ?_; rintro _ w0 ⟨rfl, g0⟩) | (go_at_call 38; refine (hsh _).mono ?_; rintro _ w1 ⟨rfl, g1⟩))
    go_returns
    have k : Since w w1 := g0.trans (Since.trans ((Since.refl _).alloc _) g1)
    exact ⟨rfl, T.since k, Touch.of_since k g⟩
  · rw [hb] at hsh
    rw [if_pos rfl]
    clear hb
    go_enter Try.func29, Try.ntmps29
    go_wp2_with (first | (go_at_call 65; refine (leaves2 _ _ _).mono ?_; rintro _ w0 ⟨rfl, g0⟩; have F := Blk.new w0 #[.int .i64 half, .int .i64 turn] 74) | (go_at_call 38; refine (hsh _).mono ?_; rintro _ w1 ⟨rfl, g1⟩; replace g1 : Since _ w1 := g1; replace F := F.since g1; have c0 : w1.cell? ⟨w0.heap.size, 0, none⟩ = some (.int .i64 half) := F.cell 0; have c1 : w1.cell? ⟨w0.heap.size, 1, none⟩ = some (.int .i64 turn) := F.cell 1) | (go_at_call 39; refine (htu _).mono ?_; rintro _ w2 ⟨rfl, g2⟩; replace g2 : Since w1 w2 := g2; have T2 := T.since (g0.trans (Since.trans ((Since.refl _).alloc _) (Since.trans g1 g2))); have hc2 := T2.cell i hi; have hf2 := T2.free i))
    go_returns
    have k : Since w w2 := g0.trans (Since.trans ((Since.refl _).alloc _) (Since.trans g1 g2))
    exact ⟨rfl, T2.set i hi _, (Touch.of_since k g).put i _⟩
end Go.Proofs.Ythjdcgckonckoaa
