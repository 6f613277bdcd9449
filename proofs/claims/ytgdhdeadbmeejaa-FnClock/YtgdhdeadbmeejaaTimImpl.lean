/-
  Contracts of impl's ClockStop and ClockSet.
-/
import Derived.Test.YtgdhdeadbmeejaaWheelClock
namespace Go.Proofs.Ytgdhdeadbmeejaa
open Go.ChangeShapes Go.WideShapes Go.ChangeAt Go.RowKit Go.Deep Go.Sort Go.Maps
set_option linter.unusedVariables false

theorem Far.before {B : Nat} {w w' : World} (h : Far (fun k => B ≤ k) w w') (x : World) (hx : Since x w) (hB : x.heap.size ≤ B) : Since x w' := ((Far.of_since (P := fun k => B ≤ k) hx).trans h).since (fun k hk => Nat.le_trans hB hk)

theorem Blk.far {B b : Nat} {w w' : World} {cs : Array Value} (k : Blk b w cs) (h : Far (fun k => B ≤ k) w w') (hb : b < B) : Blk b w' cs := by
  have hh := h.block b k.lt (by omega)
  exact ⟨Nat.lt_of_lt_of_le k.lt h.size, fun i => (World.frozen?_of_block (w := w) (w' := w') (a := ⟨b, i, none⟩) hh).trans (k.fz i), fun i => (World.cell?_of_block (w := w) (w' := w') (a := ⟨b, i, none⟩) hh).trans (k.cell i)⟩

theorem runOf {w : World} {B b bm : Nat} {now : Int} {vs : Nat → Value} {rows : Nat → List (Int × Int)} {ts : List (Int × Int)} (hok : okC now ts) (hB : B ≤ w.heap.size) (W : Wheels w B b bm now vs rows) (D : Due w bm ts) (P : Placed now rows ts) (ht : total rows = ts.length) (hS : Sane rows) : Run w B b now ts 100 := ⟨hok, hB, bm, vs, rows, W, D, P, hS, by have := hok.2.1; omega⟩

set_option maxHeartbeats 2000000 in
theorem implStop (now : Int) (a : Option Addr) (n cap : Nat) (ts : List (Int × Int)) (id : Int) (w : World) (R : Rd shT w a n ts) (hn : n ≤ 1048576) (hnil : a = none → cap = 0) (hid : I64 id) :
    Calls Try.prog 12 #[.agg #[.int .i64 now, .slice a n cap], .int .i64 id] w fun e w' => ∃ g m c, e = .returned (.tuple #[.agg #[.int .i64 now, .slice (some ⟨g, 0, none⟩) m c], .bool (stopC now ts id).2]) ∧ Held shT w' w.heap.size g m c (stopC now ts id).1 ∧ Since w w' := by
  obtain ⟨r, hr⟩ : ∃ r, Hid (r = stopC now ts id) := ⟨_, rfl⟩
  rw [← hr.out]
  have G : Since w ((w.alloc (.cells #[.int .i64 now, .slice a n cap] 26)).alloc (.cells #[.int .i64 0, .slice none 0 0] 26)) := ((Since.refl _).alloc _).alloc _
  have A := (Blk.new w #[.int .i64 now, .slice a n cap] 26).since ((Since.refl _).alloc (.cells #[.int .i64 0, .slice none 0 0] 26))
  have B := Blk.new (w.alloc (.cells #[.int .i64 now, .slice a n cap] 26)) #[.int .i64 0, .slice none 0 0] 26
  simp only [World.size_alloc] at A B
  have hok1 := implClockOk now a n cap ts _ (R.since G)
  go_enter Try.func12, Try.ntmps12
  go_wp2_with (fail)
  refine hok1.mono ?_
  rintro _ w2 ⟨rfl, k2⟩
  replace A := A.since k2
  replace B := B.since k2
  replace G := G.trans k2
  have cA0 := A.cell 0
  have cA1 := A.cell 1
  simp at cA0 cA1
  have hBl := B.lt
  have hAl := A.lt
  by_cases hok : okC now ts
  · have hd : decide (okC now ts) = true := by simpa using hok
    rw [hd]
    have hwo := wheelsOf now a n cap ts w2 (R.since G) hok
    clear hok1 R
    go_wp2_with (go_at_call 21; refine hwo.mono ?_; rintro _ w3 ⟨b, bm, vs, rows, rfl, W, D, P, ht, hS, k3⟩)
    have R3 := runOf hok (by exact k3.le) W D P ht hS
    refine (stopW R3 id hid).mono ?_
    rintro _ w4 ⟨rfl, R4, F4⟩
    rw [← hr.out] at R4 ⊢
    clear W D P ht
    have G4 := F4.before w (G.trans k3) (by omega)
    have B4 := (B.since k3).far F4 (by omega)
    go_wp2_with (fail)
    refine (clockW R4).mono ?_
    rintro _ w5 ⟨g, m, c, rfl, T5, k5⟩
    replace B4 := B4.since k5
    replace G4 := G4.trans k5
    have b0 := B4.cell 0
    have b1 := B4.cell 1
    simp at b0 b1
    have f0 := B4.fz 0
    have f1 := B4.fz 1
    have hlow := T5.low'
    have hs4 := R4.base
    go_wp2
    refine bodyPost_ret (v := .tuple #[.agg #[.int .i64 now, .slice (some ⟨g, 0, none⟩) m c], .bool r.2]) ?_ rfl ⟨g, m, c, rfl, ?_, ?_⟩
    · simp [results, go_sem, b0, b1]
    · exact ((T5.other (by omega) _ _).other (by omega) _ _).raise (by omega)
    · exact since_put1 (since_put1 G4 (by omega) _ _) (by omega) _ _
  · have hd : decide (okC now ts) = false := by simpa using hok
    rw [hd]
    have hre : Hid (r = (ts, false)) := hr.out.trans (by unfold stopC; rw [if_neg (fun h => hok h.1)])
    have hcp := implFresh now a n cap ts _ (R.since G) hn hnil
    clear hok1 R
    go_wp2_with (go_at_call 20; refine hcp.mono ?_; rintro _ w3 ⟨g3, c3, rfl, T3, k3⟩; replace B := B.since k3; have b0 := B.cell 0; have b1 := B.cell 1; simp at b0 b1; have f0 := B.fz 0; have f1 := B.fz 1)
    have hlow3 := T3.low'
    refine bodyPost_ret (v := .tuple #[.agg #[.int .i64 now, .slice (some ⟨g3, 0, none⟩) n c3], .bool false]) ?_ rfl ⟨g3, n, c3, by rw [hre.out], ?_, ?_⟩
    · simp [results, go_sem, b0, b1]
    · rw [hre.out]
      exact ((T3.other (by omega) _ _).other (by omega) _ _).raise (by omega)
    · exact since_put1 (since_put1 (G.trans k3) (by omega) _ _) (by omega) _ _

set_option maxHeartbeats 2000000 in
theorem implSet (now : Int) (a : Option Addr) (n cap : Nat) (ts : List (Int × Int)) (id wait : Int) (w : World) (R : Rd shT w a n ts) (hn : n ≤ 1048576) (hnil : a = none → cap = 0) (hid : I64 id) :
    Calls Try.prog 11 #[.agg #[.int .i64 now, .slice a n cap], .int .i64 id, .int .i64 wait] w fun e w' => ∃ g m c, e = .returned (.tuple #[.agg #[.int .i64 now, .slice (some ⟨g, 0, none⟩) m c], .bool (setC now ts id wait).2]) ∧ Held shT w' w.heap.size g m c (setC now ts id wait).1 ∧ Since w w' := by
  obtain ⟨r, hr⟩ : ∃ r, Hid (r = setC now ts id wait) := ⟨_, rfl⟩
  rw [← hr.out]
  have G : Since w ((w.alloc (.cells #[.int .i64 now, .slice a n cap] 26)).alloc (.cells #[.int .i64 0, .slice none 0 0] 26)) := ((Since.refl _).alloc _).alloc _
  have A := (Blk.new w #[.int .i64 now, .slice a n cap] 26).since ((Since.refl _).alloc (.cells #[.int .i64 0, .slice none 0 0] 26))
  have B := Blk.new (w.alloc (.cells #[.int .i64 now, .slice a n cap] 26)) #[.int .i64 0, .slice none 0 0] 26
  simp only [World.size_alloc] at A B
  have hok1 := implClockOk now a n cap ts _ (R.since G)
  go_enter Try.func11, Try.ntmps11
  go_wp2_with (fail)
  refine hok1.mono ?_
  rintro _ w2 ⟨rfl, k2⟩
  replace A := A.since k2
  replace B := B.since k2
  replace G := G.trans k2
  have cA0 := A.cell 0
  have cA1 := A.cell 1
  simp at cA0 cA1
  have hBl := B.lt
  have hAl := A.lt
  by_cases hok : okC now ts
  · have hd : decide (okC now ts) = true := by simpa using hok
    rw [hd]
    have hwo := wheelsOf now a n cap ts w2 (R.since G) hok
    clear hok1 R
    go_wp2_with (go_at_call 21; refine hwo.mono ?_; rintro _ w3 ⟨b, bm, vs, rows, rfl, W, D, P, ht, hS, k3⟩)
    have R3 := runOf hok (by exact k3.le) W D P ht hS
    refine (setW R3 (by omega) id wait hid).mono ?_
    rintro _ w4 ⟨rfl, R4, F4⟩
    rw [← hr.out] at R4 ⊢
    clear W D P ht
    have G4 := F4.before w (G.trans k3) (by omega)
    have B4 := (B.since k3).far F4 (by omega)
    go_wp2_with (fail)
    refine (clockW R4).mono ?_
    rintro _ w5 ⟨g, m, c, rfl, T5, k5⟩
    replace B4 := B4.since k5
    replace G4 := G4.trans k5
    have b0 := B4.cell 0
    have b1 := B4.cell 1
    simp at b0 b1
    have f0 := B4.fz 0
    have f1 := B4.fz 1
    have hlow := T5.low'
    have hs4 := R4.base
    go_wp2
    refine bodyPost_ret (v := .tuple #[.agg #[.int .i64 now, .slice (some ⟨g, 0, none⟩) m c], .bool r.2]) ?_ rfl ⟨g, m, c, rfl, ?_, ?_⟩
    · simp [results, go_sem, b0, b1]
    · exact ((T5.other (by omega) _ _).other (by omega) _ _).raise (by omega)
    · exact since_put1 (since_put1 G4 (by omega) _ _) (by omega) _ _
  · have hd : decide (okC now ts) = false := by simpa using hok
    rw [hd]
    have hre : Hid (r = (ts, false)) := hr.out.trans (by unfold setC; rw [if_neg (fun h => hok h.1)])
    have hcp := implFresh now a n cap ts _ (R.since G) hn hnil
    clear hok1 R
    go_wp2_with (go_at_call 20; refine hcp.mono ?_; rintro _ w3 ⟨g3, c3, rfl, T3, k3⟩; replace B := B.since k3; have b0 := B.cell 0; have b1 := B.cell 1; simp at b0 b1; have f0 := B.fz 0; have f1 := B.fz 1)
    have hlow3 := T3.low'
    refine bodyPost_ret (v := .tuple #[.agg #[.int .i64 now, .slice (some ⟨g3, 0, none⟩) n c3], .bool false]) ?_ rfl ⟨g3, n, c3, by rw [hre.out], ?_, ?_⟩
    · simp [results, go_sem, b0, b1]
    · rw [hre.out]
      exact ((T3.other (by omega) _ _).other (by omega) _ _).raise (by omega)
    · exact since_put1 (since_put1 (G.trans k3) (by omega) _ _) (by omega) _ _

end Go.Proofs.Ytgdhdeadbmeejaa
