/-
  Contract of impl's ClockGo.
-/
import Derived.Test.YtgdhdeadbmeejaaTimImpl
import Derived.Test.YtgdhdeadbmeejaaWheelPass
namespace Go.Proofs.Ytgdhdeadbmeejaa
open Go.ChangeShapes Go.WideShapes Go.ChangeAt Go.RowKit Go.Deep Go.Sort Go.Maps
set_option linter.unusedVariables false

set_option maxHeartbeats 2000000 in
theorem implGo (now : Int) (a : Option Addr) (n cap : Nat) (ts : List (Int × Int)) (ticks : Int) (w : World) (R : Rd shT w a n ts) (hn : n ≤ 1048576) (hnil : a = none → cap = 0) :
    Calls Try.prog 7 #[.agg #[.int .i64 now, .slice a n cap], .int .i64 ticks] w fun e w' => ∃ g m c gq q cq, e = .returned (.tuple #[.agg #[.int .i64 (goC now ts ticks).1, .slice (some ⟨g, 0, none⟩) m c], .slice (some ⟨gq, 0, none⟩) q cq]) ∧ Held shT w' w.heap.size g m c (goC now ts ticks).2.1 ∧ Held shI w' w.heap.size gq q cq (goC now ts ticks).2.2 ∧ Since w w' := by
  obtain ⟨r, hr⟩ : ∃ r, Hid (r = goC now ts ticks) := ⟨_, rfl⟩
  rw [← hr.out]
  have G : Since w ((w.alloc (.cells #[.int .i64 now, .slice a n cap] 26)).alloc (.cells #[.int .i64 0, .slice none 0 0] 26)) := ((Since.refl _).alloc _).alloc _
  have A := (Blk.new w #[.int .i64 now, .slice a n cap] 26).since ((Since.refl _).alloc (.cells #[.int .i64 0, .slice none 0 0] 26))
  have B := Blk.new (w.alloc (.cells #[.int .i64 now, .slice a n cap] 26)) #[.int .i64 0, .slice none 0 0] 26
  simp only [World.size_alloc] at A B
  have hok1 := implClockOk now a n cap ts _ (R.since G)
  go_enter Try.func7, Try.ntmps7
  go_wp2_with (fail)
  refine hok1.mono ?_
  rintro _ w2 ⟨rfl, k2⟩
  replace A := A.since k2
  replace B := B.since k2
  replace G := G.trans k2
  have cA0 := A.cell 0
  have cA1 := A.cell 1
  simp at cA0 cA1
  have hBl := B.lt
  have hAl := A.lt
  by_cases hok : okC now ts
  · have hd : decide (okC now ts) = true := by simpa using hok
    rw [hd]
    have hwo := wheelsOf now a n cap ts w2 (R.since G) hok
    clear hok1 R
    go_wp2_with (go_at_call 21; refine hwo.mono ?_; rintro _ w3 ⟨b, bm, vs, rows, rfl, W, D, P, ht, hS, k3⟩)
    have R3 := runOf hok (by exact k3.le) W D P ht hS
    refine (passW R3 (by omega) ticks).mono ?_
    rintro _ w4 ⟨gq, q, cq, rfl, Q4, R4, F4⟩
    rw [← hr.out] at R4 Q4
    clear W D P ht hS
    have G4 := F4.before w (G.trans k3) (by omega)
    have B4 := (B.since k3).far F4 (by omega)
    have hk3 := k3.le
    go_wp2_with (fail)
    refine (clockW R4).mono ?_
    rintro _ w5 ⟨g, m, c, rfl, T5, k5⟩
    replace B4 := B4.since k5
    replace G4 := G4.trans k5
    replace Q4 := Q4.since k5
    have b0 := B4.cell 0
    have b1 := B4.cell 1
    simp at b0 b1
    have f0 := B4.fz 0
    have f1 := B4.fz 1
    have hlow := T5.low'
    have hlowQ := Q4.low'
    have hs4 := R4.base
    go_wp2
    refine bodyPost_ret (v := .tuple #[.agg #[.int .i64 r.1, .slice (some ⟨g, 0, none⟩) m c], .slice (some ⟨gq, 0, none⟩) q cq]) ?_ rfl ⟨g, m, c, gq, q, cq, rfl, ?_, ?_, ?_⟩
    · simp [results, go_sem, b0, b1]
    · exact ((T5.other (by omega) _ _).other (by omega) _ _).raise (by omega)
    · exact ((Q4.other (by omega) _ _).other (by omega) _ _).raise (by omega)
    · exact since_put1 (since_put1 G4 (by omega) _ _) (by omega) _ _
  · have hd : decide (okC now ts) = false := by simpa using hok
    rw [hd]
    have hre : Hid (r = (now, ts, [])) := hr.out.trans (by unfold goC; rw [if_neg (fun h => hok h.1)])
    have hcp := implFresh now a n cap ts _ (R.since G) hn hnil
    clear hok1 R
    go_wp2_with (go_at_call 20; refine hcp.mono ?_; rintro _ w3 ⟨g3, c3, rfl, T3, k3⟩; replace B := B.since k3; have b0 : (w3.alloc (.cells #[] 3)).cell? ⟨w.heap.size + 1, 0, none⟩ = some (.int .i64 0) := (B.since ((Since.refl _).alloc _)).cell 0; have b1 : (w3.alloc (.cells #[] 3)).cell? ⟨w.heap.size + 1, 1, none⟩ = some (.slice none 0 0) := (B.since ((Since.refl _).alloc _)).cell 1; have f0 : (w3.alloc (.cells #[] 3)).frozen? ⟨w.heap.size + 1, 0, none⟩ = false := (B.since ((Since.refl _).alloc _)).fz 0; have f1 : (w3.alloc (.cells #[] 3)).frozen? ⟨w.heap.size + 1, 1, none⟩ = false := (B.since ((Since.refl _).alloc _)).fz 1)
    have hlow3 := T3.low'
    have hB3 := B.lt
    have Q3 : Held shI (w3.alloc (.cells #[] 3)) w3.heap.size w3.heap.size 0 0 [] := Held.empty (S := shI) w3
    have k4 : Since w3 (w3.alloc (.cells #[] 3)) := (Since.refl _).alloc _
    have T4 := T3.since k4
    refine bodyPost_ret (v := .tuple #[.agg #[.int .i64 now, .slice (some ⟨g3, 0, none⟩) n c3], .slice (some ⟨w3.heap.size, 0, none⟩) 0 0]) ?_ rfl ⟨g3, n, c3, w3.heap.size, 0, 0, by rw [hre.out], ?_, ?_, ?_⟩
    · simp [results, go_sem, b0, b1]
    · rw [hre.out]
      exact ((T4.other (by omega) _ _).other (by omega) _ _).raise (by omega)
    · rw [hre.out]
      exact ((Q3.other (by omega) _ _).other (by omega) _ _).raise (by omega)
    · exact since_put1 (since_put1 ((G.trans k3).trans k4) (by omega) _ _) (by omega) _ _
end Go.Proofs.Ytgdhdeadbmeejaa
