/-
  Contracts of both ClockNext.
-/
import Derived.Test.YtgdhdeadbmeejaaTimOkI
namespace Go.Proofs.Ytgdhdeadbmeejaa
open Go.ChangeShapes Go.WideShapes Go.ChangeAt Go.RowKit Go.Deep Go.Sort Go.Maps
set_option linter.unusedVariables false

/-- What ClockNext answers. -/
def nextC (now : Int) (ts : List (Int × Int)) : Int := if okC now ts ∧ ts.length ≠ 0 then (tAt ts 0).2 - now else -1

theorem okC_all {now : Int} {ts : List (Int × Int)} (h : okC now ts) (i : Nat) (hi : i < ts.length) : okT now (tAt ts i) := h.2.2.1 _ (tAt_mem hi)

set_option maxHeartbeats 1000000 in
theorem implNext (now : Int) (a : Option Addr) (n cap : Nat) (ts : List (Int × Int)) (w : World) (R : Rd shT w a n ts) :
    Calls Try.prog 14 #[.agg #[.int .i64 now, .slice a n cap]] w fun e w' => e = .returned (.int .i64 (nextC now ts)) ∧ Since w w' := by
  have S0 : Since w (w.alloc (.cells #[.int .i64 now, .slice a n cap] 26)) := (Since.refl _).alloc _
  have hok := implClockOk now a n cap ts _ (R.since S0)
  have C0 := Blk.new w #[.int .i64 now, .slice a n cap] 26
  obtain ⟨ans, hans⟩ : ∃ ans, Hid (ans = nextC now ts) := ⟨_, rfl⟩
  rw [← hans.out]
  have hlen := R.len
  by_cases h : okC now ts
  · have hd : decide (okC now ts) = true := by simpa using h
    rw [hd] at hok
    by_cases h0 : n = 0
    · subst h0
      have hA : Hid (ans = -1) := hans.out.trans (by unfold nextC; rw [if_neg (by simp [hlen])])
      go_enter Try.func14, Try.ntmps14
      go_wp2_with (go_at_call 10; refine hok.mono ?_; rintro _ w1 ⟨rfl, g1⟩; have C1 := C0.since g1; have d1 := C1.cell 1; simp at d1)
      go_ret
      exact ⟨by rw [hA.out]; rfl, S0.trans g1⟩
    · have hA : Hid (ans = (tAt ts 0).2 - now) := hans.out.trans (by unfold nextC; rw [if_pos ⟨h, by omega⟩])
      have ho := okC_all h 0 (by omega)
      have hnow := h.1
      unfold okT at ho
      have hR := fun (wx : World) (hx : Since w wx) => (R.since hx).tim 0 (by omega)
      generalize tAt ts 0 = O at hA ho hR
      have hw1 : IntKind.i64.wrap (O.2 - now) = O.2 - now := by rw [IntWalk.i64_left]; exact IntWalk.wrap64_in _ ⟨by omega, by omega⟩
      have hn0 : ((n : Int) == 0) = false := by simp; omega
      have hn1 : (0 : Int) < (n : Int) := by omega
      replace hR : Hid _ := hR
      clear hd R ho hnow
      go_enter Try.func14, Try.ntmps14
      go_wp2_with (go_at_call 10; refine hok.mono ?_; rintro _ w1 ⟨rfl, g1⟩; have C1 := C0.since g1; have d0 := C1.cell 0; have d1 := C1.cell 1; simp at d0 d1; obtain ⟨x, rfl, hb, q0, q1⟩ := hR.out w1 (S0.trans g1); simp only [Nat.zero_mul, Addr.add, if_true] at q0 q1)
      go_quiet (fail)
      go_wp2
      go_ret
      exact ⟨by rw [hA.out]; rfl, since_drews (S0.trans g1) _⟩
  · have hd : decide (okC now ts) = false := by simpa using h
    rw [hd] at hok
    have hA : Hid (ans = -1) := hans.out.trans (by unfold nextC; rw [if_neg (fun h' => h h'.1)])
    go_enter Try.func14, Try.ntmps14
    go_wp2_with (go_at_call 10; refine hok.mono ?_; rintro _ w1 ⟨rfl, g1⟩)
    go_ret
    exact ⟨by rw [hA.out]; rfl, S0.trans g1⟩
end Go.Proofs.Ytgdhdeadbmeejaa
