/-
  The draw of a piece and a window: spec's DrawOverlaps.
-/
import Derived.Test.YtffjedjkfhdolaaCode
namespace Go.Proofs.Ytffjedjkfhdolaa
open Go.ChangeShapes Go.WideShapes Go.ChangeAt Go.RowKit
set_option linter.unusedVariables false

theorem pick_n (k : Nat) (hk : k < ([-1, 0, 100000, 100001] : List Int).length) :
    (([-1, 0, 100000, 100001] : List Int).getD k 0 = -1 ∨ ([-1, 0, 100000, 100001] : List Int).getD k 0 = 0 ∨ ([-1, 0, 100000, 100001] : List Int).getD k 0 = 100000 ∨ ([-1, 0, 100000, 100001] : List Int).getD k 0 = 100001) := by
  match k, hk with
  | 0, _ => exact .inl rfl
  | 1, _ => exact .inr (.inl rfl)
  | 2, _ => exact .inr (.inr (.inl rfl))
  | 3, _ => exact .inr (.inr (.inr rfl))

theorem results_tmp4 {fn : Func} {t u v x : Tmp} (h : fn.results = #[.tmp t, .tmp u, .tmp v, .tmp x]) (tmps : Array Value) (P : Program) (w : World) :
    (results fn tmps).run P w = .ok (.tuple #[tmps.getD t undef, tmps.getD u undef, tmps.getD v undef, tmps.getD x undef]) w := by
  simp [results, h, go_sem]

theorem drawOverlaps (a : Option Addr) (len cap : Nat) (zs : List Int) (w : World) (hb : Bytes w a len zs) (hm : len ≤ 1048576) :
    Calls Try.prog 20 #[.slice a len cap] w fun e w' => ∃ s n l z : Int, e = .returned (.tuple #[.int .u32 s, .int .i64 n, .int .u32 l, .int .i64 z]) ∧ IsWord s ∧ IsWord l ∧ ((-1 ≤ n ∧ n < 100) ∨ n = 100000 ∨ n = 100001) ∧ -1 ≤ z ∧ z < 199 ∧ Below w.heap.size w w' := by
  have hnew := fun wx => drawNew a len cap zs w hb hm wx
  clear hb
  go_enter Try.func20, Try.ntmps20
  go_wp2_with (first | (go_at_call 34; refine (hnew _ (Below.refl _ _)).mono ?_; rintro _ w1 ⟨g, rfl, hg, hb1, hc1⟩) | (go_at_call 35; refine (drawWord _ (by assumption)).mono ?_; rintro _ w2 ⟨x, rfl, hx, hc2⟩) | (go_at_call 36; refine (drawNear _ (by assumption) _ (by assumption)).mono ?_; rintro _ w3 ⟨y, rfl, hy, hc3⟩) | (go_at_call 37; refine (belowP _ (by omega) _ (by assumption)).mono ?_; rintro _ w4 ⟨n, rfl, hn0, hn1, hc4⟩) | (go_at_call 38; refine (once _ _ (by assumption)).mono ?_; rintro _ w5 ⟨o, rfl, hc5⟩) | (go_at_call 39; refine (pickInt _ 4 [-1, 0, 100000, 100001] rfl (by omega) (by omega) _ (Cur.alloc (by assumption) _) (Nat.ne_of_gt (Cur.here (by assumption))) (ints_alloc _ _ _ _ rfl)).mono ?_; rintro _ w6 ⟨k, hk, rfl, hc6⟩; have hpk := pick_n k hk; generalize ([-1, 0, 100000, 100001] : List Int).getD k 0 = pv at hpk ⊢))
  · refine bodyPost_ret (results_tmp4 rfl _ _ _) rfl ?_
    exact ⟨y, pv, x, n - 1, rfl, hy, hx, by omega, by omega, by omega, hc4.bel⟩
  · refine bodyPost_ret (results_tmp4 rfl _ _ _) rfl ?_
    rename_i m _ _ _ _
    exact ⟨y, _, x, n - 1, rfl, hy, hx, by omega, by omega, by omega, hc4.bel⟩
end Go.Proofs.Ytffjedjkfhdolaa
