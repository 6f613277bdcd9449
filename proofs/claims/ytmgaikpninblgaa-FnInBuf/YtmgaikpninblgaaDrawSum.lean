/-
  The draws of chapter 2: a text, a half, and a turn (spec's l02Data, l02Half, l02Turn, DrawTurned).
-/
import Derived.Test.YtmgaikpninblgaaDrawTextWalk
import Derived.Test.YtmgaikpninblgaaDraws
import Derived.Laws.Concat
namespace Go.Proofs.Ytmgaikpninblgaa
open Go.ChangeShapes Go.WideShapes Go.ChangeAt Go.RowKit
set_option linter.unusedVariables false

theorem drawText {w0 wb : World} {g : Nat} {a : Option Addr} {len cap : Nat} {zs : List Int} (n : Int) (hn0 : 0 ≤ n) (hn : n ≤ 100000) (w : World) (hc : Cur w0 wb g a len cap zs w) :
    Calls Try.prog 23 #[.pointer (some ⟨g, 0, none⟩), .int .i64 n] w fun e w' => ∃ t : ByteArray, e = .returned (.string t) ∧ (t.size : Int) = n ∧ Cur w0 wb g a len cap zs w' := by
  obtain ⟨k, rfl⟩ := Int.eq_ofNat_of_zero_le hn0
  refine (textTS k (by omega) w hc.rebase).mono ?_
  rintro e w' ⟨t, rfl, ht, hc'⟩
  exact ⟨t, rfl, by omega, Cur.since hc.touch hc'⟩

theorem size_ (a : Option Addr) (len cap : Nat) (hm : len ≤ 1048576) (most : Int) (h2 : 2 ≤ most) (hmm : most ≤ 1000000) (w : World) :
    Calls Try.prog 25 #[.slice a len cap, .int .i64 most] w fun e w' => ∃ r : Int, e = .returned (.int .i64 r) ∧ 0 < r ∧ r ≤ most ∧ w = w' := by
  have ht := Int.tdiv_eq_ediv_of_nonneg (a := (len : Int)) (b := 20) (by omega)
  by_cases h : most < 2 + (len : Int) / 20
  · go_enter Try.func25, Try.ntmps25
    go_wp2
    go_ret
    exact ⟨most, rfl, by omega, by omega, rfl⟩
  · go_enter Try.func25, Try.ntmps25
    go_wp2
    go_ret
    exact ⟨_, rfl, by omega, by omega, rfl⟩

/-- A text of bytes that were just laid down. -/
theorem convNew (vs : List Int) (w : World) (n : Nat) (hn : vs.length = n) :
    (convert 22 9 (.slice (some ⟨w.heap.size, 0, none⟩) n n)).run Try.prog (w.alloc (.cells (vs.map (Value.int .u8)).toArray 5)) = .ok (.string (strOfNums vs)) (w.alloc (.cells (vs.map (Value.int .u8)).toArray 5)) := by
  refine run_convert_bytes_arg _ 22 5 Try.underlying22 Try.underlying5 _ 0 n n vs hn ?_ 9 Try.underlying9
  intro i hi
  rw [World.cell?_alloc_mark]
  simp [show i < vs.length by omega]

theorem results_tmp3 {fn : Func} {t u v : Tmp} (h : fn.results = #[.tmp t, .tmp u, .tmp v]) (tmps : Array Value) (P : Program) (w : World) :
    (results fn tmps).run P w = .ok (.tuple #[tmps.getD t undef, tmps.getD u undef, tmps.getD v undef]) w := by
  simp [results, h, go_sem]
end Go.Proofs.Ytmgaikpninblgaa
