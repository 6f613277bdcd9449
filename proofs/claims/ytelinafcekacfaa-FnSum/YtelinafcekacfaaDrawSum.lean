/-
  The draws of chapter 2: a text, a half, and a turn (spec's l02Data, l02Half, l02Turn, DrawTurned).
-/
import Derived.Test.YtelinafcekacfaaDrawTextWalk
import Derived.Test.YtelinafcekacfaaDraws
import Derived.Laws.Concat
namespace Go.Proofs.Ytelinafcekacfaa
open Go.ChangeShapes Go.WideShapes Go.ChangeAt Go.RowKit
set_option linter.unusedVariables false

theorem drawText {w0 wb : World} {g : Nat} {a : Option Addr} {len cap : Nat} {zs : List Int} (n : Int) (hn0 : 0 ≤ n) (hn : n ≤ 100000) (w : World) (hc : Cur w0 wb g a len cap zs w) :
    Calls Try.prog 34 #[.pointer (some ⟨g, 0, none⟩), .int .i64 n] w fun e w' => ∃ t : ByteArray, e = .returned (.string t) ∧ (t.size : Int) = n ∧ Cur w0 wb g a len cap zs w' := by
  obtain ⟨k, rfl⟩ := Int.eq_ofNat_of_zero_le hn0
  refine (textTS k (by omega) w hc.rebase).mono ?_
  rintro e w' ⟨t, rfl, ht, hc'⟩
  exact ⟨t, rfl, by omega, Cur.since hc.touch hc'⟩

theorem size_ (a : Option Addr) (len cap : Nat) (hm : len ≤ 1048576) (most : Int) (h2 : 2 ≤ most) (hmm : most ≤ 1000000) (w : World) :
    Calls Try.prog 32 #[.slice a len cap, .int .i64 most] w fun e w' => ∃ r : Int, e = .returned (.int .i64 r) ∧ 0 < r ∧ r ≤ most ∧ w = w' := by
  have ht := Int.tdiv_eq_ediv_of_nonneg (a := (len : Int)) (b := 20) (by omega)
  by_cases h : most < 2 + (len : Int) / 20
  · go_enter Try.func32, Try.ntmps32
    go_wp2
    go_ret
    exact ⟨most, rfl, by omega, by omega, rfl⟩
  · go_enter Try.func32, Try.ntmps32
    go_wp2
    go_ret
    exact ⟨_, rfl, by omega, by omega, rfl⟩

theorem drawHalf {w0 wb : World} {g : Nat} {a : Option Addr} {len cap : Nat} {zs : List Int} (w : World) (hc : Cur w0 wb g a len cap zs w) :
    Calls Try.prog 30 #[.pointer (some ⟨g, 0, none⟩)] w fun e w' => ∃ x : Int, e = .returned (.int .i64 x) ∧ -1 ≤ x ∧ x ≤ 65536 ∧ Cur w0 wb g a len cap zs w' := by
  have hp : ∀ k, k < ([0, 65535, 65536, -1, 1] : List Int).length → -1 ≤ ([0, 65535, 65536, -1, 1] : List Int).getD k 0 ∧ ([0, 65535, 65536, -1, 1] : List Int).getD k 0 ≤ 65536 := by decide
  go_enter Try.func30, Try.ntmps30
  go_wp2_with (first | (go_at_call 29; refine (belowP _ (by omega) _ (by assumption)).mono ?_; rintro _ w1 ⟨x, rfl, hx0, hx1, hc1⟩) | (go_at_call 33; refine (once _ _ (by assumption)).mono ?_; rintro _ w5 ⟨o, rfl, hc5⟩) | (go_at_call 36; refine (pickInt _ 5 [0, 65535, 65536, -1, 1] rfl (by omega) (by omega) _ (Cur.alloc (by assumption) _) (Nat.ne_of_gt (Cur.here (by assumption))) (ints_alloc _ _ _ _ rfl)).mono ?_; rintro _ w2 ⟨k, hk, rfl, hc2⟩; have hpk := hp k hk; generalize ([0, 65535, 65536, -1, 1] : List Int).getD k 0 = pv at hpk ⊢))
  all_goals go_ret
  · exact ⟨pv, rfl, hpk.1, hpk.2, hc2⟩
  · exact ⟨x, rfl, by omega, by omega, hc1⟩

/-- A text of bytes that were just laid down. -/
theorem convNew (vs : List Int) (w : World) (n : Nat) (hn : vs.length = n) :
    (convert 22 9 (.slice (some ⟨w.heap.size, 0, none⟩) n n)).run Try.prog (w.alloc (.cells (vs.map (Value.int .u8)).toArray 5)) = .ok (.string (strOfNums vs)) (w.alloc (.cells (vs.map (Value.int .u8)).toArray 5)) := by
  refine run_convert_bytes_arg _ 22 5 Try.underlying22 Try.underlying5 _ 0 n n vs hn ?_ 9 Try.underlying9
  intro i hi
  rw [World.cell?_alloc_mark]
  simp [show i < vs.length by omega]

theorem drawData {w0 wb : World} {g : Nat} {a : Option Addr} {len cap : Nat} {zs : List Int} (w : World) (hc : Cur w0 wb g a len cap zs w) :
    Calls Try.prog 28 #[.pointer (some ⟨g, 0, none⟩), .slice a len cap] w fun e w' => ∃ t : ByteArray, e = .returned (.string t) ∧ t.size ≤ 2005 ∧ Cur w0 wb g a len cap zs w' := by
  have hm := hc.most
  have h4 : ∀ w : World, (convert 22 9 (.slice (some ⟨w.heap.size, 0, none⟩) 4 4)).run Try.prog (w.alloc (.cells #[.int .u8 0, .int .u8 0, .int .u8 255, .int .u8 255] 5)) = .ok (.string (strOfNums [0, 0, 255, 255])) (w.alloc (.cells #[.int .u8 0, .int .u8 0, .int .u8 255, .int .u8 255] 5)) := fun w => convNew [0, 0, 255, 255] w 4 rfl
  have hsz : Hid ((strOfNums [0, 0, 255, 255]).size = 4) := strOfNums_size _
  generalize strOfNums [0, 0, 255, 255] = q at h4 hsz
  go_enter Try.func28, Try.ntmps28
  go_wp2_with (first | (go_at_call 29; refine (belowP _ (by omega) _ (by assumption)).mono ?_; rintro _ w1 ⟨x, rfl, hx0, hx1, hc1⟩) | (go_at_call 33; refine (once _ _ (by assumption)).mono ?_; rintro _ w5 ⟨o, rfl, hc5⟩) | (go_at_call 32; refine (size_ a len cap hm _ (by omega) (by omega) _).mono ?_; rintro _ _ ⟨z, rfl, hz0, hz1, rfl⟩) | (go_at_call 34; refine (drawText _ (by omega) (by omega) _ (by assumption)).mono ?_; rintro _ w4 ⟨t, rfl, ht, hc4⟩; have hq4 := hsz.out; have htz : Hid (t.size ≤ 2001) := (by show t.size ≤ 2001; omega); have hadd := fun wx => run_string_add_sum (P := Try.prog) wx q t (by omega); clear hq4))
  all_goals have hq4 := hsz.out
  all_goals have htz' := htz.out
  all_goals go_ret
  · exact ⟨_, rfl, by rw [ByteArray.size_append]; omega, hc5.alloc _⟩
  · exact ⟨t, rfl, by omega, hc5⟩
  · exact ⟨_, rfl, by rw [ByteArray.size_append]; omega, hc5.alloc _⟩
  · exact ⟨t, rfl, by omega, hc5⟩

theorem results_tmp3 {fn : Func} {t u v : Tmp} (h : fn.results = #[.tmp t, .tmp u, .tmp v]) (tmps : Array Value) (P : Program) (w : World) :
    (results fn tmps).run P w = .ok (.tuple #[tmps.getD t undef, tmps.getD u undef, tmps.getD v undef]) w := by
  simp [results, h, go_sem]

theorem drawTurn (a : Option Addr) (len cap : Nat) (zs : List Int) (w : World) (hb : Bytes w a len zs) (hm : len ≤ 1048576) :
    Calls Try.prog 21 #[.slice a len cap] w fun e w' => ∃ (s : ByteArray) (k x : Int), e = .returned (.tuple #[.string s, .int .i64 k, .int .i64 x]) ∧ s.size ≤ 2005 ∧ -1 ≤ k ∧ k ≤ 2005 ∧ -1 ≤ x ∧ x ≤ 65536 ∧ Below w.heap.size w w' := by
  have hnew := fun wx => drawNew a len cap zs w hb hm wx
  clear hb
  have ht := fun (t : ByteArray) => Int.tdiv_eq_ediv_of_nonneg (a := (t.size : Int)) (b := 2) (by omega)
  go_enter Try.func21, Try.ntmps21
  go_wp2_with (first | (go_at_call 27; refine (hnew _ (Below.refl _ _)).mono ?_; rintro _ w1 ⟨g, rfl, hg, hb1, hc1⟩) | (go_at_call 28; refine (drawData _ (by assumption)).mono ?_; rintro _ w2 ⟨t, rfl, htz, hc2⟩) | (go_at_call 29; refine (belowP _ (by omega) _ (by assumption)).mono ?_; rintro _ w4 ⟨n, rfl, hn0, hn1, hc4⟩) | (go_at_call 30; refine (drawHalf _ (by assumption)).mono ?_; rintro _ w6 ⟨x, rfl, hx0, hx1, hc6⟩))
  refine bodyPost_ret (results_tmp3 rfl _ _ _) rfl ?_
  exact ⟨t, n - 1, x, rfl, htz, by omega, by omega, hx0, hx1, hc6.bel⟩

theorem drawTurned (a : Option Addr) (len cap : Nat) (zs : List Int) (w : World) (hb : Bytes w a len zs) (hm : len ≤ 1048576) :
    Calls Try.prog 10 #[.slice a len cap] w fun e w' => ∃ (s : ByteArray) (k x : Int), e = .returned (.tuple #[.string s, .int .i64 k, .int .i64 x]) ∧ s.size ≤ 2005 ∧ -1 ≤ k ∧ k ≤ 2005 ∧ -1 ≤ x ∧ x ≤ 65536 ∧ Below w.heap.size w w' := by
  have hd := drawTurn a len cap zs w hb hm
  clear hb
  go_enter Try.func10, Try.ntmps10
  go_wp2_with (go_at_call 21; refine hd.mono ?_; rintro _ w1 ⟨s, k, x, rfl, h1, h2, h3, h4, h5, hb1⟩)
  refine bodyPost_ret (results_tmp3 rfl _ _ _) rfl ?_
  exact ⟨s, k, x, rfl, h1, h2, h3, h4, h5, hb1⟩
end Go.Proofs.Ytelinafcekacfaa
