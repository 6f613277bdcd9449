/-
  Contract of impl's OnesSum, at every text.
-/
import Derived.Test.YthjdcgckonckoaaHalves
namespace Go.Proofs.Ythjdcgckonckoaa
open Go.ChangeShapes Go.WideShapes Go.ChangeAt Go.RowKit Go.Shelf
attribute [local go_sem] Oper.semAt_some
set_option linter.unusedVariables false

/-- What OnesSum answers. -/
def ones (s : ByteArray) : Int := if 2000 < s.size then -1 else foldOf (part (byteAt s) s.size)

theorem halves_in (n : Nat) (s : ByteArray) (w : World) :
    CallsIn Fence.wide n Try.prog 45 #[.string s] w fun e w' => e = .returned (.func (.func 47) #[] #[.pointer (some ⟨w.heap.size, 0, none⟩)]) ∧ w' = w.alloc (.cells #[.string s] 9) := by
  have hmf : ∀ (fn : Fn) (first cap : Array Value) (w : World), (Instr.makeFunc fn first cap).run Try.prog w = .ok (.func fn first cap) w := fun _ _ _ _ => rfl
  refine callsIn_of_wp Try.func45 rfl trivial ?_ rfl
  simp only [Try.ntmps45, List.size_toArray, List.length_cons, List.length_nil, Nat.reduceAdd, Nat.reduceSub, Array.replicate_succ, Array.replicate_zero, List.push_toArray, List.append_toArray, List.nil_append, List.cons_append]
  gi_wp2
  go_ret
  exact ⟨rfl, rfl⟩

theorem halves_stops (n : Nat) (hn : 1 ≤ n) (Bn : Nat) (s : ByteArray) (hs : s.size ≤ 2000) (w : World) (hBn : w.cell? ⟨Bn, 0, none⟩ = some (.string s)) (hlt : Bn < w.heap.size) :
    SeqStopsK Fence.wide n Try.prog 47 #[.pointer (some ⟨Bn, 0, none⟩)] (fun x : Half => #[.int .i64 x.1]) (Keeps Bn) (fun xs => total xs = part (byteAt s) s.size) (fun _ => True) 1000 w :=
  fun l J Jx W hW hJ hJx hY h0 => halves1_in n hn l Bn s hs J Jx W hJ hY ((hW.cell (p := ⟨Bn, 0, none⟩) hlt).trans hBn) h0

theorem keeps_putObj {Bn l : Nat} {W : World} (h : Bn < l) (o : Obj) : Keeps Bn W (W.putObj l o) :=
  ⟨by simp [World.putObj], World.cell?_of_block (World.putObj_heap_other (Nat.ne_of_lt h))⟩

set_option maxHeartbeats 1000000 in
theorem implOnes (s : ByteArray) (w : World) :
    Calls Try.prog 42 #[.string s] w fun e w' => e = .returned (.int .i64 (ones s)) ∧ Below w.heap.size w w' := by
  by_cases hs : 2000 < s.size
  · rw [ones, if_pos hs]
    have hs' : (2000 : Int) < (s.size : Int) := by omega
    go_enter Try.func42, Try.ntmps42
    go_wp2
    go_ret
    exact ⟨rfl, Below.refl _ _⟩
  · rw [ones, if_neg hs]
    have hs0 : s.size ≤ 2000 := by omega
    have hs' : ¬ (2000 : Int) < (s.size : Int) := by omega
    have hr := part_range (byteAt s) (byteAt_range s) s.size
    have hf := fun wx => folded (part (byteAt s) s.size) (by omega) (by omega) wx
    generalize foldOf (part (byteAt s) s.size) = r at hf ⊢
    refine (callsIn_wide (n := 4)).1 ?_
    refine callsIn_of_wp_marks Try.func42 rfl trivial ?_ rfl
    simp only [Try.ntmps42, List.size_toArray, List.length_cons, List.length_nil, Nat.reduceAdd, Nat.reduceSub, Array.replicate_succ, Array.replicate_zero, List.push_toArray, List.append_toArray, List.nil_append, List.cons_append]
    gi_wp2_with (refine ⟨trivial, ?_⟩; gi_at_call 45; refine (halves_in _ _ _).mono ?_; rintro e w' ⟨rfl, rfl⟩)
    have hc0 : (w.alloc (.cells #[.int .i64 0] 3)).cell? ⟨w.heap.size, 0, none⟩ = some (.int .i64 0) := by simp
    have hz0 : (w.alloc (.cells #[.int .i64 0] 3)).frozen? ⟨w.heap.size, 0, none⟩ = false := by simp
    obtain ⟨w1, hw1⟩ : ∃ w1, w.alloc (.cells #[.int .i64 0] 3) = w1 := ⟨_, rfl⟩
    have hsz1 : w1.heap.size = w.heap.size + 1 := by rw [← hw1]; simp
    have hB1 : Below w.heap.size w w1 := by rw [← hw1]; exact (Below.refl _ w).alloc (Nat.le_refl _) _
    rw [hw1] at hc0 hz0 ⊢
    clear hw1
    have hs2 : (w1.alloc (.cells #[.string s] 9)).cell? ⟨w1.heap.size, 0, none⟩ = some (.string s) := by simp
    have hc2 : (w1.alloc (.cells #[.string s] 9)).cell? ⟨w.heap.size, 0, none⟩ = some (.int .i64 0) := (World.cell?_alloc_past _ _ _ (by omega)).trans hc0
    have hz2 : (w1.alloc (.cells #[.string s] 9)).frozen? ⟨w.heap.size, 0, none⟩ = false := by rw [frozen?_alloc_cells]; exact hz0
    have hB2 : Below w.heap.size w (w1.alloc (.cells #[.string s] 9)) := hB1.alloc (by omega) _
    have hsz2 : (w1.alloc (.cells #[.string s] 9)).heap.size = w.heap.size + 2 := by simp [hsz1]
    rw [hsz1] at hs2
    refine wpIn_rangeFunc_ownF rfl (by omega) (gf := 47) (lb := #[.pointer (some ⟨w.heap.size + 1, 0, none⟩)]) (by simp [Act.eval]) trivial (enters_of Try.func47 (by kernel_rfl) rfl)
      (halves_stops _ (by omega) (w.heap.size + 1) s hs0 _ hs2 (by omega)) (fun h k => ⟨Nat.le_trans h.1 k.1, k.2.trans h.2⟩) (fun W l o o' hl _ _ _ => keeps_putObj (by omega) o') (Below.refl _ _) (fun _ => rfl)
      (fun pre W => (W.cell? ⟨w.heap.size, 0, none⟩ = some (.int .i64 (total pre)) ∧ W.frozen? ⟨w.heap.size, 0, none⟩ = false) ∧ Below w.heap.size w W)
      (fun _ _ _ => False)
      (OwnFrom.and (Own.from (fun s A B row hs hg hr => ⟨cell_kept hs.1 hg hr, (frozen_kept hs.1 hg hr).trans hs.2⟩) _) (ownFrom_below (Nat.le_refl _) (by omega)))
      (fun _ _ _ _ _ hs _ _ => hs)
      ⟨⟨hc2, hz2⟩, hB2⟩
      (fun x => { tmps := #[.string s, undef, .int .i64 0, .pointer (some ⟨w.heap.size, 0, none⟩), .int .i64 x.1, .string s, .int .i64 s.size, .bool false, .string s, .func (.func 47) #[] #[.pointer (some ⟨w.heap.size + 1, 0, none⟩)], .int .i64 x.1, undef, undef, undef, undef, undef], defers := [] }) ?assign ?body ?done ?stop
    case assign =>
      intro l x W K hK
      gi_wp2
      exact hK
    case body =>
      rintro l pre x W ⟨⟨hc, hf'⟩, hB⟩ hlen
      have ht := total_range pre
      have hx := x.2
      gi_wp2
      exact ⟨KeepsOthers.setCell _ _ _, ⟨by simp [World.setCell], World.cell?_setCell_other _ _ _ _ (by simp)⟩,
        ⟨by rw [total_snoc]; exact World.cell?_setCell_same' _ _ _ (by rw [hc]; rfl), by rw [World.frozen?_setCell]; exact hf'⟩, hB.setCell (p := ⟨w.heap.size, 0, none⟩) (Nat.le_refl _) _⟩
    case done =>
      rintro D ys W hD hS ⟨⟨hc, _⟩, hB⟩ hK
      rw [hS] at hc
      gi_wp2_with (refine ⟨trivial, ?_⟩; gi_at_call 46; refine (callsIn_wide.2 (hf _)).mono ?_; rintro e w' ⟨rfl, rfl⟩)
      refine ⟨by simp, .inl ⟨_, _, rfl, run_takeDeferred hK, ?_⟩⟩
      exact ⟨_, results_tmp rfl _ _ _, rfl, hB.trans (belowK_b (w := w) (Nat.le_refl _) W D _ _ (by omega) hK rfl rfl)⟩
    case stop =>
      rintro D c pre W _ _ h _
      exact h.elim
end Go.Proofs.Ythjdcgckonckoaa
