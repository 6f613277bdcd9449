/-
  Contracts of impl's doOp and NetDo, at every op.
-/
import Derived.Test.YthjdcgckonckoaaNetBefall
namespace Go.Proofs.Ythjdcgckonckoaa
open Go.ChangeShapes Go.WideShapes Go.ChangeAt Go.RowKit
set_option linter.unusedVariables false

theorem befallAll (B g n cap i : Nat) (ss : List ByteArray) (kind half turn : Int) (hk : 0 ≤ kind ∧ kind ≤ 4) (hi : i < n) (hn : n ≤ 200) (hs : (txt ss i).size ≤ 2000) (w : World) (hB : B ≤ w.heap.size) (T : Texts w B g n cap ss) :
    Calls Try.prog 29 #[.slice (some ⟨g, 0, none⟩) n cap, .int .i64 (i : Int), fateVal kind half turn] w fun e w' => ∃ g' m c', e = .returned (.tuple #[.slice (some ⟨g', 0, none⟩) m c', .string (befallen ss i kind half turn).2.1, .bool (befallen ss i kind half turn).2.2]) ∧ (g' = g ∨ w.heap.size ≤ g') ∧ Texts w' B g' m c' (befallen ss i kind half turn).1 ∧ Touch g w w' := by
  have hl := T.len
  by_cases h0 : kind = 0
  · subst h0
    refine (befall0 B g n cap i ss hi hn w T).mono ?_
    rintro _ w' ⟨rfl, T', t'⟩
    exact ⟨g, n - 1, cap, rfl, .inl rfl, T', t'⟩
  by_cases h1 : kind = 1
  · subst h1
    refine (befall1 B g n cap i ss hi hn hs w hB T).mono ?_
    rintro _ w' ⟨g', m, c', rfl, T', t', hw⟩
    exact ⟨g', m, c', rfl, hw, by rw [← hl] at T'; exact T', t'⟩
  by_cases h2 : kind = 2
  · subst h2
    refine (befall2 B g n cap i ss half turn hi hn hs w T).mono ?_
    rintro _ w' ⟨rfl, T', t'⟩
    exact ⟨g, n, cap, rfl, .inl rfl, T', t'⟩
  by_cases h3 : kind = 3
  · subst h3
    refine (befall3 B g n cap i ss hi hn w hB T).mono ?_
    rintro _ w' ⟨g', c', rfl, T', t', hw⟩
    exact ⟨g', n, c', rfl, hw, T', t'⟩
  by_cases h4 : kind = 4
  · subst h4
    refine (befall4 B g n cap i ss hi hn w T).mono ?_
    rintro _ w' ⟨rfl, T', t'⟩
    exact ⟨g, n - 1, cap, rfl, .inl rfl, T', t'⟩
  omega

set_option maxHeartbeats 1000000 in
set_option maxRecDepth 10000 in
theorem doOp (B g n cap : Nat) (ss : List ByteArray) (kind at_ half turn : Int) (hok : netOk ss = true) (w : World) (hB : B ≤ w.heap.size) (T : Texts w B g n cap ss) :
    Calls Try.prog 19 #[.slice (some ⟨g, 0, none⟩) n cap, .agg #[.int .i64 kind, .int .i64 at_, .int .i64 half, .int .i64 turn]] w fun e w' => ∃ g' m c', e = .returned (.tuple #[.slice (some ⟨g', 0, none⟩) m c', .string (netDo ss kind at_ half turn).2.1, .bool (netDo ss kind at_ half turn).2.2]) ∧ (g' = g ∨ w.heap.size ≤ g') ∧ Texts w' B g' m c' (netDo ss kind at_ half turn).1 ∧ Touch g w w' := by
  have hl := T.len
  obtain ⟨h200, hsm⟩ := (netOk_iff ss).1 hok
  rw [hl] at h200 hsm
  have G := (Since.refl w).alloc (.cells #[.int .i64 kind, .int .i64 at_, .int .i64 half, .int .i64 turn] 34)
  have O := Blk.new w #[.int .i64 kind, .int .i64 at_, .int .i64 half, .int .i64 turn] 34
  have hf := fun wx => fateOf kind at_ half turn wx
  by_cases hk : 0 ≤ kind ∧ kind ≤ 4
  · rw [show decide (0 ≤ kind ∧ kind ≤ 4) = true by simpa using hk] at hf
    by_cases h0 : 0 < n
    · have e : netDo ss kind at_ half turn = befallen ss (placeOf at_ n) kind half turn := by
        unfold netDo
        rw [hl, if_pos ⟨hok, h0⟩]
      rw [e]
      clear e
      have hlt := placeOf_lt at_ n h0
      have hb := fun wx (h : Since w wx) => befallAll B g n cap (placeOf at_ n) ss kind half turn hk hlt h200 (hsm _ hlt) wx (Nat.le_trans hB h.le) (T.since h)
      have hp := fun wx => placeAmong at_ n h0 (by omega) wx
      have hn0 : ((n : Int) == 0) = false := by simp; omega
      generalize befallen ss (placeOf at_ n) kind half turn = r at hb ⊢
      generalize placeOf at_ n = p at hb hp hlt
      generalize fateVal kind half turn = fv at hb hf
      obtain ⟨r1, r2, r3⟩ := r
      clear T hsm
      go_enter Try.func19, Try.ntmps19
      go_wp2_with (first | (go_at_call 28; refine (hf _).mono ?_; rintro _ w1 ⟨rfl, g1⟩; replace G := G.trans g1; replace O := O.since g1; have c1 : w1.cell? ⟨w.heap.size, 1, none⟩ = some (.int .i64 at_) := O.cell 1) | (go_at_call 30; refine (hp _).mono ?_; rintro _ _ ⟨rfl, rfl⟩) | (go_at_call 29; refine (hb _ G).mono ?_; rintro _ w3 ⟨g', m, c', rfl, hx, T', t'⟩; replace hx : Hid _ := hx))
      go_returns
      have z1 := G.le
      exact ⟨g', m, c', rfl, by rcases hx.out with h | h <;> omega, T', (Touch.of_since G g).trans t'⟩
    · have e : netDo ss kind at_ half turn = (ss, ByteArray.empty, false) := by
        unfold netDo
        rw [hl, if_neg (fun h => h0 h.2)]
      rw [e]
      clear e
      have hn0 : n = 0 := by omega
      subst hn0
      generalize fateVal kind half turn = fv at hf
      go_enter Try.func19, Try.ntmps19
      go_wp2_with (go_at_call 28; refine (hf _).mono ?_; rintro _ w1 ⟨rfl, g1⟩; replace G := G.trans g1)
      go_returns
      exact ⟨g, 0, cap, rfl, .inl rfl, T.since G, Touch.of_since G g⟩
  · rw [show decide (0 ≤ kind ∧ kind ≤ 4) = false by simpa using hk] at hf
    have e : netDo ss kind at_ half turn = (ss, ByteArray.empty, false) := by
      have h1 : ¬ kind = 0 := by omega
      have h2 : ¬ kind = 1 := by omega
      have h3 : ¬ kind = 2 := by omega
      have h4 : ¬ kind = 3 := by omega
      have h5 : ¬ kind = 4 := by omega
      unfold netDo befallen
      split <;> rfl
    rw [e]
    clear e
    generalize fateVal kind half turn = fv at hf
    go_enter Try.func19, Try.ntmps19
    go_wp2_with (go_at_call 28; refine (hf _).mono ?_; rintro _ w1 ⟨rfl, g1⟩; replace G := G.trans g1)
    go_returns
    exact ⟨g, n, cap, rfl, .inl rfl, T.since G, Touch.of_since G g⟩

theorem netDo_not (ss : List ByteArray) (kind at_ half turn : Int) (h : netOk ss = false) : netDo ss kind at_ half turn = (ss, ByteArray.empty, false) := by
  unfold netDo
  rw [h, if_neg (by simp)]
end Go.Proofs.Ythjdcgckonckoaa
