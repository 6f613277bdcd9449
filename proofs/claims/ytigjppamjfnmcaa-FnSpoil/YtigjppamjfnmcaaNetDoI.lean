/-
  Contracts of impl's doOp and NetDo, at every op.
-/
import Derived.Test.YtigjppamjfnmcaaNetBefall
namespace Go.Proofs.Ytigjppamjfnmcaa
open Go.ChangeShapes Go.WideShapes Go.ChangeAt Go.RowKit
set_option linter.unusedVariables false

theorem befallAll (B g n cap i : Nat) (ss : List ByteArray) (kind half turn : Int) (hk : 0 ≤ kind ∧ kind ≤ 4) (hi : i < n) (hn : n ≤ 200) (hs : (txt ss i).size ≤ 2000) (w : World) (hB : B ≤ w.heap.size) (T : Texts w B g n cap ss) :
    Calls Try.prog 51 #[.slice (some ⟨g, 0, none⟩) n cap, .int .i64 (i : Int), fateVal kind half turn] w fun e w' => ∃ g' m c', e = .returned (.tuple #[.slice (some ⟨g', 0, none⟩) m c', .string (befallen ss i kind half turn).2.1, .bool (befallen ss i kind half turn).2.2]) ∧ (g' = g ∨ 0 < m) ∧ Texts w' B g' m c' (befallen ss i kind half turn).1 ∧ Touch g w w' := by
  have hl := T.len
  by_cases h0 : kind = 0
  · subst h0
    refine (befall0 B g n cap i ss hi hn w T).mono ?_
    rintro _ w' ⟨rfl, T', t'⟩
    exact ⟨g, n - 1, cap, rfl, .inl rfl, T', t'⟩
  by_cases h1 : kind = 1
  · subst h1
    refine (befall1 B g n cap i ss hi hn hs w hB T).mono ?_
    rintro _ w' ⟨g', m, c', rfl, T', t'⟩
    refine ⟨g', m, c', rfl, .inr ?_, by rw [← hl] at T'; exact T', t'⟩
    rw [← T'.len]
    split <;> (try simp) <;> omega
  by_cases h2 : kind = 2
  · subst h2
    refine (befall2 B g n cap i ss half turn hi hn hs w T).mono ?_
    rintro _ w' ⟨rfl, T', t'⟩
    exact ⟨g, n, cap, rfl, .inl rfl, T', t'⟩
  by_cases h3 : kind = 3
  · subst h3
    refine (befall3 B g n cap i ss hi hn w hB T).mono ?_
    rintro _ w' ⟨g', c', rfl, T', t'⟩
    exact ⟨g', n, c', rfl, .inr (by omega), T', t'⟩
  by_cases h4 : kind = 4
  · subst h4
    refine (befall4 B g n cap i ss hi hn w T).mono ?_
    rintro _ w' ⟨rfl, T', t'⟩
    exact ⟨g, n - 1, cap, rfl, .inl rfl, T', t'⟩
  omega

set_option maxHeartbeats 1000000 in
set_option maxRecDepth 10000 in
theorem doOp (B g n cap : Nat) (ss : List ByteArray) (kind at_ half turn : Int) (hok : netOk ss = true) (w : World) (hB : B ≤ w.heap.size) (T : Texts w B g n cap ss) :
    Calls Try.prog 24 #[.slice (some ⟨g, 0, none⟩) n cap, .agg #[.int .i64 kind, .int .i64 at_, .int .i64 half, .int .i64 turn]] w fun e w' => ∃ g' m c', e = .returned (.tuple #[.slice (some ⟨g', 0, none⟩) m c', .string (netDo ss kind at_ half turn).2.1, .bool (netDo ss kind at_ half turn).2.2]) ∧ (g' = g ∨ 0 < m) ∧ Texts w' B g' m c' (netDo ss kind at_ half turn).1 ∧ Touch g w w' := by
  have hl := T.len
  obtain ⟨h200, hsm⟩ := (netOk_iff ss).1 hok
  rw [hl] at h200 hsm
  have G := (Since.refl w).alloc (.cells #[.int .i64 kind, .int .i64 at_, .int .i64 half, .int .i64 turn] 40)
  have O := Blk.new w #[.int .i64 kind, .int .i64 at_, .int .i64 half, .int .i64 turn] 40
  have hf := fun wx => fateOf kind at_ half turn wx
  by_cases hk : 0 ≤ kind ∧ kind ≤ 4
  · rw [show decide (0 ≤ kind ∧ kind ≤ 4) = true by simpa using hk] at hf
    by_cases h0 : 0 < n
    · have e : netDo ss kind at_ half turn = befallen ss (placeOf at_ n) kind half turn := by
        unfold netDo
        rw [hl, if_pos ⟨hok, h0⟩]
      rw [e]
      clear e
      have hlt := placeOf_lt at_ n h0
      have hb := fun wx (h : Since w wx) => befallAll B g n cap (placeOf at_ n) ss kind half turn hk hlt h200 (hsm _ hlt) wx (Nat.le_trans hB h.le) (T.since h)
      have hp := fun wx => placeAmong at_ n h0 (by omega) wx
      have hn0 : ((n : Int) == 0) = false := by simp; omega
      generalize befallen ss (placeOf at_ n) kind half turn = r at hb ⊢
      generalize placeOf at_ n = p at hb hp hlt
      generalize fateVal kind half turn = fv at hb hf
      obtain ⟨r1, r2, r3⟩ := r
      clear T hsm
      go_enter Try.func24, Try.ntmps24
      go_wp2_with (first | (go_at_call 50; refine (hf _).mono ?_; rintro _ w1 ⟨rfl, g1⟩; replace G := G.trans g1; replace O := O.since g1; have c1 : w1.cell? ⟨w.heap.size, 1, none⟩ = some (.int .i64 at_) := O.cell 1) | (go_at_call 52; refine (hp _).mono ?_; rintro _ _ ⟨rfl, rfl⟩) | (go_at_call 51; refine (hb _ G).mono ?_; rintro _ w3 ⟨g', m, c', rfl, hx, T', t'⟩; replace hx : Hid _ := hx))
      go_returns
      exact ⟨g', m, c', rfl, hx.out, T', (Touch.of_since G g).trans t'⟩
    · have e : netDo ss kind at_ half turn = (ss, ByteArray.empty, false) := by
        unfold netDo
        rw [hl, if_neg (fun h => h0 h.2)]
      rw [e]
      clear e
      have hn0 : n = 0 := by omega
      subst hn0
      generalize fateVal kind half turn = fv at hf
      go_enter Try.func24, Try.ntmps24
      go_wp2_with (go_at_call 50; refine (hf _).mono ?_; rintro _ w1 ⟨rfl, g1⟩; replace G := G.trans g1)
      go_returns
      exact ⟨g, 0, cap, rfl, .inl rfl, T.since G, Touch.of_since G g⟩
  · rw [show decide (0 ≤ kind ∧ kind ≤ 4) = false by simpa using hk] at hf
    have e : netDo ss kind at_ half turn = (ss, ByteArray.empty, false) := by
      have h1 : ¬ kind = 0 := by omega
      have h2 : ¬ kind = 1 := by omega
      have h3 : ¬ kind = 2 := by omega
      have h4 : ¬ kind = 3 := by omega
      have h5 : ¬ kind = 4 := by omega
      unfold netDo befallen
      split <;> rfl
    rw [e]
    clear e
    generalize fateVal kind half turn = fv at hf
    go_enter Try.func24, Try.ntmps24
    go_wp2_with (go_at_call 50; refine (hf _).mono ?_; rintro _ w1 ⟨rfl, g1⟩; replace G := G.trans g1)
    go_returns
    exact ⟨g, n, cap, rfl, .inl rfl, T.since G, Touch.of_since G g⟩

theorem netDo_not (ss : List ByteArray) (kind at_ half turn : Int) (h : netOk ss = false) : netDo ss kind at_ half turn = (ss, ByteArray.empty, false) := by
  unfold netDo
  rw [h, if_neg (by simp)]

set_option maxHeartbeats 1000000 in
set_option maxRecDepth 10000 in
theorem implNetDo (a : Option Addr) (n cap : Nat) (ss : List ByteArray) (kind at_ half turn : Int) (hn : n ≤ 1048576) (hsm : ∀ i, i < n → (txt ss i).size ≤ 1048576) (w : World) (R : Reads w a n ss)
    (hok : ∀ wx, Since w wx → Calls Try.prog 22 #[.agg #[.slice a n cap]] wx fun e w' => e = .returned (.bool (netOk ss)) ∧ Since wx w') :
    Calls Try.prog 9 #[.agg #[.slice a n cap], .agg #[.int .i64 kind, .int .i64 at_, .int .i64 half, .int .i64 turn]] w fun e w' => ∃ g m c, e = .returned (.tuple #[.agg #[.slice (some ⟨g, 0, none⟩) m c], .string (netDo ss kind at_ half turn).2.1, .bool (netDo ss kind at_ half turn).2.2]) ∧ Texts w' w.heap.size g m c (netDo ss kind at_ half turn).1 ∧ Since w w' := by
  have G : Since w (((w.alloc (.cells #[.slice a n cap] 34)).alloc (.cells #[.int .i64 kind, .int .i64 at_, .int .i64 half, .int .i64 turn] 40)).alloc (.cells #[.slice none 0 0] 34)) := (((Since.refl _).alloc _).alloc _).alloc _
  have N := ((Rec1.new w (.slice a n cap) 34).since ((Since.refl _).alloc (.cells #[.int .i64 kind, .int .i64 at_, .int .i64 half, .int .i64 turn] 40))).since ((Since.refl _).alloc (.cells #[.slice none 0 0] 34))
  have O := (Blk.new (w.alloc (.cells #[.slice a n cap] 34)) #[.int .i64 kind, .int .i64 at_, .int .i64 half, .int .i64 turn] 40).since ((Since.refl _).alloc (.cells #[.slice none 0 0] 34))
  have A := Rec1.new ((w.alloc (.cells #[.slice a n cap] 34)).alloc (.cells #[.int .i64 kind, .int .i64 at_, .int .i64 half, .int .i64 turn] 40)) (.slice none 0 0) 34
  simp only [World.size_alloc] at A O
  have hl := R.len
  obtain ⟨r, hr⟩ : ∃ r, Hid (r = netDo ss kind at_ half turn) := ⟨_, rfl⟩
  rw [← hr.out]
  go_enter Try.func9, Try.ntmps9
  go_wp2_with (fail)
  refine (freshTexts a n cap ss hn hsm _ (R.since G)).mono ?_
  rintro _ w1 ⟨g, rfl, T, g1⟩
  replace G := G.trans g1
  replace N := N.since g1
  replace A := A.since g1
  replace O := O.since g1
  have hlow := T.low
  simp only [World.size_alloc] at hlow
  have cN := N.c0
  go_wp2_with (fail)
  refine (hok _ G).mono ?_
  rintro _ w3 ⟨rfl, k3⟩
  replace G := G.trans k3
  replace A := A.since k3
  replace O := O.since k3
  replace T := (T.since k3).raise (B' := w.heap.size + 3) (by omega)
  have cA := A.c0
  have fA := A.fz 0
  have o0 : w3.cell? ⟨w.heap.size + 1, 0, none⟩ = some (.int .i64 kind) := O.cell 0
  have o1 : w3.cell? ⟨w.heap.size + 1, 1, none⟩ = some (.int .i64 at_) := O.cell 1
  have o2 : w3.cell? ⟨w.heap.size + 1, 2, none⟩ = some (.int .i64 half) := O.cell 2
  have o3 : w3.cell? ⟨w.heap.size + 1, 3, none⟩ = some (.int .i64 turn) := O.cell 3
  have z3 := T.lt
  clear R hok N cN g1 k3 hsm
  cases hb : netOk ss
  · obtain rfl := hr.out.trans (netDo_not ss kind at_ half turn hb)
    go_wp2
    refine bodyPost_ret (v := .tuple #[.agg #[.slice (some ⟨g, 0, none⟩) n n], .string ByteArray.empty, .bool false]) ?_ rfl ⟨g, n, n, rfl, (T.other (by omega) 0 _).raise (by omega), since_put1 G (by omega) 0 _⟩
    simp [results, go_sem, cA]
    rfl
  · have hd := doOp (w.heap.size + 3) g n n ss kind at_ half turn hb w3 (by omega) T
    rw [← hr.out] at hd
    clear hr
    obtain ⟨r1, r2, r3⟩ := r
    go_wp2_with (go_at_call 24; refine hd.mono ?_; rintro _ w4 ⟨g', m, c', rfl, hx, T', t'⟩; replace hx : Hid _ := hx; replace A := A.touch t' (by omega); have cA4 := A.c0; have fA4 := A.fz 0)
    have hne : g' ≠ w.heap.size + 1 + 1 := by
      rcases hx.out with rfl | hm
      · omega
      · exact T'.ne_rec hm A
    refine bodyPost_ret (v := .tuple #[.agg #[.slice (some ⟨g', 0, none⟩) m c'], .string r2, .bool r3]) ?_ rfl ⟨g', m, c', rfl, (T'.other hne 0 _).mono (by omega), since_put1 (G.touch t' (by omega)) (by omega) 0 _⟩
    simp [results, go_sem, cA4]
end Go.Proofs.Ytigjppamjfnmcaa
