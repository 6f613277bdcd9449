/-
  Contract of the wheels' begin.
-/
import Derived.Test.YtgdhdeadbmeejaaWheelOff
namespace Go.Proofs.Ytgdhdeadbmeejaa
open Go.ChangeShapes Go.WideShapes Go.ChangeAt Go.RowKit Go.Deep Go.Sort Go.Maps
set_option linter.unusedVariables false

/-- What begin's loop has done with the first k entries of list c. -/
structure BegTo (rows rows' : Nat → List (Int × Int)) (row : List (Int × Int)) (tn : Int) (c k : Nat) (oth : List (Int × Int)) : Prop where
  keep : ∀ i, i < 64 → ∀ t ∈ rows i, t ∈ rows' i
  same : rows' c = row
  moved : ∀ t ∈ row.take k, t.2 / 32 = tn → t ∈ rows' (t.2 % 32).toNat
  rest : oth = (row.take k).filter fun t => decide (t.2 / 32 ≠ tn)
  sane : Sane rows'
  tot : total rows' + oth.length = total rows + k

theorem BegTo.fine {rows rows' : Nat → List (Int × Int)} {row oth : List (Int × Int)} {tn : Int} {c k : Nat} (h : BegTo rows rows' row tn c k oth) (hc : 32 ≤ c) (hk : k < row.length) (hs : I64 (tAt row k).1 ∧ 0 ≤ (tAt row k).2 ∧ (tAt row k).2 ≤ 1000000000) (he : (tAt row k).2 / 32 = tn) :
    BegTo rows (upd rows' ((tAt row k).2 % 32).toNat (rows' ((tAt row k).2 % 32).toNat ++ [((tAt row k).1, (tAt row k).2)])) row tn c (k + 1) oth := by
  have hlt : ((tAt row k).2 % 32).toNat < 32 := by omega
  refine ⟨fun i hi t ht => ?_, ?_, fun t ht htn => ?_, ?_, h.sane.put _ _ _ hs.1 hs.2, ?_⟩
  · have h1 := h.keep i hi t ht
    by_cases e : i = ((tAt row k).2 % 32).toNat
    · rw [e, upd_same]
      rw [e] at h1
      exact List.mem_append.2 (.inl h1)
    · rw [upd_other _ _ e]; exact h1
  · rw [upd_other _ _ (by omega)]
    exact h.same
  · rw [take_nextT row k hk, List.mem_append, List.mem_singleton] at ht
    rcases ht with h1 | rfl
    · have h2 := h.moved t h1 htn
      by_cases e : (t.2 % 32).toNat = ((tAt row k).2 % 32).toNat
      · rw [e, upd_same]
        rw [e] at h2
        exact List.mem_append.2 (.inl h2)
      · rw [upd_other _ _ e]; exact h2
    · rw [upd_same]
      simp
  · rw [take_nextT row k hk, List.filter_append, ← h.rest]
    simp [he]
  · rw [total_put rows' _ (by omega)]
    have := h.tot
    omega

theorem BegTo.other {rows rows' : Nat → List (Int × Int)} {row oth : List (Int × Int)} {tn : Int} {c k : Nat} (h : BegTo rows rows' row tn c k oth) (hk : k < row.length) (he : (tAt row k).2 / 32 ≠ tn) : BegTo rows rows' row tn c (k + 1) (oth ++ [tAt row k]) := by
  refine ⟨h.keep, h.same, fun t ht htn => ?_, ?_, h.sane, ?_⟩
  · rw [take_nextT row k hk, List.mem_append, List.mem_singleton] at ht
    rcases ht with h1 | rfl
    · exact h.moved t h1 htn
    · exact absurd htn he
  · rw [take_nextT row k hk, List.filter_append, ← h.rest]
    simp [he]
  · have := h.tot
    rw [List.length_append, List.length_singleton]
    omega

/-- What begin leaves. -/
structure Begun (rows rows' : Nat → List (Int × Int)) (tn : Int) (c : Nat) : Prop where
  keep : ∀ i, i < 64 → i ≠ c → ∀ t ∈ rows i, t ∈ rows' i
  moved : ∀ t ∈ rows c, t.2 / 32 = tn → t ∈ rows' (t.2 % 32).toNat
  stay : ∀ t ∈ rows c, t.2 / 32 ≠ tn → t ∈ rows' c
  sane : Sane rows'
  tot : total rows' = total rows

theorem BegTo.done {rows rows' : Nat → List (Int × Int)} {row oth : List (Int × Int)} {tn : Int} {c : Nat} (h : BegTo rows rows' row tn c row.length oth) (hc : 32 ≤ c) (hc2 : c < 64) (hr : rows c = row) : Begun rows (upd rows' c oth) tn c := by
  have hrest := h.rest
  rw [List.take_of_length_le (Nat.le_refl _)] at hrest
  refine ⟨fun i hi hne t ht => ?_, fun t ht htn => ?_, fun t ht htn => ?_, fun i hi t ht => ?_, ?_⟩
  · rw [upd_other _ _ hne]
    exact h.keep i hi t ht
  · rw [upd_other _ _ (by omega)]
    rw [hr] at ht
    exact h.moved t (by rw [List.take_of_length_le (Nat.le_refl _)]; exact ht) htn
  · rw [upd_same, hrest, List.mem_filter]
    rw [hr] at ht
    exact ⟨ht, by simpa using htn⟩
  · by_cases e : i = c
    · subst e
      rw [upd_same, hrest] at ht
      have h1 := (List.mem_filter.1 ht).1
      rw [← h.same] at h1
      exact h.sane i hi t h1
    · rw [upd_other _ _ e] at ht
      exact h.sane i hi t ht
  · have h1 := totalTo_upd rows' c oth 64
    rw [if_pos hc2, if_pos hc2, h.same] at h1
    have h2 := h.tot
    unfold total at *
    omega

set_option maxHeartbeats 4000000 in
theorem begin {w : World} {B b bm : Nat} {now : Int} {vs : Nat → Value} {rows : Nat → List (Int × Int)} {ts : List (Int × Int)} (W : Wheels w B b bm now vs rows) (D : Due w bm ts) (hB : B ≤ w.heap.size) (tn : Int) (htn : 0 ≤ tn ∧ tn ≤ 31250000) (s : Nat) (hs : tn % 32 = (s : Int)) (hl : total rows ≤ 500000) (hsane : Sane rows) :
    Calls Try.prog 39 #[.pointer (some ⟨b, 0, none⟩), .int .i64 tn] w fun e w' => e = .returned (.tuple #[]) ∧ ∃ vs' rows', Wheels w' B b bm now vs' rows' ∧ Begun rows rows' tn (32 + s) ∧ Due w' bm ts ∧ Far (fun k => k = b ∨ ∃ i, i < 64 ∧ (vs i).ownBlock = some k) w w' := by
  have hs32 : s < 32 := by omega
  have hrem : tn.tmod 32 = (s : Int) := by rw [Int.tmod_eq_emod_of_nonneg (by omega)]; exact hs
  have hws : IntKind.i64.wrap (s : Int) = (s : Int) := by rw [IntWalk.i64_left]; exact IntWalk.wrap64_in _ ⟨by omega, by omega⟩
  have hs' : (s : Int) < 32 := by omega
  have hs0 : (0 : Int) ≤ (s : Int) := by omega
  have hbm := W.mapNe D
  have hbl := W.lt
  have k0 : Since w (w.alloc (.cells #[] 47)) := (Since.refl _).alloc _
  have F0 : Held shT (w.alloc (.cells #[] 47)) w.heap.size w.heap.size 0 0 [] := Held.empty (S := shT) w
  have W0 := W.since k0
  have D0 := D.since k0
  have O0 := W0.own (32 + s) (by omega)
  have hgr0 : ∀ i, i < 64 → (vs i).ownBlock ≠ some w.heap.size := fun i hi e => by have := ((W.own i hi).lt e).2; omega
  obtain ⟨row, hrow⟩ : ∃ row, Hid (rows (32 + s) = row) := ⟨_, rfl⟩
  rw [hrow.out] at O0
  have hrs : ∀ t ∈ row, I64 t.1 ∧ 0 ≤ t.2 ∧ t.2 ≤ 1000000000 := fun t ht => hsane (32 + s) (by omega) t (by rw [hrow.out]; exact ht)
  obtain ⟨n, hn⟩ : ∃ n, Hid (row.length = n) := ⟨_, rfl⟩
  rw [hn.out] at O0
  have hnl : n ≤ 500000 := by
    have := le_totalTo rows 64 (32 + s) (by omega)
    rw [hrow.out, hn.out] at this
    unfold total at hl
    omega
  obtain ⟨av, cv, hv, -, -⟩ := O0.form
  have c1 : (w.alloc (.cells #[] 47)).cell? ⟨b, 33 + s, none⟩ = some (.slice av n cv) := by rw [← hv, show 33 + s = 32 + s + 1 by omega]; exact W0.cellRow (32 + s) (by omega)
  go_enter Try.func39, Try.ntmps39
  go_wp2_with (fail)
  generalize w.alloc (.cells #[] 47) = Z at k0 F0 W0 D0 O0 c1 ⊢
  clear c1
  go_loopw [5, 18] (fun o i wr => ∃ (k g m c : Nat) (vs' : Nat → Value) (rows' : Nat → List (Int × Int)) (oth : List (Int × Int)), k ≤ n ∧ i = .int .i64 k ∧ o = .slice (some ⟨g, 0, none⟩) m c ∧ Hid (BegTo rows rows' row tn (32 + s) k oth) ∧ Held shT wr w.heap.size g m c oth ∧ Wheels wr B b bm now vs' rows' ∧ Hid (vs' (32 + s) = .slice av n cv) ∧ Hid (∀ i, i < 64 → (vs' i).ownBlock ≠ some g) ∧ Hid (∀ i, i < 64 → ∀ k, (vs' i).ownBlock = some k → (∃ j, j < 64 ∧ (vs j).ownBlock = some k) ∨ w.heap.size ≤ k) ∧ Due wr bm ts ∧ Far (fun k => k = b ∨ ∃ i, i < 64 ∧ (vs i).ownBlock = some k) w wr) (fun _ i _ => n - (intOf i).toNat)
  case atStart =>
    refine ⟨0, w.heap.size, 0, 0, vs, rows, [], by omega, rfl, rfl, ?_, F0, W0, hv, hgr0, fun i hi k e => .inl ⟨i, hi, e⟩, D0, Far.of_since k0⟩
    exact ⟨fun i hi t ht => ht, hrow.out, fun t ht => by simp at ht, by simp, hsane, by simp⟩
  case round =>
    clear F0 W0 D0 O0 k0 hgr0
    obtain ⟨k, g, m, c, vs', rows', oth, hk, rfl, rfl, hBt, F, Wr, hv', hgr, hst, Dr, Fr⟩ := hrel
    have hmk : m ≤ k := by
      rw [← F.1, hBt.out.rest]
      exact Nat.le_trans (List.length_filter_le _ _) (by rw [List.length_take]; omega)
    have hgb : g ≠ b := by
      intro e
      obtain ⟨cur, h1⟩ := Own.tag F (g := g) rfl
      obtain ⟨cs, h2, _⟩ := Wr.blk
      rw [e, h2] at h1
      injection h1 with h1
      injection h1 with _ h1
      exact absurd h1 (by decide)
    have hgbm : g ≠ bm := by
      intro e
      obtain ⟨cur, h1⟩ := Own.tag F (g := g) rfl
      obtain ⟨es, clock, h2⟩ := Dr.tag
      rw [e, h2] at h1
      cases h1
    have hwrs := Fr.size
    have hglo := F.low'
    by_cases hlt : k < n
    · have hlt' : (k : Int) < (n : Int) := by omega
      have hkr : k < row.length := by rw [hn.out]; exact hlt
      have Or := Wr.own (32 + s) (by omega)
      rw [hBt.out.same, hn.out, hv'.out] at Or
      obtain ⟨x, rfl, hb, q0, q1⟩ := Or.reads.tim k hlt
      have hok := hrs _ (tAt_mem (i := k) hkr)
      have hfine := hBt.out.fine (by omega) hkr hok
      have hother := hBt.out.other hkr
      have htot : (rows' ((tAt row k).2 % 32).toNat).length ≤ 1000000 := by
        have h1 := le_totalTo rows' 64 ((tAt row k).2 % 32).toNat (by omega)
        have h2 := hBt.out.tot
        unfold total at *
        omega
      generalize tAt row k = O at q0 q1 hok hfine hother htot
      replace hfine : Hid _ := hfine
      replace hother : Hid _ := hother
      have hY : Since wr (wr.alloc (.cells #[.int .i64 O.1, .int .i64 O.2] 47)) := (Since.refl _).alloc _
      have WY := Wr.since hY
      have DY := Dr.since hY
      have FY := F.since hY
      have FrY := Fr.trans (Far.of_since hY)
      have hto := fun wx => turnOf O.2 hok.2.1 (by omega) wx
      clear hrs Or
      by_cases he : O.2 / 32 = tn
      · have hE : Hid (BegTo rows _ row tn (32 + s) (k + 1) oth) := hfine.out he
        have hsN : (O.2 % 32).toNat < 32 := by omega
        have hpf := putFine WY (by simp; omega) O.1 O.2 hok.2 (O.2 % 32).toNat (by omega) htot
        generalize (O.2 % 32).toNat = f at hpf hE hsN htot
        go_wp2_with (first | (go_at_call 37; refine (hto _).mono ?_; rintro _ _ ⟨rfl, rfl⟩) | (go_at_call 47; refine hpf.mono ?_; rintro _ w3 ⟨rfl, v', W3, hat3, F3⟩; replace hat3 : Hid _ := hat3))
        have hYs : wr.heap.size < (wr.alloc (.cells #[.int .i64 O.1, .int .i64 O.2] 47)).heap.size := by simp
        have hgl := F.lt
        have F3' : Held shT w3 w.heap.size g m c oth := by
          have hh := F3.block g FY.lt (fun e => e.elim (fun h => hgb h) (fun h => hgr.out f (by omega) h))
          obtain ⟨cur, h3, h6, h4, h5, h7⟩ := FY.heap
          exact Held.mk' FY.1 FY.low' (hh.trans h3) h4 h5 h6 h7
        have D3 : Due w3 bm ts := DY.block (F3.block bm DY.lt (fun e => e.elim (fun h => hbm h) (fun h => WY.rowNeMap DY f (by omega) h)))
        have Fr3 : Far (fun k => k = b ∨ ∃ i, i < 64 ∧ (vs i).ownBlock = some k) w w3 := by
          refine ⟨F3.os.trans FrY.os, F3.tape.trans FrY.tape, F3.output.trans FrY.output, Nat.le_trans FrY.size F3.size, fun k hk hp => (F3.block k (Nat.lt_of_lt_of_le hk FrY.size) (fun e => ?_)).trans (FrY.block k hk hp)⟩
          rcases e with e | e
          · exact hp (.inl e)
          · rcases hst.out f (by omega) k e with h | h
            · exact hp (.inr h)
            · omega
        have hv3 : Hid (upd vs' f v' (32 + s) = .slice (some x) n cv) := by unfold Hid; rw [upd_other _ _ (by omega)]; exact hv'.out
        have hgr3 : Hid (∀ i, i < 64 → (upd vs' f v' i).ownBlock ≠ some g) := fun i hi e => by
          by_cases h : i = f
          · rw [h, upd_same] at e
            rcases hat3.out with h1 | ⟨g', h1, h2⟩
            · exact hgr.out f (by omega) (by rw [← h1, e])
            · rw [h1] at e
              cases e
              omega
          · rw [upd_other _ _ h] at e
            exact hgr.out i hi e
        have hst3 : Hid (∀ i, i < 64 → ∀ k, (upd vs' f v' i).ownBlock = some k → (∃ j, j < 64 ∧ (vs j).ownBlock = some k) ∨ w.heap.size ≤ k) := fun i hi k e => by
          by_cases h : i = f
          · rw [h, upd_same] at e
            rcases hat3.out with h1 | ⟨g', h1, h2⟩
            · exact hst.out f (by omega) k (by rw [← h1, e])
            · rw [h1] at e
              cases e
              right
              omega
          · rw [upd_other _ _ h] at e
            exact hst.out i hi k e
        clear F FY Wr WY Dr DY Fr FrY F3 hat3 hpf
        go_roundw
        case rel => exact ⟨k + 1, g, m, c, _, _, oth, by omega, by go_num, rfl, hE, F3', W3, hv3, hgr3, hst3, D3, Fr3⟩
        case measure => simp [intOf]; omega
      · have heb : (O.2 / 32 == tn) = false := by simpa using he
        have hE : Hid (BegTo rows rows' row tn (32 + s) (k + 1) (oth ++ [O])) := hother.out he
        have hY2 : Since (wr.alloc (.cells #[.int .i64 O.1, .int .i64 O.2] 47)) ((wr.alloc (.cells #[.int .i64 O.1, .int .i64 O.2] 47)).alloc (.cells #[.int .i64 O.1, .int .i64 O.2] 47)) := (Since.refl _).alloc _
        have FY2 := FY.since hY2
        have RY2 := Rd.one (S := shT) (wr.alloc (.cells #[.int .i64 O.1, .int .i64 O.2] 47)) O 47 (wr.heap.size + 1) (by simp)
        have hgl := F.lt
        clear he
        go_wp2_with (first | (go_at_call 37; refine (hto _).mono ?_; rintro _ _ ⟨rfl, rfl⟩) | (at_builtin; refine app_own (v := .slice (some ⟨g, 0, none⟩) m c) laidT rfl _ _ rfl rfl FY2 rfl RY2 (by omega) (by unfold maxLen; omega) (by omega) (by simp; omega) _ rfl ?_; intro g' c' w5 T5 hg5 hat5))
        have t5 : Touch g _ _ := touch_grown (g := g) hg5
        have W5 := (WY.since hY2).touch t5 (Ne.symm hgb) (fun i hi => hgr.out i hi)
        have D5 := (DY.since hY2).touch t5 (Ne.symm hgbm)
        have Fr5 : Far (fun k => k = b ∨ ∃ i, i < 64 ∧ (vs i).ownBlock = some k) w w5 := by
          have a1 := FrY.trans (Far.of_since hY2)
          refine ⟨t5.os.trans a1.os, t5.tape.trans a1.tape, t5.output.trans a1.output, Nat.le_trans a1.size t5.size, fun k hk hp => (t5.block k (Nat.lt_of_lt_of_le hk a1.size) (by omega)).trans (a1.block k hk hp)⟩
        have hgr5 : Hid (∀ i, i < 64 → (vs' i).ownBlock ≠ some g') := fun i hi e => by
          rcases hat5 with h1 | h1
          · have : g = g' := by simpa [Value.ownBlock] using h1
            exact hgr.out i hi (by rw [this]; exact e)
          · have := ((Wr.own i hi).lt e).2
            simp at h1
            omega
        clear F FY Wr WY Dr DY Fr FrY FY2 RY2 hg5 hat5 hY2
        go_roundw
        case rel => exact ⟨k + 1, g', m + 1, c', vs', rows', _, by omega, by go_num, rfl, hE, T5, W5, hv', hgr5, hst, D5, Fr5⟩
        case measure => simp [intOf]; omega
    · have hkn : k = n := by omega
      subst hkn
      have hE := hBt.out
      rw [← hn.out] at hE
      have hBg := hE.done (by omega) (by omega) hrow.out
      replace hBg : Hid _ := hBg
      have c2 : wr.cell? ⟨b, 33 + s, none⟩ = some (vs' (32 + s)) := by rw [show 33 + s = 32 + s + 1 by omega]; exact Wr.cellRow (32 + s) (by omega)
      have f2 : wr.frozen? ⟨b, 33 + s, none⟩ = false := Wr.free _
      have W6 := Wr.setRowFar (i := 32 + s) (by omega) (w1 := wr) (v := .slice (some ⟨g, 0, none⟩) m c) (xs := oth) (World.grownBy.refl _ _) (by rw [F.1]; exact Own.low F (by omega)) (fun j hj _ g' e e' => hgr.out j hj (by rw [e]; exact e'.symm))
      rw [show 32 + s + 1 = 33 + s by omega] at W6
      have D6 := Dr.touch ((Touch.refl b wr).put (33 + s) (.slice (some ⟨g, 0, none⟩) m c)) hbm
      have Fr6 : Far (fun k => k = b ∨ ∃ i, i < 64 ∧ (vs i).ownBlock = some k) w (wr.setCell ⟨b, 33 + s, none⟩ (.slice (some ⟨g, 0, none⟩) m c)) := Fr.trans (Far.of_touch ((Touch.refl b wr).put (33 + s) _) (.inl rfl))
      clear Wr F Dr Fr hE hBt hrs
      go_wp2
      go_end0
      exact ⟨rfl, _, _, W6, hBg.out, D6, Fr6⟩
end Go.Proofs.Ytgdhdeadbmeejaa
