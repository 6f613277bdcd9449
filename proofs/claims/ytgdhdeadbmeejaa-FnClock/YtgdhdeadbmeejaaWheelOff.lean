/-
  Contract of the wheels' goOff.
-/
import Derived.Test.YtgdhdeadbmeejaaWheelTurn
namespace Go.Proofs.Ytgdhdeadbmeejaa
open Go.ChangeShapes Go.WideShapes Go.ChangeAt Go.RowKit Go.Deep Go.Sort Go.Maps
set_option linter.unusedVariables false

theorem nodup_sub_len : ∀ {l m : List Int}, l.Nodup → l ⊆ m → l.length ≤ m.length
  | [], m, _, _ => Nat.zero_le _
  | a :: r, m, hn, hs => by
    obtain ⟨h1, h2⟩ := List.nodup_cons.1 hn
    have ha : a ∈ m := hs (by simp)
    have hsub : r ⊆ m.erase a := fun x hx => (List.mem_erase_of_ne (fun e : x = a => h1 (by rw [← e]; exact hx))).2 (hs (by simp [hx]))
    have := nodup_sub_len h2 hsub
    rw [List.length_erase_of_mem ha] at this
    have hpos : 0 < m.length := List.length_pos_of_mem ha
    simp only [List.length_cons]
    omega

set_option maxHeartbeats 4000000 in
theorem goOff {w : World} {B b bm : Nat} {now : Int} {vs : Nat → Value} {rows : Nat → List (Int × Int)} {ts : List (Int × Int)} (W : Wheels w B b bm now vs rows) (D : Due w bm ts) (hB : B ≤ w.heap.size) (tick : Int) (ht : 0 < tick ∧ tick ≤ 1000000000) (s : Nat) (hs : tick % 32 = (s : Int)) (hl : (rows s).length ≤ 1000000) (hts : ts.length ≤ 1000)
    (hr : ts.Pairwise aheadT) (hsane : Sane rows) (hp : ∀ x, (x, tick) ∈ ts → (x, tick) ∈ rows s) :
    Calls Try.prog 40 #[.pointer (some ⟨b, 0, none⟩), .int .i64 tick] w fun e w' => ∃ g m c, e = .returned (.slice (some ⟨g, 0, none⟩) m c) ∧ Held shI w' w.heap.size g m c (idsAt ts tick) ∧ Wheels w' B b bm now (upd vs s (.slice none 0 0)) (upd rows s []) ∧ Due w' bm (notAt ts tick) ∧ Far (fun k => k = b ∨ k = bm) w w' := by
  have hnd := D.once
  have hs32 : s < 32 := by omega
  have hrem : tick.tmod 32 = (s : Int) := by rw [Int.tmod_eq_emod_of_nonneg (by omega)]; exact hs
  have hws : IntKind.i64.wrap (s : Int) = (s : Int) := by rw [IntWalk.i64_left]; exact IntWalk.wrap64_in _ ⟨by omega, by omega⟩
  have hs' : (s : Int) < 32 := by omega
  have hs0 : (0 : Int) ≤ (s : Int) := by omega
  have hbm := W.mapNe D
  have hbl := W.lt
  have hbml := D.lt
  have k0 : Since w (w.alloc (.cells #[] 3)) := (Since.refl _).alloc _
  have F0 : Held shI (w.alloc (.cells #[] 3)) w.heap.size w.heap.size 0 0 [] := Held.empty (S := shI) w
  have W0 := W.since k0
  have D0 := D.since k0
  have O0 := W0.own s (by omega)
  obtain ⟨row, hrow⟩ : ∃ row, Hid (rows s = row) := ⟨_, rfl⟩
  rw [hrow.out] at O0 hl hp
  have hrs : ∀ t ∈ row, I64 t.1 := fun t ht => (hsane s (by omega) t (by rw [hrow.out]; exact ht)).1
  obtain ⟨n, hn⟩ : ∃ n, Hid (row.length = n) := ⟨_, rfl⟩
  rw [hn.out] at O0 hl
  obtain ⟨av, cv, hv, -, -⟩ := O0.form
  have c1 : (w.alloc (.cells #[] 3)).cell? ⟨b, 1 + s, none⟩ = some (.slice av n cv) := by rw [← hv, Nat.add_comm]; exact W0.cellRow s (by omega)
  go_enter Try.func40, Try.ntmps40
  go_wp2_with (fail)
  have hZs : (w.alloc (.cells #[] 3)).heap.size = w.heap.size + 1 := by simp
  generalize w.alloc (.cells #[] 3) = Z at k0 F0 W0 D0 O0 c1 hZs ⊢
  clear c1 hZs
  go_loopw [6, 19] (fun o i wr => ∃ (k g m c : Nat) (us : List (Int × Int)) (found : List Int), k ≤ n ∧ i = .int .i64 k ∧ o = .slice (some ⟨g, 0, none⟩) m c ∧ Hid (OffTo ts row tick k us found) ∧ Held shI wr w.heap.size g m c found ∧ Wheels wr B b bm now vs rows ∧ Due wr bm us ∧ Far (fun k => k = bm) w wr) (fun _ i _ => n - (intOf i).toNat)
  case atStart => exact ⟨0, w.heap.size, 0, 0, ts, [], by omega, rfl, rfl, OffTo.start _ _ _, F0, W0, D0, Far.of_since k0⟩
  case round =>
    clear F0 W0 D0 O0 k0
    obtain ⟨k, g, m, c, us, found, hk, rfl, rfl, hO, F, Wr, Dr, Fr⟩ := hrel
    have hmk : m ≤ 1000 := by
      have h1 : found.length ≤ (idsOf ts).length := by
        have hsub : found ⊆ idsOf ts := fun x hx => List.mem_map.2 ⟨_, ((hO.out.is x).1 hx).2, rfl⟩
        exact nodup_sub_len hO.out.once hsub
      rw [← F.1]
      simp [idsOf] at h1
      omega
    have hgb : g ≠ b := by
      intro e
      obtain ⟨cur, h1⟩ := Own.tag F (g := g) rfl
      obtain ⟨cs, h2, _⟩ := Wr.blk
      rw [e, h2] at h1
      injection h1 with h1
      injection h1 with _ h1
      exact absurd h1 (by decide)
    have hgbm : g ≠ bm := by
      intro e
      obtain ⟨cur, h1⟩ := Own.tag F (g := g) rfl
      obtain ⟨es, clock, h2⟩ := Dr.tag
      rw [e, h2] at h1
      cases h1
    have hgr : ∀ i, i < 64 → (vs i).ownBlock ≠ some g := fun i hi e => by
      rcases (Wr.own i hi).apart F (by decide) with h | h
      · rw [h] at e; cases e
      · exact h (by rw [e]; rfl)
    by_cases hlt : k < n
    · have hlt' : (k : Int) < (n : Int) := by omega
      have hkr : k < row.length := by rw [hn.out]; exact hlt
      have Or := Wr.own s (by omega)
      rw [hrow.out, hn.out, hv] at Or
      obtain ⟨x, rfl, hb, q0, q1⟩ := Or.reads.tim k hlt
      have hi64 := hrs _ (tAt_mem (i := k) hkr)
      have hhit := hO.out.hit hkr hnd ht.1
      have hmiss := hO.out.miss hkr hnd
      generalize tAt row k = O at q0 q1 hi64 hhit hmiss
      replace hhit : Hid _ := hhit
      replace hmiss : Hid _ := hmiss
      clear hp hrs hO
      have hY : Since wr (wr.alloc (.cells #[.int .i64 O.1, .int .i64 O.2] 47)) := (Since.refl _).alloc _
      have TY := Blk.new wr #[.int .i64 O.1, .int .i64 O.2] 47
      have WY := Wr.since hY
      have DY := Dr.since hY
      have FY := F.since hY
      have FrY := Fr.trans (Far.of_since hY)
      go_wp2_with (fail)
      have hYs : wr.heap.size < (wr.alloc (.cells #[.int .i64 O.1, .int .i64 O.2] 47)).heap.size := by simp
      have hwrs := Fr.size
      generalize wr.alloc (.cells #[.int .i64 O.1, .int .i64 O.2] 47) = Y at hY TY WY DY FY FrY hYs ⊢
      have Or' := Or
      clear Or F Fr q0 q1
      refine wp_region_each (wb := Y) (fun i z v => match i with
        | 0 => v = .pointer (some ⟨b, 0, none⟩)
        | 1 => v = .pointer (some ⟨b, 0, none⟩)
        | 2 => v = .pointer (some ⟨b, 65, none⟩)
        | 3 => v = .map (some bm)
        | 4 => v = .pointer (some ⟨wr.heap.size, 0, none⟩)
        | 5 => v = .int .i64 O.1
        | 6 => v = .int .i64 (dueAt us O.1)
        | 7 => v = .int .i64 tick
        | 8 => v = .bool (dueAt us O.1 == tick)
        | _ => True) (fun v => { tmps := #[Value.pointer (some ⟨b, 0, none⟩), Value.int IntKind.i64 tick, undef, undef, Value.slice none 0 0, Value.int IntKind.i64 (s : Int), Value.slice (some ⟨g, 0, none⟩) m c, undef, Value.pointer (some ⟨wr.heap.size, 0, none⟩), Value.int IntKind.i64 tick, Value.int IntKind.i64 (s : Int), Value.slice (some ⟨w.heap.size, 0, none⟩) 0 0, Value.pointer (some ⟨b, 0, none⟩), Value.int IntKind.i64 (s : Int), Value.pointer (some ⟨b, 0, none⟩), Value.pointer (some ⟨b, 1, none⟩), Value.pointer (some ⟨b, 1 + s, none⟩), Value.slice (some x) n cv, Value.int IntKind.i64 (n : Int), Value.int IntKind.i64 (k : Int), Value.bool true, Value.pointer (some (x.add (k * 2))), Value.agg #[Value.int IntKind.i64 O.fst, Value.int IntKind.i64 O.snd], v 0, v 1, v 2, v 3, v 4, v 5, v 6, v 7, v 8, u32, u33, u34, u35, u36, u37, u38, u39, u40, u41, u42, u43, undef, undef, undef, undef, undef, undef, undef, undef], defers := [] }) (by kernel_rfl) (by kernel_rfl) (Since.refl _) ?_ (fun vals => by kernel_rfl) ?_ ?_
      case refine_1 =>
        intro j' z z' v h1 h2
        match j', h2 with
        | 0, h2 | 1, h2 | 2, h2 | 3, h2 | 4, h2 | 5, h2 | 6, h2 | 7, h2 | 8, h2 => exact h2
        | n + 9, _ => trivial
      case refine_2 =>
        repeat (first | exact eachDoes_nil | refine eachDoes_cons ?_ ?_)
        all_goals intro vals z hz hv
        all_goals simp [Region.binds] at hv
        all_goals have e1 := (WY.since hz).cellMap
        all_goals have e2 : z.cell? ⟨wr.heap.size, 0, none⟩ = some (.int .i64 O.1) := (TY.since hz).cell 0
        all_goals have e3 := (DY.since hz).run_get hi64
        all_goals simp [does, doesUpon, go_sem, hv, e1, e2, e3, Since.refl]
      case refine_3 =>
        intro vals z hz hv
        have h0 : vals 0 = _ := hv 0 (by decide)
        have h1 : vals 1 = _ := hv 1 (by decide)
        have h2 : vals 2 = _ := hv 2 (by decide)
        have h3 : vals 3 = _ := hv 3 (by decide)
        have h4 : vals 4 = _ := hv 4 (by decide)
        have h5 : vals 5 = _ := hv 5 (by decide)
        have h6 : vals 6 = _ := hv 6 (by decide)
        have h7 : vals 7 = _ := hv 7 (by decide)
        have h8 : vals 8 = _ := hv 8 (by decide)
        clear hv
        simp only [h0, h1, h2, h3, h4, h5, h6, h7, h8]
        clear h0 h1 h2 h3 h4 h5 h6 h7 h8
        replace WY := WY.since hz
        replace DY := DY.since hz
        replace FY := FY.since hz
        replace TY := TY.since hz
        replace FrY := FrY.trans (Far.of_since hz)
        replace hYs := Nat.lt_of_lt_of_le hYs hz.le
        by_cases he : dueAt us O.1 = tick
        · have heb : (dueAt us O.1 == tick) = true := by simpa using he
          have hM : Hid (OffTo ts row tick (k + 1) (without us O.1) (found ++ [O.1])) := hhit.out he
          rw [heb]
          clear heb he
          go_wp2_with (fail)
          refine wp_region_tail (wb := z) 6 (fun i z v => match i with
            | 0 => v = .pointer (some ⟨b, 0, none⟩)
            | 1 => v = .pointer (some ⟨b, 0, none⟩)
            | 2 => v = .pointer (some ⟨b, 65, none⟩)
            | 3 => v = .map (some bm)
            | 4 => v = .pointer (some ⟨wr.heap.size, 0, none⟩)
            | 5 => v = .int .i64 O.1
            | _ => True) (fun v => { tmps := #[Value.pointer (some ⟨b, 0, none⟩), Value.int IntKind.i64 tick, undef, undef, Value.slice none 0 0, Value.int IntKind.i64 (s : Int), Value.slice (some ⟨g, 0, none⟩) m c, undef, Value.pointer (some ⟨wr.heap.size, 0, none⟩), Value.int IntKind.i64 tick, Value.int IntKind.i64 (s : Int), Value.slice (some ⟨w.heap.size, 0, none⟩) 0 0, Value.pointer (some ⟨b, 0, none⟩), Value.int IntKind.i64 (s : Int), Value.pointer (some ⟨b, 0, none⟩), Value.pointer (some ⟨b, 1, none⟩), Value.pointer (some ⟨b, 1 + s, none⟩), Value.slice (some x) n cv, Value.int IntKind.i64 (n : Int), Value.int IntKind.i64 (k : Int), Value.bool true, Value.pointer (some (x.add (k * 2))), Value.agg #[Value.int IntKind.i64 O.fst, Value.int IntKind.i64 O.snd], Value.pointer (some ⟨b, 0, none⟩), Value.pointer (some ⟨b, 0, none⟩), Value.pointer (some ⟨b, 65, none⟩), Value.map (some bm), Value.pointer (some ⟨wr.heap.size, 0, none⟩), Value.int IntKind.i64 O.fst, Value.int IntKind.i64 (dueAt us O.fst), Value.int IntKind.i64 tick, Value.bool true, v 0, v 1, v 2, v 3, v 4, v 5, u38, u39, u40, u41, u42, u43, undef, undef, undef, undef, undef, undef, undef, undef], defers := [] }) (by kernel_rfl) (by kernel_rfl) (by kernel_rfl) (Since.refl _) ?_ (fun vals => by kernel_rfl) ?_ ?_
          case refine_1 =>
            intro j' z z' v h1 h2
            match j', h2 with
            | 0, h2 | 1, h2 | 2, h2 | 3, h2 | 4, h2 | 5, h2 => exact h2
            | n + 6, _ => trivial
          case refine_2 =>
            simp only [List.take_succ_cons, List.take_zero]
            repeat (first | exact eachDoes_nil | refine eachDoes_cons ?_ ?_)
            all_goals intro vals z' hz' hv
            all_goals simp [Region.binds] at hv
            all_goals have e1 := (WY.since hz').cellMap
            all_goals have e2 : z'.cell? ⟨wr.heap.size, 0, none⟩ = some (.int .i64 O.1) := (TY.since hz').cell 0
            all_goals simp [does, doesUpon, go_sem, hv, e1, e2, Since.refl]
          case refine_3 =>
            intro vals z2 hz2 hv
            have h0 : vals 0 = _ := hv 0 (by decide)
            have h1 : vals 1 = _ := hv 1 (by decide)
            have h2 : vals 2 = _ := hv 2 (by decide)
            have h3 : vals 3 = _ := hv 3 (by decide)
            have h4 : vals 4 = _ := hv 4 (by decide)
            have h5 : vals 5 = _ := hv 5 (by decide)
            clear hv
            simp only [h0, h1, h2, h3, h4, h5, List.drop_succ_cons, List.drop_zero]
            clear h0 h1 h2 h3 h4 h5
            replace WY := WY.since hz2
            replace DY := DY.since hz2
            replace FY := FY.since hz2
            replace TY := TY.since hz2
            replace FrY := FrY.trans (Far.of_since hz2)
            replace hYs := Nat.lt_of_lt_of_le hYs hz2.le
            have hTl : wr.heap.size ≠ bm := by have := Dr.lt; omega
            go_wp2_with (first | (at_delete; refine due_del rfl _ _ rfl DY hi64 rfl rfl ?_; intro z3 D3 t3; have W3 := WY.touch t3 (Ne.symm hbm) (fun i hi => WY.rowNeMap DY i hi); have F3 := FY.touch t3 hgbm; have T3 := TY.touch t3 hTl; have Fr3 := FrY.trans (Far.of_touch (P := fun k => k = bm) t3 rfl); have t0 : z3.cell? ⟨wr.heap.size, 0, none⟩ = some (.int .i64 O.1) := T3.cell 0; have hY3 : Since z3 (z3.alloc (.cells #[.int .i64 O.1] 3)) := (Since.refl _).alloc _; have FY3 := F3.since hY3; have RY3 := Rd.one (S := shI) z3 O.1 3 z3.heap.size rfl; have hz3 : w.heap.size ≤ z3.heap.size := Fr3.size; go_frame) | (at_builtin; refine app_own (v := .slice (some ⟨g, 0, none⟩) m c) laidI rfl _ _ rfl rfl FY3 rfl RY3 (by omega) (by unfold maxLen; omega) (by omega) (by simp; omega) _ rfl ?_; intro g' c' w5 T5 hg5 hat5))
            have t5 : Touch g _ _ := touch_grown (g := g) hg5
            have W5 := (W3.since hY3).touch t5 (Ne.symm hgb) hgr
            have D5 := (D3.since hY3).touch t5 (Ne.symm hgbm)
            have Fr5 : Far (fun k => k = bm) w w5 := by
              have hg0 := F3.low'
              have a1 := Fr3.trans (Far.of_since hY3)
              refine ⟨t5.os.trans a1.os, t5.tape.trans a1.tape, t5.output.trans a1.output, Nat.le_trans a1.size t5.size, fun k hk hp => (t5.block k (Nat.lt_of_lt_of_le hk a1.size) (by omega)).trans (a1.block k hk hp)⟩
            go_roundw
            case rel => exact ⟨k + 1, g', m + 1, c', _, _, by omega, by go_num, rfl, hM, T5, W5, D5, Fr5⟩
            case measure => simp [intOf]; omega
        · have heb : (dueAt us O.1 == tick) = false := by simpa using he
          have hM : Hid (OffTo ts row tick (k + 1) us found) := hmiss.out he
          rw [heb]
          clear heb
          go_wp2
          go_roundw
          case rel => exact ⟨k + 1, g, m, c, us, found, by omega, by go_num, rfl, hM, FY, WY, DY, FrY⟩
          case measure => simp [intOf]; omega
    · have hkn : k = n := by omega
      subst hkn
      have hE := hO.out
      rw [← hn.out] at hE
      obtain ⟨hus, hfs⟩ := hE.done hr hnd hp
      replace hus : Hid _ := hus
      replace hfs : Hid _ := hfs
      have c2 : wr.cell? ⟨b, 1 + s, none⟩ = some (vs s) := by rw [Nat.add_comm]; exact Wr.cellRow s (by omega)
      have f2 : wr.frozen? ⟨b, 1 + s, none⟩ = false := Wr.free _
      have W6 := Wr.setRow (i := s) (by omega) (w1 := wr) (v := .slice none 0 0) (xs := []) (World.grownBy.refl _ _) (Own.nil _ _) (.inl rfl)
      rw [Nat.add_comm s 1] at W6
      have F6 := F.other (b := b) hgb (1 + s) (.slice none 0 0)
      have D6 := Dr.touch ((Touch.refl b wr).put (1 + s) (.slice none 0 0)) hbm
      have Fr6 : Far (fun k => k = b ∨ k = bm) w (wr.setCell ⟨b, 1 + s, none⟩ (.slice none 0 0)) := (Fr.mono (fun k h => .inr h)).trans (Far.of_touch ((Touch.refl b wr).put (1 + s) _) (.inl rfl))
      have hsrt := sortInts _ g m c found _ F6 (by omega)
      have hglo := F.low'
      clear Wr F Dr Fr hp hO hE hv
      go_wp2_with (go_at_call 48; refine hsrt.mono ?_; rintro _ w7 ⟨rfl, F7, t7⟩)
      have hgr7 : ∀ i, i < 64 → ((upd vs s (.slice none 0 0)) i).ownBlock ≠ some g := fun i hi e => by
        by_cases h : i = s
        · rw [h, upd_same] at e; cases e
        · rw [upd_other _ _ h] at e; exact hgr i hi e
      have W7 := W6.touch t7 (Ne.symm hgb) hgr7
      have D7 := D6.touch t7 (Ne.symm hgbm)
      have Fr7 : Far (fun k => k = b ∨ k = bm) w w7 := ⟨t7.os.trans Fr6.os, t7.tape.trans Fr6.tape, t7.output.trans Fr6.output, Nat.le_trans Fr6.size t7.size, fun k hk hp => (t7.block k (Nat.lt_of_lt_of_le hk Fr6.size) (by omega)).trans (Fr6.block k hk hp)⟩
      go_ret
      exact ⟨g, m, c, rfl, by rw [← hfs.out]; exact F7, W7, by rw [← hus.out]; exact D7, Fr7⟩
end Go.Proofs.Ytgdhdeadbmeejaa
