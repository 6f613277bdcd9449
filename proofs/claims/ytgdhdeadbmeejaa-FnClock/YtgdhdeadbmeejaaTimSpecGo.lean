/-
  Contract of spec's ClockGo.
-/
import Derived.Test.YtgdhdeadbmeejaaTimSpec
namespace Go.Proofs.Ytgdhdeadbmeejaa
open Go.ChangeShapes Go.WideShapes Go.ChangeAt Go.RowKit Go.Deep Go.Sort Go.Maps
set_option linter.unusedVariables false

theorem Blk.grownG {b : Nat} {x x' : World} {cs : Array Value} {row : Option Nat} (k : Blk b x cs) (hg : x.grownBy x' row) (hne : row ≠ some b) : Blk b x' cs :=
  ⟨Nat.lt_of_lt_of_le k.lt hg.size, fun i => (hg.frozen_far ⟨b, i, none⟩ k.lt (fun e => hne e.symm)).trans (k.fz i), fun i => (hg.cell_far ⟨b, i, none⟩ k.lt (fun e => hne e.symm)).trans (k.cell i)⟩

theorem stay_next (ts : List (Int × Int)) (e : Int) (k : Nat) (hk : k < ts.length) : stay (ts.take (k + 1)) e = if e < (tAt ts k).2 then stay (ts.take k) e ++ [tAt ts k] else stay (ts.take k) e := by
  rw [take_nextT ts k hk]
  unfold stay
  rw [List.filter_append]
  by_cases h : e < (tAt ts k).2 <;> simp [h]

theorem gone_next (ts : List (Int × Int)) (e : Int) (k : Nat) (hk : k < ts.length) : gone (ts.take (k + 1)) e = if e < (tAt ts k).2 then gone (ts.take k) e else gone (ts.take k) e ++ [(tAt ts k).1] := by
  rw [take_nextT ts k hk]
  unfold gone
  rw [List.filter_append, List.map_append]
  by_cases h : e < (tAt ts k).2
  · have : ¬ (tAt ts k).2 ≤ e := by omega
    simp [h, this]
  · have : (tAt ts k).2 ≤ e := by omega
    simp [h, this]

theorem stay_le (ts : List (Int × Int)) (e : Int) (k : Nat) : (stay (ts.take k) e).length ≤ k := Nat.le_trans (List.length_filter_le _ _) (by rw [List.length_take]; omega)

theorem gone_le (ts : List (Int × Int)) (e : Int) (k : Nat) : (gone (ts.take k) e).length ≤ k := by
  unfold gone
  rw [List.length_map]
  exact Nat.le_trans (List.length_filter_le _ _) (by rw [List.length_take]; omega)

set_option maxHeartbeats 4000000 in
set_option maxRecDepth 20000 in
theorem specGo (now : Int) (a : Option Addr) (n cap : Nat) (ts : List (Int × Int)) (ticks : Int) (w : World) (R : Rd shT w a n ts) (hn : n ≤ 1048576) (hnil : a = none → cap = 0) :
    Calls Try.prog 8 #[.agg #[.int .i64 now, .slice a n cap], .int .i64 ticks] w fun e w' => ∃ v m g q c, e = .returned (.tuple #[.agg #[.int .i64 (goC now ts ticks).1, v], .slice (some ⟨g, 0, none⟩) q c]) ∧ Own shT w' w.heap.size v m (goC now ts ticks).2.1 ∧ Held shI w' w.heap.size g q c (goC now ts ticks).2.2 ∧ Since w w' := by
  obtain ⟨r, hr⟩ : ∃ r, Hid (r = goC now ts ticks) := ⟨_, rfl⟩
  rw [← hr.out]
  have hlen := R.len
  have G : Since w (((w.alloc (.cells #[.int .i64 now, .slice a n cap] 26)).alloc (.cells #[.int .i64 0, .slice none 0 0] 26)).alloc (.cells #[] 3)) := (((Since.refl _).alloc _).alloc _).alloc _
  have k0 : ∀ x : World, Since x (x.alloc (.cells #[] 3)) := fun x => (Since.refl _).alloc _
  have A := ((Blk.new w #[.int .i64 now, .slice a n cap] 26).since ((Since.refl _).alloc (.cells #[.int .i64 0, .slice none 0 0] 26))).since (k0 _)
  have B := (Blk.new (w.alloc (.cells #[.int .i64 now, .slice a n cap] 26)) #[.int .i64 0, .slice none 0 0] 26).since (k0 _)
  have F : Held shI _ _ _ 0 0 [] := Held.empty (S := shI) ((w.alloc (.cells #[.int .i64 now, .slice a n cap] 26)).alloc (.cells #[.int .i64 0, .slice none 0 0] 26))
  simp only [World.size_alloc] at A B F
  have hin := fun x a b wx => specIn x a b wx
  have cA0 := A.cell 0
  have cA1 := A.cell 1
  try simp only [World.size_alloc] at cA0 cA1
  go_enter Try.func8, Try.ntmps8
  go_wp2_with (fail)
  refine (specClockOk now a n cap ts _ (R.since G)).mono ?_
  rintro _ w2 ⟨rfl, k2⟩
  replace A := A.since k2
  replace B := B.since k2
  replace G := G.trans k2
  replace F : Held shI w2 (w.heap.size + 1 + 1) (w.heap.size + 1 + 1) 0 0 [] := F.since k2
  replace cA0 := A.cell 0
  replace cA1 := A.cell 1
  simp at cA0 cA1
  have hcp := fun wx (hx : Since w wx) => specCopy now a n cap ts wx (R.since hx) hn hnil
  have hFl := F.lt
  have hbad : (¬ (okC now ts ∧ 0 ≤ ticks ∧ ticks ≤ 1000000000)) → r = (now, ts, []) := fun h => hr.out.trans (by unfold goC; rw [if_neg h])
  replace hbad : Hid _ := hbad
  clear k0
  by_cases hok : ¬ okC now ts
  · have hd : decide (okC now ts) = false := by simpa using hok
    have hre : Hid (r = (now, ts, [])) := hbad.out (fun h => hok h.1)
    rw [hd]
    go_wp2_with (first | (go_at_call 18; refine (hin _ _ _ _).mono ?_; rintro _ _ ⟨rfl, rfl⟩) | (go_at_call 24; refine (hcp _ G).mono ?_; rintro _ w3 ⟨g3, c3, rfl, T3, k3⟩; replace B := B.since k3; have b0 := B.cell 0; have b1 := B.cell 1; simp at b0 b1; have f0 := B.fz 0; have f1 := B.fz 1))
    have hlow3 := T3.low'
    have F3 := F.since k3
    refine bodyPost_ret (v := .tuple #[.agg #[.int .i64 now, .slice (some ⟨g3, 0, none⟩) n c3], .slice (some ⟨w.heap.size + 1 + 1, 0, none⟩) 0 0]) ?_ rfl ⟨.slice (some ⟨g3, 0, none⟩) n c3, n, w.heap.size + 1 + 1, 0, 0, by rw [hre.out], ?_, ?_, ?_⟩
    · simp [results, go_sem, b0, b1]
    · rw [hre.out]
      exact ((T3.other (by omega) _ _).other (by omega) _ _).raise (by omega)
    · rw [hre.out]
      exact ((F3.other (by omega) _ _).other (by omega) _ _).raise (by omega)
    · exact since_put1 (since_put1 (G.trans k3) (by omega) _ _) (by omega) _ _
  replace hok := Decidable.not_not.1 hok
  have hd : decide (okC now ts) = true := by simpa using hok
  rw [hd]
  have hnow := hok.1
  by_cases hid : ¬ (0 ≤ ticks ∧ ticks ≤ 1000000000)
  · have hidd : decide (0 ≤ ticks ∧ ticks ≤ 1000000000) = false := by simpa using hid
    have hre : Hid (r = (now, ts, [])) := hbad.out (fun h => hid h.2)
    skip
    go_wp2_with (first | (go_at_call 18; refine (hin _ _ _ _).mono ?_; rintro _ _ ⟨rfl, rfl⟩) | (go_at_call 24; refine (hcp _ G).mono ?_; rintro _ w3 ⟨g3, c3, rfl, T3, k3⟩; replace B := B.since k3; have b0 := B.cell 0; have b1 := B.cell 1; simp at b0 b1; have f0 := B.fz 0; have f1 := B.fz 1))
    have hlow3 := T3.low'
    have F3 := F.since k3
    refine bodyPost_ret (v := .tuple #[.agg #[.int .i64 now, .slice (some ⟨g3, 0, none⟩) n c3], .slice (some ⟨w.heap.size + 1 + 1, 0, none⟩) 0 0]) ?_ rfl ⟨.slice (some ⟨g3, 0, none⟩) n c3, n, w.heap.size + 1 + 1, 0, 0, by rw [hre.out], ?_, ?_, ?_⟩
    · simp [results, go_sem, b0, b1]
    · rw [hre.out]
      exact ((T3.other (by omega) _ _).other (by omega) _ _).raise (by omega)
    · rw [hre.out]
      exact ((F3.other (by omega) _ _).other (by omega) _ _).raise (by omega)
    · exact since_put1 (since_put1 (G.trans k3) (by omega) _ _) (by omega) _ _
  replace hid := Decidable.not_not.1 hid
  have hidd : decide (0 ≤ ticks ∧ ticks ≤ 1000000000) = true := by simpa using hid
  have hw1 : IntKind.i64.wrap (now + ticks) = now + ticks := by rw [IntWalk.i64_left]; exact IntWalk.wrap64_in _ ⟨by omega, by omega⟩
  have hre : Hid (r = (goTo now ticks, stay ts (goTo now ticks), gone ts (goTo now ticks))) := hr.out.trans (by unfold goC; rw [if_pos ⟨hok, hid⟩])
  have hn100 : n ≤ 100 := by rw [← hlen]; exact hok.2.1
  clear hbad hcp hr
  obtain ⟨e, he⟩ : ∃ e, Hid (e = goTo now ticks) := ⟨_, rfl⟩
  rw [← he.out] at hre
  have kO : ∀ u, Since w2 (w2.alloc (.cells #[.int .i64 u, .slice none 0 0] 26)) := fun u => (Since.refl _).alloc _
  have Bo := Blk.new w2 #[.int .i64 e, .slice none 0 0] 26
  have A' := A.since (kO e)
  have B' := B.since (kO e)
  have G' := G.trans (kO e)
  have F' := F.since (kO e)
  have hcut : ∀ Z : World, Blk w2.heap.size Z #[.int .i64 e, .slice none 0 0] → Blk w.heap.size Z #[.int .i64 now, .slice a n cap] → Blk (w.heap.size + 1) Z #[.int .i64 0, .slice none 0 0] → Since w Z → Held shI Z (w.heap.size + 1 + 1) (w.heap.size + 1 + 1) 0 0 [] → w2.heap.size + 1 = Z.heap.size → True := fun _ _ _ _ _ _ _ => trivial
  clear hcut
  by_cases hbig : 1000000000 < now + ticks
  · have hee : e = 1000000000 := he.out.trans (by unfold goTo; rw [if_neg (by omega)])
    have cO0 : (w2.alloc (.cells #[.int .i64 (now + ticks), .slice none 0 0] 26)).cell? ⟨w2.heap.size, 0, none⟩ = some (.int .i64 (now + ticks)) := (Blk.new w2 #[.int .i64 (now + ticks), .slice none 0 0] 26).cell 0
    subst hee
    clear kO A B G F
    go_wp2_with (go_at_call 18; refine (hin _ _ _ _).mono ?_; rintro _ _ ⟨rfl, rfl⟩)
    generalize hZ : w2.alloc (.cells #[.int .i64 (1000000000), .slice none 0 0] 26) = Z at A' B' G' F' Bo ⊢
    have hZs : Z.heap.size = w2.heap.size + 1 := by rw [← hZ]; simp
    clear hZ
    go_loopw [6, 8] (fun o i wr => ∃ (k m q g c : Nat) (v : Value), g ≠ w2.heap.size ∧ k ≤ n ∧ i = .int .i64 k ∧ o = .slice (some ⟨g, 0, none⟩) q c ∧ Held shI wr (w.heap.size + 1 + 1) g q c (gone (ts.take k) (1000000000)) ∧ Own shT wr (w2.heap.size + 1) v m (stay (ts.take k) (1000000000)) ∧ Since w wr ∧ Blk w.heap.size wr #[.int .i64 now, .slice a n cap] ∧ Blk (w.heap.size + 1) wr #[.int .i64 0, .slice none 0 0] ∧ Blk w2.heap.size wr #[.int .i64 (1000000000), v]) (fun _ i _ => n - (intOf i).toNat)
    case atStart => exact ⟨0, 0, 0, _, _, .slice none 0 0, by omega, by omega, rfl, rfl, by rw [List.take_zero]; exact F', by rw [List.take_zero]; exact Own.nil _ _, G', A', B', Bo⟩
    case round =>
      clear F' G' A' B' Bo
      obtain ⟨k, m, q, g, c, v, hgow, hk, rfl, rfl, F, V, Sr, A, B, Bo⟩ := hrel
      have hmk : m ≤ k := by rw [← V.1]; exact stay_le _ _ _
      have hqk : q ≤ k := by rw [← F.1]; exact gone_le _ _ _
      have a1 := A.cell 1
      have o0 := Bo.cell 0
      have o1 := Bo.cell 1
      simp at a1 o0 o1
      by_cases hlt : k < n
      · have hlt' : (k : Int) < (n : Int) := by omega
        have hs := stay_next ts (1000000000) k (by omega)
        have hg := gone_next ts (1000000000) k (by omega)
        obtain ⟨x, rfl, hb, q0, q1⟩ := (R.since Sr).tim k hlt
        have xb : ∀ j, (x.add j).block = x.block := fun j => add_block _ _
        generalize tAt ts k = O at hs hg q0 q1
        go_wp2_with (fail)
        have z1 : ∀ z : Later wr, z.val.cell? ⟨w.heap.size, 1, none⟩ = some (.slice (some x) n cap) := fun z => (A.since z.ok).cell 1
        have z2 : ∀ z : Later wr, z.val.cell? ⟨w2.heap.size, 0, none⟩ = some (.int .i64 (1000000000)) := fun z => (Bo.since z.ok).cell 0
        have z3 : ∀ z : Later wr, z.val.cell? ⟨(x.add (k * 2)).block, (x.add (k * 2)).off + 1, none⟩ = some (.int .i64 O.2) := fun z => (Below.cell z.ok (p := ⟨(x.add (k * 2)).block, (x.add (k * 2)).off + 1, none⟩) (by show (x.add (k * 2)).block < _; rw [xb]; exact hb)).trans q1
        have z4 : ∀ z : Later wr, z.val.cell? (x.add (k * 2)) = some (.int .i64 O.1) := fun z => (Below.cell z.ok (p := x.add (k * 2)) (by rw [xb]; exact hb)).trans q0
        have hne : Nonempty (Later wr) := ⟨⟨wr, Since.refl _⟩⟩
        clear q0 q1 a1 o0 o1 xb
        by_cases hl : O.2 ≤ (1000000000)
        · rw [if_neg (by omega)] at hs hg
          replace hs : Hid _ := hs
          replace hg : Hid _ := hg
          refine wp_region_calm (wb := wr) (by kernel_rfl) (by kernel_rfl) (Since.refl _) ?_
          repeat (go_big_quiet_step (fail))
          refine wpQuiet_nil ?_
          rintro _ ⟨y, rfl⟩
          have q0 := z4 y
          have q1 := z3 y
          have hxb : x.block < y.val.heap.size := Nat.lt_of_lt_of_le hb y.ok.le
          replace V := V.since y.ok
          replace F := F.since y.ok
          replace Bo := Bo.since y.ok
          replace B := B.since y.ok
          replace A := A.since y.ok
          replace Sr := Sr.trans y.ok
          clear z1 z2 z3 z4 hne
          generalize y.val = wx at *
          have a1 := A.cell 1
          simp at a1
          have hY : Since wx (wx.alloc (.cells #[.int .i64 O.1] 3)) := (Since.refl _).alloc _
          have FY := F.since hY
          have RY := Rd.one (S := shI) wx O.1 3 wx.heap.size rfl
          have hFl2 := F.lt
          have hBl := B.lt
          have hFlo := F.low'
          go_wp2_with (at_builtin; refine app_own (v := .slice (some ⟨g, 0, none⟩) q c) laidI rfl _ _ rfl rfl FY rfl RY (by omega) (by unfold maxLen; omega) (by omega) (by simp; omega) _ rfl ?_; intro g' c' w5 T5 hg5 hat5)
          have hrow : ∀ b, (Value.slice (some ⟨g, 0, none⟩) q c).ownBlock = some b → g = b := fun b e => by simpa [Value.ownBlock] using e
          have V5 := (V.since hY).kept hg5 ((V.since hY).apart FY (by decide))
          have A5 := (A.since hY).grownG hg5 (fun e => by have := hrow _ e; omega)
          have B5 := (B.since hY).grownG hg5 (fun e => by have := hrow _ e; omega)
          have hgo : g' ≠ w2.heap.size := by
            have h1 := Bo.lt
            rcases hat5 with h | h
            · have := hrow _ h
              omega
            · simp at h
              omega
          have Bo5 := (Bo.since hY).grownG hg5 (fun e => by have := hrow _ e; omega)
          have S5 := since_grown (Sr.trans hY) hg5 (fun j e => by have := hrow _ e; omega)
          go_roundw
          case rel => exact ⟨k + 1, m, q + 1, g', c', v, hgo, by omega, by go_num, rfl, by rw [hg.out]; exact T5, by rw [hs.out]; exact V5, S5, A5, B5, Bo5⟩
          case measure => simp [intOf]; omega
        · rw [if_pos (by omega)] at hs hg
          replace hs : Hid _ := hs
          replace hg : Hid _ := hg
          refine wp_region_calm (wb := wr) (by kernel_rfl) (by kernel_rfl) (Since.refl _) ?_
          repeat (go_big_quiet_step (fail))
          refine wpQuiet_nil ?_
          rintro _ ⟨y, rfl⟩
          have p0 := z4 y
          have p1 := z3 y
          have hxb : x.block < y.val.heap.size := Nat.lt_of_lt_of_le hb y.ok.le
          replace V := V.since y.ok
          replace F := F.since y.ok
          replace Bo := Bo.since y.ok
          replace B := B.since y.ok
          replace A := A.since y.ok
          replace Sr := Sr.trans y.ok
          clear z1 z2 z3 z4 hne
          generalize y.val = wx at *
          go_wp2_with (fail)
          have D1 : Since wx wx.drew := (Since.refl _).drew
          have Vd := V.since D1
          have Bod := Bo.since D1
          have Ad := A.since D1
          have q0 : wx.drew.cell? (x.add (k * 2)) = some (.int .i64 O.1) := p0
          have q1 : wx.drew.cell? ⟨(x.add (k * 2)).block, (x.add (k * 2)).off + 1, none⟩ = some (.int .i64 O.2) := p1
          have s1 : wx.drew.cell? ⟨w2.heap.size, 1, none⟩ = some v := Bod.cell 1
          have s2 : wx.drew.cell? ⟨w.heap.size, 1, none⟩ = some (.slice (some x) n cap) := Ad.cell 1
          have hY : Since wx.drew (wx.drew.alloc (.cells #[.int .i64 O.1, .int .i64 O.2] 47)) := (Since.refl _).alloc _
          have VY := Vd.since hY
          have BoY := Bod.since hY
          have AY := Ad.since hY
          have FY := (F.since D1).since hY
          have BY := (B.since D1).since hY
          have SY := (Sr.trans D1).trans hY
          have s4 : (wx.alloc (.cells #[.int .i64 O.1, .int .i64 O.2] 47)).drew.cell? ⟨w2.heap.size, 1, none⟩ = some v := BoY.cell 1
          have RY := Rd.one (S := shT) wx.drew O 47 wx.heap.size rfl
          have hbo := Bo.lt
          have hBl := B.lt
          have hAl := A.lt
          clear Vd Bod Ad p0 p1
          go_region_law (refine step_app_own (v := v) laidT (by rfl) _ _ (by rfl) (by rfl) VY (by rfl) RY (by omega) (by unfold maxLen; omega) (by omega) (by simp; omega) _ rfl ?_; intro g' c' w5 T5 hg5 hat5; have Bo5 := BoY.grownG hg5 (fun e => by have := (VY.lt e).1; omega); have s5 : w5.cell? ⟨w2.heap.size, 1, none⟩ = some v := Bo5.cell 1; have f5 := Bo5.fz 1)
          all_goals
            have hlo5 := T5.low'
            have hgo : g ≠ w2.heap.size := hgow
            have T6 := T5.other (b := w2.heap.size) (by omega) 1 (.slice (some ⟨g', 0, none⟩) (m + 1) c')
            have B6 := (BY.grownG hg5 (fun e => by have := (VY.lt e).1; omega)).other (a := w2.heap.size) (by omega) 1 (.slice (some ⟨g', 0, none⟩) (m + 1) c')
            have A6 := (AY.grownG hg5 (fun e => by have := (VY.lt e).1; omega)).other (a := w2.heap.size) (by omega) 1 (.slice (some ⟨g', 0, none⟩) (m + 1) c')
            have F6 : Held shI _ _ g q c _ := Own.kept FY hg5 (Own.apart FY VY (by decide))
            replace F6 := F6.other (b := w2.heap.size) hgo 1 (.slice (some ⟨g', 0, none⟩) (m + 1) c')
            have Bo6 := Bo5.put 1 (.slice (some ⟨g', 0, none⟩) (m + 1) c') (by simp)
            have S6 := since_put1 (since_grown SY hg5 (fun j e => by have := (VY.lt e).1; omega)) (b := w2.heap.size) (by omega) 1 (.slice (some ⟨g', 0, none⟩) (m + 1) c')
            go_wp2
            go_roundw
            case rel => exact ⟨k + 1, m + 1, q, g, c, _, hgow, by omega, by go_num, rfl, by rw [hg.out]; exact F6, by rw [hs.out]; exact T6, S6, A6, B6, Bo6⟩
            case measure => simp [intOf]; omega
      · have hkn : k = n := by omega
        subst hkn
        rw [List.take_of_length_le (by omega)] at F V
        obtain ⟨av, cv, rfl, _, _⟩ := V.form
        have b0 := B.cell 0
        have b1 := B.cell 1
        have f0 := B.fz 0
        have f1 := B.fz 1
        simp at b0 b1
        have hBl := B.lt
        have hlo := F.low'
        go_wp2
        refine bodyPost_ret (v := .tuple #[.agg #[.int .i64 (1000000000), .slice av m cv], .slice (some ⟨g, 0, none⟩) q c]) ?_ rfl ⟨.slice av m cv, m, g, q, c, by rw [hre.out], ?_, ?_, ?_⟩
        · simp [results, go_sem, b0, b1]
        · rw [hre.out]
          exact (((V.touch ((Touch.refl (w.heap.size + 1) wr).put 0 _) (fun e => by have := (V.lt e).1; omega)).touch ((Touch.refl (w.heap.size + 1) _).put 1 _) (fun e => by have := (V.lt e).1; omega))).raise (fun g' e => by have := (V.lt e).1; omega)
        · rw [hre.out]
          exact ((F.other (by omega) _ _).other (by omega) _ _).raise (by omega)
        · exact since_put1 (since_put1 Sr (by omega) _ _) (by omega) _ _
  · have hee : e = now + ticks := he.out.trans (by unfold goTo; rw [if_pos (by omega)])
    subst hee
    clear kO A B G F
    go_wp2_with (go_at_call 18; refine (hin _ _ _ _).mono ?_; rintro _ _ ⟨rfl, rfl⟩)
    generalize hZ : w2.alloc (.cells #[.int .i64 (now + ticks), .slice none 0 0] 26) = Z at A' B' G' F' Bo ⊢
    have hZs : Z.heap.size = w2.heap.size + 1 := by rw [← hZ]; simp
    clear hZ
    go_loopw [6, 8] (fun o i wr => ∃ (k m q g c : Nat) (v : Value), g ≠ w2.heap.size ∧ k ≤ n ∧ i = .int .i64 k ∧ o = .slice (some ⟨g, 0, none⟩) q c ∧ Held shI wr (w.heap.size + 1 + 1) g q c (gone (ts.take k) (now + ticks)) ∧ Own shT wr (w2.heap.size + 1) v m (stay (ts.take k) (now + ticks)) ∧ Since w wr ∧ Blk w.heap.size wr #[.int .i64 now, .slice a n cap] ∧ Blk (w.heap.size + 1) wr #[.int .i64 0, .slice none 0 0] ∧ Blk w2.heap.size wr #[.int .i64 (now + ticks), v]) (fun _ i _ => n - (intOf i).toNat)
    case atStart => exact ⟨0, 0, 0, _, _, .slice none 0 0, by omega, by omega, rfl, rfl, by rw [List.take_zero]; exact F', by rw [List.take_zero]; exact Own.nil _ _, G', A', B', Bo⟩
    case round =>
      clear F' G' A' B' Bo
      obtain ⟨k, m, q, g, c, v, hgow, hk, rfl, rfl, F, V, Sr, A, B, Bo⟩ := hrel
      have hmk : m ≤ k := by rw [← V.1]; exact stay_le _ _ _
      have hqk : q ≤ k := by rw [← F.1]; exact gone_le _ _ _
      have a1 := A.cell 1
      have o0 := Bo.cell 0
      have o1 := Bo.cell 1
      simp at a1 o0 o1
      by_cases hlt : k < n
      · have hlt' : (k : Int) < (n : Int) := by omega
        have hs := stay_next ts (now + ticks) k (by omega)
        have hg := gone_next ts (now + ticks) k (by omega)
        obtain ⟨x, rfl, hb, q0, q1⟩ := (R.since Sr).tim k hlt
        have xb : ∀ j, (x.add j).block = x.block := fun j => add_block _ _
        generalize tAt ts k = O at hs hg q0 q1
        go_wp2_with (fail)
        have z1 : ∀ z : Later wr, z.val.cell? ⟨w.heap.size, 1, none⟩ = some (.slice (some x) n cap) := fun z => (A.since z.ok).cell 1
        have z2 : ∀ z : Later wr, z.val.cell? ⟨w2.heap.size, 0, none⟩ = some (.int .i64 (now + ticks)) := fun z => (Bo.since z.ok).cell 0
        have z3 : ∀ z : Later wr, z.val.cell? ⟨(x.add (k * 2)).block, (x.add (k * 2)).off + 1, none⟩ = some (.int .i64 O.2) := fun z => (Below.cell z.ok (p := ⟨(x.add (k * 2)).block, (x.add (k * 2)).off + 1, none⟩) (by show (x.add (k * 2)).block < _; rw [xb]; exact hb)).trans q1
        have z4 : ∀ z : Later wr, z.val.cell? (x.add (k * 2)) = some (.int .i64 O.1) := fun z => (Below.cell z.ok (p := x.add (k * 2)) (by rw [xb]; exact hb)).trans q0
        have hne : Nonempty (Later wr) := ⟨⟨wr, Since.refl _⟩⟩
        clear q0 q1 a1 o0 o1 xb
        by_cases hl : O.2 ≤ (now + ticks)
        · rw [if_neg (by omega)] at hs hg
          replace hs : Hid _ := hs
          replace hg : Hid _ := hg
          refine wp_region_calm (wb := wr) (by kernel_rfl) (by kernel_rfl) (Since.refl _) ?_
          repeat (go_big_quiet_step (fail))
          refine wpQuiet_nil ?_
          rintro _ ⟨y, rfl⟩
          have q0 := z4 y
          have q1 := z3 y
          have hxb : x.block < y.val.heap.size := Nat.lt_of_lt_of_le hb y.ok.le
          replace V := V.since y.ok
          replace F := F.since y.ok
          replace Bo := Bo.since y.ok
          replace B := B.since y.ok
          replace A := A.since y.ok
          replace Sr := Sr.trans y.ok
          clear z1 z2 z3 z4 hne
          generalize y.val = wx at *
          have a1 := A.cell 1
          simp at a1
          have hY : Since wx (wx.alloc (.cells #[.int .i64 O.1] 3)) := (Since.refl _).alloc _
          have FY := F.since hY
          have RY := Rd.one (S := shI) wx O.1 3 wx.heap.size rfl
          have hFl2 := F.lt
          have hBl := B.lt
          have hFlo := F.low'
          go_wp2_with (at_builtin; refine app_own (v := .slice (some ⟨g, 0, none⟩) q c) laidI rfl _ _ rfl rfl FY rfl RY (by omega) (by unfold maxLen; omega) (by omega) (by simp; omega) _ rfl ?_; intro g' c' w5 T5 hg5 hat5)
          have hrow : ∀ b, (Value.slice (some ⟨g, 0, none⟩) q c).ownBlock = some b → g = b := fun b e => by simpa [Value.ownBlock] using e
          have V5 := (V.since hY).kept hg5 ((V.since hY).apart FY (by decide))
          have A5 := (A.since hY).grownG hg5 (fun e => by have := hrow _ e; omega)
          have B5 := (B.since hY).grownG hg5 (fun e => by have := hrow _ e; omega)
          have hgo : g' ≠ w2.heap.size := by
            have h1 := Bo.lt
            rcases hat5 with h | h
            · have := hrow _ h
              omega
            · simp at h
              omega
          have Bo5 := (Bo.since hY).grownG hg5 (fun e => by have := hrow _ e; omega)
          have S5 := since_grown (Sr.trans hY) hg5 (fun j e => by have := hrow _ e; omega)
          go_roundw
          case rel => exact ⟨k + 1, m, q + 1, g', c', v, hgo, by omega, by go_num, rfl, by rw [hg.out]; exact T5, by rw [hs.out]; exact V5, S5, A5, B5, Bo5⟩
          case measure => simp [intOf]; omega
        · rw [if_pos (by omega)] at hs hg
          replace hs : Hid _ := hs
          replace hg : Hid _ := hg
          refine wp_region_calm (wb := wr) (by kernel_rfl) (by kernel_rfl) (Since.refl _) ?_
          repeat (go_big_quiet_step (fail))
          refine wpQuiet_nil ?_
          rintro _ ⟨y, rfl⟩
          have p0 := z4 y
          have p1 := z3 y
          have hxb : x.block < y.val.heap.size := Nat.lt_of_lt_of_le hb y.ok.le
          replace V := V.since y.ok
          replace F := F.since y.ok
          replace Bo := Bo.since y.ok
          replace B := B.since y.ok
          replace A := A.since y.ok
          replace Sr := Sr.trans y.ok
          clear z1 z2 z3 z4 hne
          generalize y.val = wx at *
          go_wp2_with (fail)
          have D1 : Since wx wx.drew := (Since.refl _).drew
          have Vd := V.since D1
          have Bod := Bo.since D1
          have Ad := A.since D1
          have q0 : wx.drew.cell? (x.add (k * 2)) = some (.int .i64 O.1) := p0
          have q1 : wx.drew.cell? ⟨(x.add (k * 2)).block, (x.add (k * 2)).off + 1, none⟩ = some (.int .i64 O.2) := p1
          have s1 : wx.drew.cell? ⟨w2.heap.size, 1, none⟩ = some v := Bod.cell 1
          have s2 : wx.drew.cell? ⟨w.heap.size, 1, none⟩ = some (.slice (some x) n cap) := Ad.cell 1
          have hY : Since wx.drew (wx.drew.alloc (.cells #[.int .i64 O.1, .int .i64 O.2] 47)) := (Since.refl _).alloc _
          have VY := Vd.since hY
          have BoY := Bod.since hY
          have AY := Ad.since hY
          have FY := (F.since D1).since hY
          have BY := (B.since D1).since hY
          have SY := (Sr.trans D1).trans hY
          have s4 : (wx.alloc (.cells #[.int .i64 O.1, .int .i64 O.2] 47)).drew.cell? ⟨w2.heap.size, 1, none⟩ = some v := BoY.cell 1
          have RY := Rd.one (S := shT) wx.drew O 47 wx.heap.size rfl
          have hbo := Bo.lt
          have hBl := B.lt
          have hAl := A.lt
          clear Vd Bod Ad p0 p1
          go_region_law (refine step_app_own (v := v) laidT (by rfl) _ _ (by rfl) (by rfl) VY (by rfl) RY (by omega) (by unfold maxLen; omega) (by omega) (by simp; omega) _ rfl ?_; intro g' c' w5 T5 hg5 hat5; have Bo5 := BoY.grownG hg5 (fun e => by have := (VY.lt e).1; omega); have s5 : w5.cell? ⟨w2.heap.size, 1, none⟩ = some v := Bo5.cell 1; have f5 := Bo5.fz 1)
          all_goals
            have hlo5 := T5.low'
            have hgo : g ≠ w2.heap.size := hgow
            have T6 := T5.other (b := w2.heap.size) (by omega) 1 (.slice (some ⟨g', 0, none⟩) (m + 1) c')
            have B6 := (BY.grownG hg5 (fun e => by have := (VY.lt e).1; omega)).other (a := w2.heap.size) (by omega) 1 (.slice (some ⟨g', 0, none⟩) (m + 1) c')
            have A6 := (AY.grownG hg5 (fun e => by have := (VY.lt e).1; omega)).other (a := w2.heap.size) (by omega) 1 (.slice (some ⟨g', 0, none⟩) (m + 1) c')
            have F6 : Held shI _ _ g q c _ := Own.kept FY hg5 (Own.apart FY VY (by decide))
            replace F6 := F6.other (b := w2.heap.size) hgo 1 (.slice (some ⟨g', 0, none⟩) (m + 1) c')
            have Bo6 := Bo5.put 1 (.slice (some ⟨g', 0, none⟩) (m + 1) c') (by simp)
            have S6 := since_put1 (since_grown SY hg5 (fun j e => by have := (VY.lt e).1; omega)) (b := w2.heap.size) (by omega) 1 (.slice (some ⟨g', 0, none⟩) (m + 1) c')
            go_wp2
            go_roundw
            case rel => exact ⟨k + 1, m + 1, q, g, c, _, hgow, by omega, by go_num, rfl, by rw [hg.out]; exact F6, by rw [hs.out]; exact T6, S6, A6, B6, Bo6⟩
            case measure => simp [intOf]; omega
      · have hkn : k = n := by omega
        subst hkn
        rw [List.take_of_length_le (by omega)] at F V
        obtain ⟨av, cv, rfl, _, _⟩ := V.form
        have b0 := B.cell 0
        have b1 := B.cell 1
        have f0 := B.fz 0
        have f1 := B.fz 1
        simp at b0 b1
        have hBl := B.lt
        have hlo := F.low'
        go_wp2
        refine bodyPost_ret (v := .tuple #[.agg #[.int .i64 (now + ticks), .slice av m cv], .slice (some ⟨g, 0, none⟩) q c]) ?_ rfl ⟨.slice av m cv, m, g, q, c, by rw [hre.out], ?_, ?_, ?_⟩
        · simp [results, go_sem, b0, b1]
        · rw [hre.out]
          exact (((V.touch ((Touch.refl (w.heap.size + 1) wr).put 0 _) (fun e => by have := (V.lt e).1; omega)).touch ((Touch.refl (w.heap.size + 1) _).put 1 _) (fun e => by have := (V.lt e).1; omega))).raise (fun g' e => by have := (V.lt e).1; omega)
        · rw [hre.out]
          exact ((F.other (by omega) _ _).other (by omega) _ _).raise (by omega)
        · exact since_put1 (since_put1 Sr (by omega) _ _) (by omega) _ _
end Go.Proofs.Ytgdhdeadbmeejaa
