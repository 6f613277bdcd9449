/-
  The draw of a clock, and of a clock and ticks.
-/
import Derived.Test.YtgdhdeadbmeejaaDrawCop
import Derived.Test.YtgdhdeadbmeejaaTimSpecRun
namespace Go.Proofs.Ytgdhdeadbmeejaa
open Go.ChangeShapes Go.WideShapes Go.ChangeAt Go.RowKit Go.Deep
set_option linter.unusedVariables false

theorem run_few (os : List (Int × Int × Int)) : (runC os).2.1.length ≤ 100 := by
  unfold runC
  split
  · exact (runTo_runs os os.length (Nat.le_refl _)).ok.2.1
  · simp

/-- A clock under way. -/
structure CS (w0 w : World) (g : Nat) (a : Option Addr) (len cap : Nat) (zs : List Int) (kb : Nat) (now : Int) (av : Option Addr) (m cv : Nat) (ts : List (Int × Int)) (x : World) : Prop where
  cur : Cur w0 w g a len cap zs x
  ret : Blk w.heap.size x #[.int .i64 0, .slice none 0 0]
  here : Blk kb x #[.int .i64 now, .slice av m cv]
  row : Own shT x (w.heap.size + 1) (.slice av m cv) m ts
  apart : (Value.slice av m cv).ownBlock ≠ some kb
  early : g < w.heap.size
  late : w.heap.size < kb

section
variable {w0 w : World} {g : Nat} {a : Option Addr} {len cap : Nat} {zs : List Int} {kb : Nat} {now : Int} {av : Option Addr} {m cv : Nat} {ts : List (Int × Int)} {x y : World}

theorem CS.draw (h : CS w0 w g a len cap zs kb now av m cv ts x) (c : Cur w0 w g a len cap zs y) (t : Touch g x y) : CS w0 w g a len cap zs kb now av m cv ts y :=
  ⟨c, h.ret.touch t (by have := h.early; omega), h.here.touch t (by have := h.early; have := h.late; omega), h.row.touch t (fun e => by have := (h.row.lt e).1; have := h.early; omega), h.apart, h.early, h.late⟩

theorem CS.since (h : CS w0 w g a len cap zs kb now av m cv ts x) (k : Since x y) : CS w0 w g a len cap zs kb now av m cv ts y :=
  ⟨h.cur.moved (g' := g) k, h.ret.since k, h.here.since k, h.row.since k, h.apart, h.early, h.late⟩

theorem CS.now_ (h : CS w0 w g a len cap zs kb now av m cv ts x) (v : Int) : CS w0 w g a len cap zs kb v av m cv ts (x.setCell ⟨kb, 0, none⟩ (.int .i64 v)) := by
  have h1 := h.early
  have h2 := h.late
  have h3 := h.cur.low
  exact ⟨h.cur.putN (by omega) (by omega) (by omega) 0 _, h.ret.other (by omega) 0 _, h.here.put 0 _ (by simp), h.row.touch ((Touch.refl kb x).put 0 _) h.apart, h.apart, h1, h2⟩

theorem CS.list_ (h : CS w0 w g a len cap zs kb now av m cv ts x) {g' m' c' : Nat} {us : List (Int × Int)} (T : Held shT x (w.heap.size + 1) g' m' c' us) (hne : g' ≠ kb) : CS w0 w g a len cap zs kb now (some ⟨g', 0, none⟩) m' c' us (x.setCell ⟨kb, 1, none⟩ (.slice (some ⟨g', 0, none⟩) m' c')) := by
  have h1 := h.early
  have h2 := h.late
  have h3 := h.cur.low
  exact ⟨h.cur.putN (by omega) (by omega) (by omega) 1 _, h.ret.other (by omega) 1 _, h.here.put 1 _ (by simp), T.other hne 1 _, by simpa [Value.ownBlock] using hne, h1, h2⟩

theorem CS.grow (h : CS w0 w g a len cap zs kb now av m cv ts x) (hg : x.grownBy y (Value.slice av m cv).ownBlock) : Cur w0 w g a len cap zs y ∧ Blk w.heap.size y #[.int .i64 0, .slice none 0 0] ∧ Blk kb y #[.int .i64 now, .slice av m cv] := by
  have h1 := h.early
  have hb : ∀ q, (Value.slice av m cv).ownBlock = some q → w.heap.size + 1 ≤ q := fun q e => (h.row.lt e).1
  exact ⟨h.cur.grownN h1 hg (fun q e => by have := hb q e; omega), h.ret.grown hg (fun e => by have := hb _ e; omega), h.here.grown hg h.apart⟩

/-- Behind an append and its store. -/
theorem CS.stored (h : CS w0 w g a len cap zs kb now av m cv ts x) (hg : x.grownBy y (Value.slice av m cv).ownBlock) {g' c' : Nat} {us : List (Int × Int)} (T : Held shT y (w.heap.size + 1) g' (m + 1) c' us) (hat : (Value.slice av m cv).ownBlock = some g' ∨ g' = x.heap.size) : CS w0 w g a len cap zs kb now (some ⟨g', 0, none⟩) (m + 1) c' us (y.setCell ⟨kb, 1, none⟩ (.slice (some ⟨g', 0, none⟩) (m + 1) c')) := by
  obtain ⟨c1, r1, k1⟩ := h.grow hg
  have h1 := h.early
  have h2 := h.late
  have h3 := c1.low
  have hkl := h.here.lt
  have hne : g' ≠ kb := by
    rcases hat with e | e
    · exact fun e' => h.apart (by rw [e, e'])
    · omega
  exact ⟨c1.putN (by omega) (by omega) (by omega) 1 _, r1.other (by omega) 1 _, k1.put 1 _ (by simp), T.other hne 1 _, by simpa [Value.ownBlock] using hne, h1, h2⟩

theorem CS.done (h : CS w0 w g a len cap zs kb now av m cv ts x) : Own shT ((x.setCell ⟨w.heap.size, 0, none⟩ (.int .i64 now)).setCell ⟨w.heap.size, 1, none⟩ (.slice av m cv)) w.heap.size (.slice av m cv) m ts ∧ Cur w0 w g a len cap zs ((x.setCell ⟨w.heap.size, 0, none⟩ (.int .i64 now)).setCell ⟨w.heap.size, 1, none⟩ (.slice av m cv)) ∧ Blk w.heap.size ((x.setCell ⟨w.heap.size, 0, none⟩ (.int .i64 now)).setCell ⟨w.heap.size, 1, none⟩ (.slice av m cv)) #[.int .i64 now, .slice av m cv] := by
  have h1 := h.early
  have h3 := h.cur.low
  refine ⟨(h.row.touch (((Touch.refl w.heap.size x).put 0 _).put 1 _) (fun e => by have := (h.row.lt e).1; omega)).low (by omega), (h.cur.putN (by omega) (by omega) (by omega) 0 _).putN (by omega) (by omega) (by omega) 1 _, (h.ret.put 0 _ (by simp)).put 1 _ (by simp)⟩
end

set_option maxHeartbeats 4000000 in
set_option maxRecDepth 20000 in
theorem drawClk {w0 wb : World} {g : Nat} {a : Option Addr} {len cap : Nat} {zs : List Int} (w : World) (hc : Cur w0 wb g a len cap zs w) :
    Calls Try.prog 16 #[.pointer (some ⟨g, 0, none⟩), .slice a len cap] w fun e w' => ∃ (now : Int) (av : Option Addr) (n cv : Nat) (ts : List (Int × Int)), e = .returned (.agg #[.int .i64 now, .slice av n cv]) ∧ Own shT w' w.heap.size (.slice av n cv) n ts ∧ n ≤ 200 ∧ Cur w0 w g a len cap zs w' := by
  have he := hc.here
  have hlow := hc.low
  have hmost := hc.most
  have c0 := hc.rebase.alloc (.cells #[.int .i64 0, .slice none 0 0] 26)
  have R := Blk.new w #[.int .i64 0, .slice none 0 0] 26
  clear hc
  go_enter Try.func16, Try.ntmps16
  go_wp2_with (fail)
  refine (sizeB a len cap hmost 25 (by omega) (by omega) _).mono ?_
  rintro _ _ ⟨z, rfl, hz0, hz1, rfl⟩
  go_wp2_with (fail)
  refine (belowB z hz0 _ c0).mono ?_
  rintro _ w1 ⟨n0, rfl, hn0, hn1, c1, u1⟩
  replace R := R.touch u1 (by omega)
  clear c0 u1
  go_wp2_with (fail)
  refine (drawOps6 n0 hn0 (by omega) _ c1).mono ?_
  rintro _ w2 ⟨go, no, co, os, rfl, hno, T2, c2⟩
  replace R := R.touch c2.touch (by omega)
  replace c2 := Cur.since c1.touch c2
  have hR2 := R.lt
  clear c1
  go_wp2_with (fail)
  refine (specRun go no co _ os _ T2).mono ?_
  rintro _ w3 ⟨v3, m, gq3, q3, cq3, rfl, T3, Q3, k3⟩
  have hm : m ≤ 100 := by rw [← T3.1]; exact run_few os
  obtain ⟨av, cv, rfl, -, -⟩ := T3.form
  generalize (runC os).2.1 = ts at T3
  generalize (runC os).1 = now
  have hR3 := k3.le
  have K : CS w0 w g a len cap zs w3.heap.size now av m cv ts (w3.alloc (.cells #[.int .i64 now, .slice av m cv] 26)) := ⟨(c2.moved (g' := g) k3).alloc _, (R.since k3).since ((Since.refl _).alloc _), Blk.new w3 _ _, (T3.since ((Since.refl _).alloc _)).low (by omega), fun e => by have := (T3.lt e).2; omega, he, by omega⟩
  have hkb : w3.heap.size = w3.heap.size := rfl
  clear R c2 T2 T3 Q3 k3 hkb
  go_wp2_with (fail)
  refine (belowB 16 (by omega) _ K.cur).mono ?_
  rintro _ w5 ⟨s, rfl, hs0, hs1, c5, u5⟩
  replace K := K.draw c5 u5
  clear c5 u5
  by_cases h0 : s = 0
  · subst h0
    go_wp2_with (fail)
    refine (pickN w5.heap.size _ _ 3 [-1, 1000000000, 1000000001] rfl rfl (by omega) (by omega) w5 rfl K.cur).mono ?_
    rintro _ w6 ⟨q, rfl, _, c6, u6⟩
    replace K := K.draw c6 u6
    clear c6 u6
    have z0 := K.here.cell 0
    have z1 := K.here.fz 0
    simp at z0
    have K2 := K.now_ q
    clear K
    obtain ⟨T, C, B⟩ := K2.done
    have k0 := K2.here.cell 0
    have k1 := K2.here.cell 1
    have r0 := K2.ret.cell 0
    have r1 := K2.ret.cell 1
    have f0 := K2.ret.fz 0
    have f1 := K2.ret.fz 1
    have b0 := B.cell 0
    have b1 := B.cell 1
    simp at k0 k1 r0 r1 b0 b1
    clear K2
    go_wp2
    refine bodyPost_ret (v := .agg #[.int .i64 q, .slice av m cv]) ?_ rfl ⟨q, av, m, cv, ts, rfl, T, by omega, C⟩
    simp [results, go_sem, b0, b1]
  have e0 : (s == 0) = false := by simpa using h0
  by_cases h1 : s = 1
  · subst h1
    have ka := (Since.refl w5).alloc (.cells #[.int .i64 3, .int .i64 (wrap64 (now + 5))] 47)
    have Ka := K.since ka
    have Ra := Rd.one (S := shT) w5 (3, wrap64 (now + 5)) 47 w5.heap.size rfl
    have z0 := K.here.cell 0
    have z1 := K.here.cell 1
    simp at z0 z1
    have hRl := K.ret.lt
    go_wp2_with (at_builtin; refine app_own laidT rfl _ _ rfl rfl Ka.row rfl Ra (by omega) (by unfold maxLen; omega) (by omega) (by simp; omega) _ rfl ?_; intro gg cq w6 T6 hgrow hat; have G6 := Ka.grow hgrow; have y1 := G6.2.2.cell 1; have y2 := G6.2.2.fz 1; simp at y1; have K2 := Ka.stored hgrow T6 hat; obtain ⟨T, C, B⟩ := K2.done; have k0 := K2.here.cell 0; have k1 := K2.here.cell 1; have r0 := K2.ret.cell 0; have r1 := K2.ret.cell 1; have f0 := K2.ret.fz 0; have f1 := K2.ret.fz 1; have b0 := B.cell 0; have b1 := B.cell 1; simp at k0 k1 r0 r1 b0 b1)
    refine bodyPost_ret (v := .agg #[.int .i64 now, .slice (some ⟨gg, 0, none⟩) (m + 1) cq]) ?_ rfl ⟨now, some ⟨gg, 0, none⟩, m + 1, cq, _, rfl, T, by omega, C⟩
    simp [results, go_sem, b0, b1]
  have e1 : (s == 1) = false := by simpa using h1
  by_cases h2 : s = 2
  · subst h2
    have ka := (Since.refl w5).alloc (.cells #[] 47)
    have Ka := K.since ka
    have E : Held shT (w5.alloc (.cells #[] 47)) w5.heap.size w5.heap.size 0 0 [] := Held.empty (S := shT) w5
    have hkl := K.here.lt
    have hRl := K.ret.lt
    have z0 := Ka.here.cell 1
    have z1 := Ka.here.fz 1
    simp at z0
    have K1 := Ka.list_ (E.raise (B' := w.heap.size + 1) (by omega)) (by omega)
    rw [World.setCell_alloc_past _ _ _ _ hkl] at K1
    clear K Ka E ka
    go_wp2_with (fail)
    go_loopw [7] (fun i wr => ∃ (j gr cr : Nat) (us : List (Int × Int)), i = .int .i64 j ∧ j ≤ 101 ∧ CS w0 w g a len cap zs w3.heap.size now (some ⟨gr, 0, none⟩) j cr us wr) (fun i _ => 102 - (intOf i).toNat)
    case atStart => exact ⟨0, _, _, _, rfl, by omega, K1⟩
    case round =>
      clear K1
      obtain ⟨j, gr, cr, us, rfl, hj, K⟩ := hrel
      go_wp2_with (fail)
      refine (belowB 2 (by omega) _ K.cur).mono ?_
      rintro _ w6 ⟨d, rfl, hd0, hd1, c6, u6⟩
      replace K := K.draw c6 u6
      clear c6 u6
      have hwd : IntKind.i64.wrap (100 + d) = 100 + d := by rw [IntWalk.i64_left]; exact IntWalk.wrap64_in _ ⟨by omega, by omega⟩
      by_cases hlt : (j : Int) < 100 + d
      · have ka := (Since.refl w6).alloc (.cells #[.int .i64 (j : Int), .int .i64 (wrap64 (now + 1))] 47)
        have Ka := K.since ka
        have Ra := Rd.one (S := shT) w6 ((j : Int), wrap64 (now + 1)) 47 w6.heap.size rfl
        have z0 := K.here.cell 0
        have z1 := K.here.cell 1
        simp at z0 z1
        have hRl := K.ret.lt
        go_wp2_with (at_builtin; refine app_own laidT rfl _ _ rfl rfl Ka.row rfl Ra (by omega) (by unfold maxLen; omega) (by omega) (by simp; omega) _ rfl ?_; intro gg cq w7 T7 hgrow hat; have G7 := Ka.grow hgrow; have y1 := G7.2.2.cell 1; have y2 := G7.2.2.fz 1; simp at y1)
        have K2 := Ka.stored hgrow T7 hat
        clear K Ka Ra T7 hgrow hat G7
        go_wp2
        go_roundw
        case rel => exact ⟨j + 1, gg, cq, _, by go_num, by omega, K2⟩
        case measure => simp [intOf]; omega
      · obtain ⟨T, C, B⟩ := K.done
        have k0 := K.here.cell 0
        have k1 := K.here.cell 1
        have r0 := K.ret.cell 0
        have r1 := K.ret.cell 1
        have f0 := K.ret.fz 0
        have f1 := K.ret.fz 1
        have b0 := B.cell 0
        have b1 := B.cell 1
        simp at k0 k1 r0 r1 b0 b1
        clear K
        go_wp2
        refine bodyPost_ret (v := .agg #[.int .i64 now, .slice (some ⟨gr, 0, none⟩) j cr]) ?_ rfl ⟨now, some ⟨gr, 0, none⟩, j, cr, _, rfl, T, by omega, C⟩
        simp [results, go_sem, b0, b1]
  have e2 : (s == 2) = false := by simpa using h2
  obtain ⟨T, C, B⟩ := K.done
  have k0 := K.here.cell 0
  have k1 := K.here.cell 1
  have r0 := K.ret.cell 0
  have r1 := K.ret.cell 1
  have f0 := K.ret.fz 0
  have f1 := K.ret.fz 1
  have b0 := B.cell 0
  have b1 := B.cell 1
  simp at k0 k1 r0 r1 b0 b1
  clear K
  go_wp2
  refine bodyPost_ret (v := .agg #[.int .i64 now, .slice av m cv]) ?_ rfl ⟨now, av, m, cv, ts, rfl, T, by omega, C⟩
  simp [results, go_sem, b0, b1]
end Go.Proofs.Ytgdhdeadbmeejaa
