/-
  Contract of spec's ClockSet.
-/
import Derived.Test.YtgdhdeadbmeejaaTimSpec
namespace Go.Proofs.Ytgdhdeadbmeejaa
open Go.ChangeShapes Go.WideShapes Go.ChangeAt Go.RowKit Go.Deep Go.Sort Go.Maps
set_option linter.unusedVariables false

/-- t stands ahead of one of them. -/
def anyT (t : Int × Int) (l : List (Int × Int)) : Bool := l.any fun x => decide (aheadT t x)

/-- What spec's loop has put together. -/
def insTo (t : Int × Int) (l : List (Int × Int)) : List (Int × Int) := if anyT t l = true then insT t l else l

theorem insT_any {t : Int × Int} : ∀ {l m : List (Int × Int)}, anyT t l = true → insT t (l ++ m) = insT t l ++ m
  | [], m, h => by simp [anyT] at h
  | x :: r, m, h => by
    simp only [List.cons_append, insT]
    split
    · rfl
    · rename_i hx
      have h' : anyT t r = true := by simpa [anyT, hx] using h
      rw [insT_any h', List.cons_append]

theorem insT_none {t : Int × Int} : ∀ {l : List (Int × Int)} (m : List (Int × Int)), anyT t l = false → insT t (l ++ m) = l ++ insT t m
  | [], m, _ => rfl
  | x :: r, m, h => by
    have hx : ¬ aheadT t x := by
      intro hx
      simp [anyT, hx] at h
    have h' : anyT t r = false := by simpa [anyT, hx] using h
    simp only [List.cons_append, insT, if_neg hx, insT_none m h']

theorem anyT_snoc (t : Int × Int) (l : List (Int × Int)) (x : Int × Int) : anyT t (l ++ [x]) = (anyT t l || decide (aheadT t x)) := by simp [anyT]

theorem insTo_put {t x : Int × Int} {l : List (Int × Int)} (h : anyT t l = true) : insTo t (l ++ [x]) = insTo t l ++ [x] := by
  unfold insTo
  rw [if_pos (by rw [anyT_snoc, h]; rfl), if_pos h, insT_any h]

theorem insTo_here {t x : Int × Int} {l : List (Int × Int)} (h : anyT t l = false) (hx : aheadT t x) : insTo t (l ++ [x]) = insTo t l ++ [t] ++ [x] := by
  unfold insTo
  rw [if_pos (by rw [anyT_snoc]; simp [hx]), if_neg (by simp [h]), insT_none _ h]
  simp [insT, hx]

theorem insTo_not {t x : Int × Int} {l : List (Int × Int)} (h : anyT t l = false) (hx : ¬ aheadT t x) : insTo t (l ++ [x]) = insTo t l ++ [x] := by
  unfold insTo
  rw [if_neg (by rw [anyT_snoc]; simp [h, hx]), if_neg (by simp [h])]

theorem insTo_end {t : Int × Int} {l : List (Int × Int)} : insT t l = if anyT t l = true then insTo t l else insTo t l ++ [t] := by
  unfold insTo
  by_cases h : anyT t l = true
  · rw [if_pos h, if_pos h]
  · have h' : anyT t l = false := by simpa using h
    have := insT_none (t := t) [] h'
    rw [List.append_nil] at this
    rw [if_neg h, if_neg h, this]
    rfl

theorem insTo_len (t : Int × Int) (l : List (Int × Int)) : (insTo t l).length ≤ l.length + 1 := by
  unfold insTo
  split
  · rw [(insT_perm t l).length_eq]; simp
  · omega

theorem Blk.grown {b : Nat} {x x' : World} {cs : Array Value} {row : Option Nat} (k : Blk b x cs) (hg : x.grownBy x' row) (hne : row ≠ some b) : Blk b x' cs :=
  ⟨Nat.lt_of_lt_of_le k.lt hg.size, fun i => (hg.frozen_far ⟨b, i, none⟩ k.lt (fun e => hne e.symm)).trans (k.fz i), fun i => (hg.cell_far ⟨b, i, none⟩ k.lt (fun e => hne e.symm)).trans (k.cell i)⟩

theorem Held.grown {α : Type} {S : Shape α} {w w' : World} {B g n cap : Nat} {xs : List α} {row : Option Nat} (h : Held S w B g n cap xs) (hg : w.grownBy w' row) (hne : row ≠ some g) : Held S w' B g n cap xs := Own.kept h hg (.inr fun e => hne (by rw [← e]; rfl))

set_option maxHeartbeats 4000000 in
set_option maxRecDepth 20000 in
theorem specSet (now : Int) (a : Option Addr) (n cap : Nat) (ts : List (Int × Int)) (id wait : Int) (w : World) (R : Rd shT w a n ts) (hn : n ≤ 1048576) (hnil : a = none → cap = 0) :
    Calls Try.prog 44 #[.agg #[.int .i64 now, .slice a n cap], .int .i64 id, .int .i64 wait] w fun e w' => ∃ g m c, e = .returned (.tuple #[.agg #[.int .i64 now, .slice (some ⟨g, 0, none⟩) m c], .bool (setC now ts id wait).2]) ∧ Held shT w' w.heap.size g m c (setC now ts id wait).1 ∧ Since w w' := by
  obtain ⟨r, hr⟩ : ∃ r, Hid (r = setC now ts id wait) := ⟨_, rfl⟩
  rw [← hr.out]
  have hlen := R.len
  have G : Since w ((w.alloc (.cells #[.int .i64 now, .slice a n cap] 26)).alloc (.cells #[.int .i64 0, .slice none 0 0] 26)) := ((Since.refl _).alloc _).alloc _
  have A := (Blk.new w #[.int .i64 now, .slice a n cap] 26).since ((Since.refl _).alloc (.cells #[.int .i64 0, .slice none 0 0] 26))
  have B := Blk.new (w.alloc (.cells #[.int .i64 now, .slice a n cap] 26)) #[.int .i64 0, .slice none 0 0] 26
  simp only [World.size_alloc] at A B
  have hwo := specWithout a n cap ts id _ (R.since G) hn
  have hin := fun x a b wx => specIn x a b wx
  go_enter Try.func44, Try.ntmps44
  go_wp2_with (go_at_call 52; refine hwo.mono ?_; rintro _ w1 ⟨g1, m1, c1, rfl, T1, k1⟩; replace A := A.since k1; replace B := B.since k1; replace G := G.trans k1; have cA0 := A.cell 0; have cA1 := A.cell 1; simp at cA0 cA1)
  refine (specClockOk now a n cap ts _ (R.since G)).mono ?_
  rintro _ w2 ⟨rfl, k2⟩
  replace A := A.since k2
  replace B := B.since k2
  replace G := G.trans k2
  replace T1 := T1.since k2
  replace cA0 := A.cell 0
  replace cA1 := A.cell 1
  simp at cA0 cA1
  have hcp := fun wx (hx : Since w wx) => specCopy now a n cap ts wx (R.since hx) hn hnil
  have hlow := T1.low'
  simp at hlow
  have hBl := B.lt
  have hm1 := T1.1
  have hbad : (¬ (okC now ts ∧ (0 ≤ id ∧ id ≤ 1000000000) ∧ (1 ≤ wait ∧ wait ≤ 1000000000) ∧ now + wait ≤ 1000000000 ∧ m1 < 100)) → r = (ts, false) := fun h => hr.out.trans (by unfold setC; rw [hm1, if_neg h])
  replace hbad : Hid _ := hbad
  clear hwo
  by_cases hok : ¬ okC now ts
  · have hd : decide (okC now ts) = false := by simpa using hok
    have hre : Hid (r = (ts, false)) := hbad.out (fun h => hok h.1)
    rw [hd]
    go_wp2_with (first | (go_at_call 18; refine (hin _ _ _ _).mono ?_; rintro _ _ ⟨rfl, rfl⟩) | (go_at_call 24; refine (hcp _ G).mono ?_; rintro _ w3 ⟨g3, c3, rfl, T3, k3⟩; replace B := B.since k3; have b0 := B.cell 0; have b1 := B.cell 1; simp at b0 b1; have f0 := B.fz 0; have f1 := B.fz 1))
    have hlow3 := T3.low'
    refine bodyPost_ret (v := .tuple #[.agg #[.int .i64 now, .slice (some ⟨g3, 0, none⟩) n c3], .bool false]) ?_ rfl ⟨g3, n, c3, by rw [hre.out], ?_, ?_⟩
    · simp [results, go_sem, b0, b1]
    · rw [hre.out]
      exact ((T3.other (by omega) _ _).other (by omega) _ _).raise (by omega)
    · exact since_put1 (since_put1 (G.trans k3) (by omega) _ _) (by omega) _ _
  replace hok := Decidable.not_not.1 hok
  have hd : decide (okC now ts) = true := by simpa using hok
  rw [hd]
  have hnow := hok.1
  by_cases hid : ¬ (0 ≤ id ∧ id ≤ 1000000000)
  · have hidd : decide (0 ≤ id ∧ id ≤ 1000000000) = false := by simpa using hid
    have hre : Hid (r = (ts, false)) := hbad.out (fun h => hid h.2.1)
    skip
    go_wp2_with (first | (go_at_call 18; refine (hin _ _ _ _).mono ?_; rintro _ _ ⟨rfl, rfl⟩) | (go_at_call 24; refine (hcp _ G).mono ?_; rintro _ w3 ⟨g3, c3, rfl, T3, k3⟩; replace B := B.since k3; have b0 := B.cell 0; have b1 := B.cell 1; simp at b0 b1; have f0 := B.fz 0; have f1 := B.fz 1))
    have hlow3 := T3.low'
    refine bodyPost_ret (v := .tuple #[.agg #[.int .i64 now, .slice (some ⟨g3, 0, none⟩) n c3], .bool false]) ?_ rfl ⟨g3, n, c3, by rw [hre.out], ?_, ?_⟩
    · simp [results, go_sem, b0, b1]
    · rw [hre.out]
      exact ((T3.other (by omega) _ _).other (by omega) _ _).raise (by omega)
    · exact since_put1 (since_put1 (G.trans k3) (by omega) _ _) (by omega) _ _
  replace hid := Decidable.not_not.1 hid
  have hidd : decide (0 ≤ id ∧ id ≤ 1000000000) = true := by simpa using hid
  by_cases hwt : ¬ (1 ≤ wait ∧ wait ≤ 1000000000)
  · have hwtd : decide (1 ≤ wait ∧ wait ≤ 1000000000) = false := by simpa using hwt
    have hre : Hid (r = (ts, false)) := hbad.out (fun h => hwt h.2.2.1)
    skip
    go_wp2_with (first | (go_at_call 18; refine (hin _ _ _ _).mono ?_; rintro _ _ ⟨rfl, rfl⟩) | (go_at_call 24; refine (hcp _ G).mono ?_; rintro _ w3 ⟨g3, c3, rfl, T3, k3⟩; replace B := B.since k3; have b0 := B.cell 0; have b1 := B.cell 1; simp at b0 b1; have f0 := B.fz 0; have f1 := B.fz 1))
    have hlow3 := T3.low'
    refine bodyPost_ret (v := .tuple #[.agg #[.int .i64 now, .slice (some ⟨g3, 0, none⟩) n c3], .bool false]) ?_ rfl ⟨g3, n, c3, by rw [hre.out], ?_, ?_⟩
    · simp [results, go_sem, b0, b1]
    · rw [hre.out]
      exact ((T3.other (by omega) _ _).other (by omega) _ _).raise (by omega)
    · exact since_put1 (since_put1 (G.trans k3) (by omega) _ _) (by omega) _ _
  replace hwt := Decidable.not_not.1 hwt
  have hwtd : decide (1 ≤ wait ∧ wait ≤ 1000000000) = true := by simpa using hwt
  have hw1 : IntKind.i64.wrap (now + wait) = now + wait := by rw [IntWalk.i64_left]; exact IntWalk.wrap64_in _ ⟨by omega, by omega⟩
  by_cases hsum : ¬ now + wait ≤ 1000000000
  · have hsd : 1000000000 < now + wait := by omega
    have hre : Hid (r = (ts, false)) := hbad.out (fun h => hsum h.2.2.2.1)
    skip
    go_wp2_with (first | (go_at_call 18; refine (hin _ _ _ _).mono ?_; rintro _ _ ⟨rfl, rfl⟩) | (go_at_call 24; refine (hcp _ G).mono ?_; rintro _ w3 ⟨g3, c3, rfl, T3, k3⟩; replace B := B.since k3; have b0 := B.cell 0; have b1 := B.cell 1; simp at b0 b1; have f0 := B.fz 0; have f1 := B.fz 1))
    have hlow3 := T3.low'
    refine bodyPost_ret (v := .tuple #[.agg #[.int .i64 now, .slice (some ⟨g3, 0, none⟩) n c3], .bool false]) ?_ rfl ⟨g3, n, c3, by rw [hre.out], ?_, ?_⟩
    · simp [results, go_sem, b0, b1]
    · rw [hre.out]
      exact ((T3.other (by omega) _ _).other (by omega) _ _).raise (by omega)
    · exact since_put1 (since_put1 (G.trans k3) (by omega) _ _) (by omega) _ _
  replace hsum := Decidable.not_not.1 hsum
  have hsd : ¬ 1000000000 < now + wait := by omega
  by_cases hmm : ¬ m1 < 100
  · have hmd : (100 : Int) ≤ (m1 : Int) := by omega
    have hre : Hid (r = (ts, false)) := hbad.out (fun h => hmm h.2.2.2.2)
    skip
    go_wp2_with (first | (go_at_call 18; refine (hin _ _ _ _).mono ?_; rintro _ _ ⟨rfl, rfl⟩) | (go_at_call 24; refine (hcp _ G).mono ?_; rintro _ w3 ⟨g3, c3, rfl, T3, k3⟩; replace B := B.since k3; have b0 := B.cell 0; have b1 := B.cell 1; simp at b0 b1; have f0 := B.fz 0; have f1 := B.fz 1))
    have hlow3 := T3.low'
    refine bodyPost_ret (v := .tuple #[.agg #[.int .i64 now, .slice (some ⟨g3, 0, none⟩) n c3], .bool false]) ?_ rfl ⟨g3, n, c3, by rw [hre.out], ?_, ?_⟩
    · simp [results, go_sem, b0, b1]
    · rw [hre.out]
      exact ((T3.other (by omega) _ _).other (by omega) _ _).raise (by omega)
    · exact since_put1 (since_put1 (G.trans k3) (by omega) _ _) (by omega) _ _
  replace hmm := Decidable.not_not.1 hmm
  have hmd : ¬ (100 : Int) ≤ (m1 : Int) := by omega
  have hre : Hid (r = (insT (id, now + wait) (without ts id), true)) := hr.out.trans (by unfold setC; rw [hm1, if_pos ⟨hok, hid, hwt, hsum, hmm⟩])
  clear hbad hcp R
  have hg1 : g1 < w2.heap.size := T1.lt
  have kT : Since w2 (w2.alloc (.cells #[.int .i64 id, .int .i64 (now + wait)] 47)) := (Since.refl _).alloc _
  have kO : Since (w2.alloc (.cells #[.int .i64 id, .int .i64 (now + wait)] 47)) ((w2.alloc (.cells #[.int .i64 id, .int .i64 (now + wait)] 47)).alloc (.cells #[.int .i64 now, .slice none 0 0] 26)) := (Since.refl _).alloc _
  have cA2 : (w2.alloc (.cells #[.int .i64 id, .int .i64 (now + wait)] 47)).cell? ⟨w.heap.size, 0, none⟩ = some (.int .i64 now) := (A.since kT).cell 0
  have Bt := (Blk.new w2 #[.int .i64 id, .int .i64 (now + wait)] 47).since kO
  have Bo := Blk.new (w2.alloc (.cells #[.int .i64 id, .int .i64 (now + wait)] 47)) #[.int .i64 now, .slice none 0 0] 26
  simp only [World.size_alloc] at Bo
  replace B := (B.since kT).since kO
  replace T1 := (T1.since kT).since kO
  replace G := (G.trans kT).trans kO
  go_wp2_with (go_at_call 18; refine (hin _ _ _ _).mono ?_; rintro _ _ ⟨rfl, rfl⟩)
  generalize hZ : (w2.alloc (.cells #[.int .i64 id, .int .i64 (now + wait)] 47)).alloc (.cells #[.int .i64 now, .slice none 0 0] 26) = Z at B T1 G Bt Bo ⊢
  have hZs : Z.heap.size = w2.heap.size + 1 + 1 := by rw [← hZ]; simp
  clear hZ kT kO cA2 cA0 cA1 A hd hidd hwtd hin
  generalize hRS : without ts id = rs at T1 hre hm1
  clear hRS
  generalize hat : now + wait = at' at *
  have hTm : ∀ i, i < m1 → tAt rs i ∈ rs := fun i hi => tAt_mem (by omega)
  go_loopw [11, 12] (fun p i wr => ∃ (k m : Nat) (v : Value), k ≤ m1 ∧ i = .int .i64 k ∧ p = .bool (anyT (id, at') (rs.take k)) ∧ Own shT wr (w2.heap.size + 1 + 1) v m (insTo (id, at') (rs.take k)) ∧ Held shT wr w.heap.size g1 m1 c1 rs ∧ Since w wr ∧ Blk (w.heap.size + 1) wr #[.int .i64 0, .slice none 0 0] ∧ Blk w2.heap.size wr #[.int .i64 id, .int .i64 at'] ∧ Blk (w2.heap.size + 1) wr #[.int .i64 now, v]) (fun _ i _ => m1 - (intOf i).toNat)
  case atStart => exact ⟨0, 0, .slice none 0 0, by omega, rfl, by simp [anyT], by rw [List.take_zero]; exact Own.nil _ _, T1.raise (by omega), G, B, Bt, Bo⟩
  case round =>
    clear T1 G B Bt Bo
    obtain ⟨k, m, v, hk, rfl, rfl, V, T1, Sr, B, Bt, Bo⟩ := hrel
    have hmk : m ≤ k + 1 := by rw [← V.1]; exact Nat.le_trans (insTo_len _ _) (by rw [List.length_take]; omega)
    by_cases hlt : k < m1
    · have hlt' : (k : Int) < (m1 : Int) := by omega
      have hnx := take_nextT rs k (by omega)
      generalize hO : tAt rs k = O at hnx
      obtain ⟨pb, hpb⟩ : ∃ pb, Hid (anyT (id, at') (rs.take k) = pb) := ⟨_, rfl⟩
      rw [hpb.out]
      cases pb
      · by_cases hah : aheadT (id, at') O
        · have hfl : Hid (anyT (id, at') (rs.take (k + 1)) = true) := by unfold Hid; rw [hnx, anyT_snoc]; simp [hah]
          have hli : Hid (insTo (id, at') (rs.take (k + 1)) = insTo (id, at') (rs.take k) ++ [(id, at')] ++ [O]) := by unfold Hid; rw [hnx, insTo_here hpb.out hah]
          have hahd : decide (aheadT (id, at') O) = true := by simpa using hah
          replace hnx : Hid _ := hnx
          replace hah : Hid _ := hah
          have t0 : ∀ z : Later wr, z.val.cell? ⟨w2.heap.size, 0, none⟩ = some (.int .i64 id) := fun z => (Bt.since z.ok).cell 0
          have t1 : ∀ z : Later wr, z.val.cell? ⟨w2.heap.size, 1, none⟩ = some (.int .i64 at') := fun z => (Bt.since z.ok).cell 1
          have r0 : ∀ z : Later wr, z.val.cell? ⟨g1, k * 2, none⟩ = some (.int .i64 O.1) := fun z => by rw [← hO]; exact ((T1.since z.ok).tim k hlt).1
          have r1 : ∀ z : Later wr, z.val.cell? ⟨g1, k * 2 + 1, none⟩ = some (.int .i64 O.2) := fun z => by rw [← hO]; exact ((T1.since z.ok).tim k hlt).2
          have hahz : ∀ z : Later wr, Calls Try.prog 19 #[.agg #[.int .i64 id, .int .i64 at'], .agg #[.int .i64 O.1, .int .i64 O.2]] z.val fun e w'' => e = .returned (.bool (decide (aheadT (id, at') O))) ∧ ∃ y : Later wr, w'' = y.val := fun z => calm_call (aheadTims (id, at') O z.val)
          rw [hahd] at hahz
          clear hahd
          go_wp2_with (fail)
          have hne : Nonempty (Later wr) := ⟨⟨wr, Since.refl _⟩⟩
          refine wp_region_calm (wb := wr) (by kernel_rfl) (by kernel_rfl) (Since.refl _) ?_
          repeat (go_big_quiet_step (exact hahz _))
          refine wpQuiet_nil ?_
          rintro _ ⟨y, rfl⟩
          replace V := V.since y.ok
          replace T1 := T1.since y.ok
          replace Bo := Bo.since y.ok
          replace B := B.since y.ok
          replace Bt := Bt.since y.ok
          replace Sr := Sr.trans y.ok
          clear t0 t1 r0 r1 hahz hne
          generalize y.val = wx at *
          have hYt : Since wx (wx.alloc (.cells #[.int .i64 id, .int .i64 at'] 47)) := (Since.refl _).alloc _
          have Vt := V.since hYt
          have Rt := Rd.one (S := shT) wx (id, at') 47 wx.heap.size rfl
          have Bot := Bo.since hYt
          have z0 := Bo.cell 1
          have z1 := Bt.cell 0
          have z2 := Bt.cell 1
          simp at z0 z1 z2
          have hbo0 := Bo.lt
          go_wp2_with (at_builtin; refine app_own (v := v) laidT rfl _ _ rfl rfl Vt rfl Rt (by omega) (by unfold maxLen; omega) (by omega) (by simp; omega) _ rfl ?_; intro g2 c2 w3 T3 hg3 hat3; have Bo3 := Bot.grown hg3 (fun e => by have := (Vt.lt e).1; omega); have y5 : w3.cell? ⟨w2.heap.size + 1, 1, none⟩ = some v := Bo3.cell 1; have y6 := Bo3.fz 1)
          have hlo3 := T3.low'
          have V3 := T3.other (b := w2.heap.size + 1) (by omega) 1 (.slice (some ⟨g2, 0, none⟩) (m + 1) c2)
          replace B := ((B.since hYt).grown hg3 (fun e => by have := (Vt.lt e).1; omega)).other (a := w2.heap.size + 1) (by have := B.lt; omega) 1 (.slice (some ⟨g2, 0, none⟩) (m + 1) c2)
          replace Bt := ((Bt.since hYt).grown hg3 (fun e => by have := (Vt.lt e).1; omega)).other (a := w2.heap.size + 1) (by omega) 1 (.slice (some ⟨g2, 0, none⟩) (m + 1) c2)
          replace T1 := ((T1.since hYt).grown hg3 (fun e => by have := (Vt.lt e).1; omega)).other (b := w2.heap.size + 1) (by omega) 1 (.slice (some ⟨g2, 0, none⟩) (m + 1) c2)
          replace Sr := since_put1 (since_grown (Sr.trans hYt) hg3 (fun j e => by have := (Vt.lt e).1; omega)) (b := w2.heap.size + 1) (by omega) 1 (.slice (some ⟨g2, 0, none⟩) (m + 1) c2)
          replace Bo := Bo3.put 1 (.slice (some ⟨g2, 0, none⟩) (m + 1) c2) (by simp)
          replace V : Own shT _ _ _ _ _ := V3
          clear V3 Bo3 T3 y5 y6 hg3 hat3 Vt Rt Bot hYt z0 z1 z2
          generalize w3.setCell ⟨w2.heap.size + 1, 1, none⟩ (.slice (some ⟨g2, 0, none⟩) (m + 1) c2) = wx at *
          have D1 : Since wx wx.drew := (Since.refl _).drew
          have Vd := V.since D1
          have Td := T1.since D1
          have Bod := Bo.since D1
          have s1 : wx.drew.cell? ⟨w2.heap.size + 1, 1, none⟩ = some (.slice (some ⟨g2, 0, none⟩) (m + 1) c2) := Bod.cell 1
          obtain ⟨q0, q1⟩ := Td.tim k hlt
          rw [hO] at q0 q1
          have hY : Since wx.drew (wx.drew.alloc (.cells #[.int .i64 O.1, .int .i64 O.2] 47)) := (Since.refl _).alloc _
          have VY := Vd.since hY
          have BoY := Bod.since hY
          have TY := Td.since hY
          have BY := (B.since D1).since hY
          have BtY := (Bt.since D1).since hY
          have SY := (Sr.trans D1).trans hY
          have s4 : (wx.alloc (.cells #[.int .i64 O.1, .int .i64 O.2] 47)).drew.cell? ⟨w2.heap.size + 1, 1, none⟩ = some (.slice (some ⟨g2, 0, none⟩) (m + 1) c2) := BoY.cell 1
          have RY := Rd.one (S := shT) wx.drew O 47 wx.heap.size rfl
          have hbo := Bo.lt
          clear Vd Td Bod
          go_region_law (refine step_app_own (v := .slice (some ⟨g2, 0, none⟩) (m + 1) c2) laidT (by rfl) _ _ (by rfl) (by rfl) VY (by rfl) RY (by omega) (by unfold maxLen; omega) (by omega) (by simp; omega) _ rfl ?_; intro g' c' w5 T5 hg5 hat5; have Bo5 := BoY.grown hg5 (fun e => by have := (VY.lt e).1; omega); have s5 : w5.cell? ⟨w2.heap.size + 1, 1, none⟩ = some (.slice (some ⟨g2, 0, none⟩) (m + 1) c2) := Bo5.cell 1; have f5 := Bo5.fz 1)
          all_goals
            have hlo5 := T5.low'
            have T6 := T5.other (b := w2.heap.size + 1) (by omega) 1 (.slice (some ⟨g', 0, none⟩) (m + 1 + 1) c')
            have B6 := (BY.grown hg5 (fun e => by have := (VY.lt e).1; omega)).other (a := w2.heap.size + 1) (by omega) 1 (.slice (some ⟨g', 0, none⟩) (m + 1 + 1) c')
            have Bt6 := (BtY.grown hg5 (fun e => by have := (VY.lt e).1; omega)).other (a := w2.heap.size + 1) (by omega) 1 (.slice (some ⟨g', 0, none⟩) (m + 1 + 1) c')
            have R6 := (TY.grown hg5 (fun e => by have := (VY.lt e).1; omega)).other (b := w2.heap.size + 1) (by omega) 1 (.slice (some ⟨g', 0, none⟩) (m + 1 + 1) c')
            have Bo6 := Bo5.put 1 (.slice (some ⟨g', 0, none⟩) (m + 1 + 1) c') (by simp)
            have S6 := since_put1 (since_grown SY hg5 (fun j e => by have := (VY.lt e).1; omega)) (b := w2.heap.size + 1) (by omega) 1 (.slice (some ⟨g', 0, none⟩) (m + 1 + 1) c')
            go_wp2
            go_roundw
            case rel => exact ⟨k + 1, m + 1 + 1, _, by omega, by go_num, by rw [hfl.out], by rw [hli.out]; exact T6, R6, S6, B6, Bt6, Bo6⟩
            case measure => simp [intOf]; omega
        · have hfl : Hid (anyT (id, at') (rs.take (k + 1)) = false) := by unfold Hid; rw [hnx, anyT_snoc, hpb.out]; simp [hah]
          have hli : Hid (insTo (id, at') (rs.take (k + 1)) = insTo (id, at') (rs.take k) ++ [O]) := by unfold Hid; rw [hnx, insTo_not hpb.out hah]
          have hahd : decide (aheadT (id, at') O) = false := by simpa using hah
          replace hnx : Hid _ := hnx
          replace hah : Hid _ := hah
          have t0 : ∀ z : Later wr, z.val.cell? ⟨w2.heap.size, 0, none⟩ = some (.int .i64 id) := fun z => (Bt.since z.ok).cell 0
          have t1 : ∀ z : Later wr, z.val.cell? ⟨w2.heap.size, 1, none⟩ = some (.int .i64 at') := fun z => (Bt.since z.ok).cell 1
          have r0 : ∀ z : Later wr, z.val.cell? ⟨g1, k * 2, none⟩ = some (.int .i64 O.1) := fun z => by rw [← hO]; exact ((T1.since z.ok).tim k hlt).1
          have r1 : ∀ z : Later wr, z.val.cell? ⟨g1, k * 2 + 1, none⟩ = some (.int .i64 O.2) := fun z => by rw [← hO]; exact ((T1.since z.ok).tim k hlt).2
          have hahz : ∀ z : Later wr, Calls Try.prog 19 #[.agg #[.int .i64 id, .int .i64 at'], .agg #[.int .i64 O.1, .int .i64 O.2]] z.val fun e w'' => e = .returned (.bool (decide (aheadT (id, at') O))) ∧ ∃ y : Later wr, w'' = y.val := fun z => calm_call (aheadTims (id, at') O z.val)
          rw [hahd] at hahz
          clear hahd
          go_wp2_with (fail)
          have hne : Nonempty (Later wr) := ⟨⟨wr, Since.refl _⟩⟩
          refine wp_region_calm (wb := wr) (by kernel_rfl) (by kernel_rfl) (Since.refl _) ?_
          repeat (go_big_quiet_step (exact hahz _))
          refine wpQuiet_nil ?_
          rintro _ ⟨y, rfl⟩
          replace V := V.since y.ok
          replace T1 := T1.since y.ok
          replace Bo := Bo.since y.ok
          replace B := B.since y.ok
          replace Bt := Bt.since y.ok
          replace Sr := Sr.trans y.ok
          clear t0 t1 r0 r1 hahz hne
          generalize y.val = wx at *
          go_wp2_with (fail)
          have D1 : Since wx wx.drew := (Since.refl _).drew
          have Vd := V.since D1
          have Td := T1.since D1
          have Bod := Bo.since D1
          have s1 : wx.drew.cell? ⟨w2.heap.size + 1, 1, none⟩ = some (v) := Bod.cell 1
          obtain ⟨q0, q1⟩ := Td.tim k hlt
          rw [hO] at q0 q1
          have hY : Since wx.drew (wx.drew.alloc (.cells #[.int .i64 O.1, .int .i64 O.2] 47)) := (Since.refl _).alloc _
          have VY := Vd.since hY
          have BoY := Bod.since hY
          have TY := Td.since hY
          have BY := (B.since D1).since hY
          have BtY := (Bt.since D1).since hY
          have SY := (Sr.trans D1).trans hY
          have s4 : (wx.alloc (.cells #[.int .i64 O.1, .int .i64 O.2] 47)).drew.cell? ⟨w2.heap.size + 1, 1, none⟩ = some (v) := BoY.cell 1
          have RY := Rd.one (S := shT) wx.drew O 47 wx.heap.size rfl
          have hbo := Bo.lt
          clear Vd Td Bod
          go_region_law (refine step_app_own (v := v) laidT (by rfl) _ _ (by rfl) (by rfl) VY (by rfl) RY (by omega) (by unfold maxLen; omega) (by omega) (by simp; omega) _ rfl ?_; intro g' c' w5 T5 hg5 hat5; have Bo5 := BoY.grown hg5 (fun e => by have := (VY.lt e).1; omega); have s5 : w5.cell? ⟨w2.heap.size + 1, 1, none⟩ = some (v) := Bo5.cell 1; have f5 := Bo5.fz 1)
          all_goals
            have hlo5 := T5.low'
            have T6 := T5.other (b := w2.heap.size + 1) (by omega) 1 (.slice (some ⟨g', 0, none⟩) (m + 1) c')
            have B6 := (BY.grown hg5 (fun e => by have := (VY.lt e).1; omega)).other (a := w2.heap.size + 1) (by omega) 1 (.slice (some ⟨g', 0, none⟩) (m + 1) c')
            have Bt6 := (BtY.grown hg5 (fun e => by have := (VY.lt e).1; omega)).other (a := w2.heap.size + 1) (by omega) 1 (.slice (some ⟨g', 0, none⟩) (m + 1) c')
            have R6 := (TY.grown hg5 (fun e => by have := (VY.lt e).1; omega)).other (b := w2.heap.size + 1) (by omega) 1 (.slice (some ⟨g', 0, none⟩) (m + 1) c')
            have Bo6 := Bo5.put 1 (.slice (some ⟨g', 0, none⟩) (m + 1) c') (by simp)
            have S6 := since_put1 (since_grown SY hg5 (fun j e => by have := (VY.lt e).1; omega)) (b := w2.heap.size + 1) (by omega) 1 (.slice (some ⟨g', 0, none⟩) (m + 1) c')
            go_wp2
            go_roundw
            case rel => exact ⟨k + 1, m + 1, _, by omega, by go_num, by rw [hfl.out], by rw [hli.out]; exact T6, R6, S6, B6, Bt6, Bo6⟩
            case measure => simp [intOf]; omega
      · have hfl : Hid (anyT (id, at') (rs.take (k + 1)) = true) := by unfold Hid; rw [hnx, anyT_snoc, hpb.out]; rfl
        have hli : Hid (insTo (id, at') (rs.take (k + 1)) = insTo (id, at') (rs.take k) ++ [O]) := by unfold Hid; rw [hnx, insTo_put hpb.out]
        replace hnx : Hid _ := hnx
        go_wp2_with (fail)
        have hne : Nonempty (Later wr) := ⟨⟨wr, Since.refl _⟩⟩
        refine wp_region_calm (wb := wr) (by kernel_rfl) (by kernel_rfl) (Since.refl _) ?_
        repeat (go_big_quiet_step (fail))
        refine wpQuiet_nil ?_
        rintro _ ⟨y, rfl⟩
        replace V := V.since y.ok
        replace T1 := T1.since y.ok
        replace Bo := Bo.since y.ok
        replace B := B.since y.ok
        replace Bt := Bt.since y.ok
        replace Sr := Sr.trans y.ok
        clear hne
        generalize y.val = wx at *
        go_wp2_with (fail)
        have D1 : Since wx wx.drew := (Since.refl _).drew
        have Vd := V.since D1
        have Td := T1.since D1
        have Bod := Bo.since D1
        have s1 : wx.drew.cell? ⟨w2.heap.size + 1, 1, none⟩ = some (v) := Bod.cell 1
        obtain ⟨q0, q1⟩ := Td.tim k hlt
        rw [hO] at q0 q1
        have hY : Since wx.drew (wx.drew.alloc (.cells #[.int .i64 O.1, .int .i64 O.2] 47)) := (Since.refl _).alloc _
        have VY := Vd.since hY
        have BoY := Bod.since hY
        have TY := Td.since hY
        have BY := (B.since D1).since hY
        have BtY := (Bt.since D1).since hY
        have SY := (Sr.trans D1).trans hY
        have s4 : (wx.alloc (.cells #[.int .i64 O.1, .int .i64 O.2] 47)).drew.cell? ⟨w2.heap.size + 1, 1, none⟩ = some (v) := BoY.cell 1
        have RY := Rd.one (S := shT) wx.drew O 47 wx.heap.size rfl
        have hbo := Bo.lt
        clear Vd Td Bod
        go_region_law (refine step_app_own (v := v) laidT (by rfl) _ _ (by rfl) (by rfl) VY (by rfl) RY (by omega) (by unfold maxLen; omega) (by omega) (by simp; omega) _ rfl ?_; intro g' c' w5 T5 hg5 hat5; have Bo5 := BoY.grown hg5 (fun e => by have := (VY.lt e).1; omega); have s5 : w5.cell? ⟨w2.heap.size + 1, 1, none⟩ = some (v) := Bo5.cell 1; have f5 := Bo5.fz 1)
        all_goals
          have hlo5 := T5.low'
          have T6 := T5.other (b := w2.heap.size + 1) (by omega) 1 (.slice (some ⟨g', 0, none⟩) (m + 1) c')
          have B6 := (BY.grown hg5 (fun e => by have := (VY.lt e).1; omega)).other (a := w2.heap.size + 1) (by omega) 1 (.slice (some ⟨g', 0, none⟩) (m + 1) c')
          have Bt6 := (BtY.grown hg5 (fun e => by have := (VY.lt e).1; omega)).other (a := w2.heap.size + 1) (by omega) 1 (.slice (some ⟨g', 0, none⟩) (m + 1) c')
          have R6 := (TY.grown hg5 (fun e => by have := (VY.lt e).1; omega)).other (b := w2.heap.size + 1) (by omega) 1 (.slice (some ⟨g', 0, none⟩) (m + 1) c')
          have Bo6 := Bo5.put 1 (.slice (some ⟨g', 0, none⟩) (m + 1) c') (by simp)
          have S6 := since_put1 (since_grown SY hg5 (fun j e => by have := (VY.lt e).1; omega)) (b := w2.heap.size + 1) (by omega) 1 (.slice (some ⟨g', 0, none⟩) (m + 1) c')
          go_wp2
          go_roundw
          case rel => exact ⟨k + 1, m + 1, _, by omega, by go_num, by rw [hfl.out], by rw [hli.out]; exact T6, R6, S6, B6, Bt6, Bo6⟩
          case measure => simp [intOf]; omega
    · have hkm : k = m1 := by omega
      subst hkm
      rw [List.take_of_length_le (by omega)] at V ⊢
      have hend := insTo_end (t := (id, at')) (l := rs)
      obtain ⟨pb, hpb⟩ : ∃ pb, Hid (anyT (id, at') rs = pb) := ⟨_, rfl⟩
      rw [hpb.out] at hend ⊢
      have hBl2 := B.lt
      have b0 := B.cell 0
      have b1 := B.cell 1
      have f0 := B.fz 0
      have f1 := B.fz 1
      have z0 := Bo.cell 0
      have z1 := Bo.cell 1
      simp at b0 b1 z0 z1
      have hbo0 := Bo.lt
      cases pb
      · rw [if_neg (by simp)] at hend
        replace hend : Hid _ := hend
        have t0 := Bt.cell 0
        have t1 := Bt.cell 1
        simp at t0 t1
        have hYt : Since wr (wr.alloc (.cells #[.int .i64 id, .int .i64 at'] 47)) := (Since.refl _).alloc _
        have Vt := V.since hYt
        have Rt := Rd.one (S := shT) wr (id, at') 47 wr.heap.size rfl
        have Bot := Bo.since hYt
        have Bb := B.since hYt
        go_wp2_with (at_builtin; refine app_own (v := v) laidT rfl _ _ rfl rfl Vt rfl Rt (by omega) (by unfold maxLen; omega) (by omega) (by simp; omega) _ rfl ?_; intro g2 c2 w3 T3 hg3 hat3; have Bo3 := Bot.grown hg3 (fun e => by have := (Vt.lt e).1; omega); have y5 : w3.cell? ⟨w2.heap.size + 1, 1, none⟩ = some v := Bo3.cell 1; have y6 := Bo3.fz 1; have y7 : w3.cell? ⟨w2.heap.size + 1, 0, none⟩ = some (.int .i64 now) := Bo3.cell 0; have B3 := Bb.grown hg3 (fun e => by have := (Vt.lt e).1; omega); have e0 := B3.cell 0; have e1 := B3.cell 1; simp at e0 e1; have e2 := B3.fz 0; have e3 := B3.fz 1; have hne1 : ¬ w2.heap.size + 1 = w.heap.size + 1 := by omega)
        have hlo3 := T3.low'
        refine bodyPost_ret (v := .tuple #[.agg #[.int .i64 now, .slice (some ⟨g2, 0, none⟩) (m + 1) c2], .bool true]) ?_ rfl ⟨g2, m + 1, c2, by rw [hre.out], ?_, ?_⟩
        · simp [results, go_sem, e0, e1]
        · rw [hre.out, hend.out]
          exact (((T3.other (by omega) _ _).other (by omega) _ _).other (by omega) _ _).raise (by omega)
        · exact since_put1 (since_put1 (since_put1 (since_grown (Sr.trans hYt) hg3 (fun j e => by have := (Vt.lt e).1; omega)) (by omega) _ _) (by omega) _ _) (by omega) _ _
      · rw [if_pos rfl] at hend
        replace hend : Hid _ := hend
        have hv : v ≠ .slice none 0 0 := fun e => by
          subst e
          have h0 := (V.cases).elim (fun h => h.2.2) (fun ⟨g, c, h, _⟩ => by simp at h)
          have h1 := hend.out
          rw [h0] at h1
          have h2 := (insT_perm (id, at') rs).length_eq
          rw [h1] at h2
          simp at h2
        obtain ⟨g2, c2, rfl⟩ := V.mk_held hv
        have hlo3 := (V.lt (g := g2) rfl).1
        go_wp2
        refine bodyPost_ret (v := .tuple #[.agg #[.int .i64 now, .slice (some ⟨g2, 0, none⟩) m c2], .bool true]) ?_ rfl ⟨g2, m, c2, by rw [hre.out], ?_, ?_⟩
        · simp [results, go_sem, b0, b1]
        · rw [hre.out, hend.out]
          have V' : Held shT wr _ g2 m c2 _ := V
          exact ((V'.other (by omega) _ _).other (by omega) _ _).raise (by omega)
        · exact since_put1 (since_put1 Sr (by omega) _ _) (by omega) _ _
end Go.Proofs.Ytgdhdeadbmeejaa
