/-
  Contract of the wheels' pass.
-/
import Derived.Test.YtgdhdeadbmeejaaPassPure
namespace Go.Proofs.Ytgdhdeadbmeejaa
open Go.ChangeShapes Go.WideShapes Go.ChangeAt Go.RowKit Go.Deep Go.Sort Go.Maps
set_option linter.unusedVariables false

section
variable {α : Type} {S : Shape α}

theorem setRow_self {w : World} {g : Nat} {cur : Array Value} {t : TypeId} {fr : Nat × Nat} (h : w.heap[g]? = some (.cells cur t fr)) : w.setRow g cur = w := by
  have hh : (w.setRow g cur).heap = w.heap := by
    apply Array.ext_getElem?
    intro i
    by_cases hi : i = g
    · subst hi
      rw [setRow_heap w i cur cur _ _ h, h]
    · exact setRow_other w g i cur hi
  show { w with heap := (w.setRow g cur).heap } = w
  rw [hh]

/-- append of a list, an empty one too. -/
theorem run_append_held {sl bytes : Nat} (L : Laid S sl bytes) (ty : TypeId) (w : World) {B g n cap : Nat} {xs : List α} (T : Held S w B g n cap xs) {ad : Addr} {m c : Nat} {ys : List α} (R : Rd S w (some ad) m ys) (hmax : n + m ≤ maxLen) (hby : (n + m) * bytes ≤ 140737488355328) (hB : B ≤ w.heap.size) :
    ∃ g' cap' w', (Builtin.append_ #[sl, sl] ty #[.slice (some ⟨g, 0, none⟩) n cap, .slice (some ad) m c]).run Try.prog w = .ok (.slice (some ⟨g', 0, none⟩) (n + m) cap') w' ∧ Held S w' B g' (n + m) cap' (xs ++ ys) ∧ Touch g w w' ∧ (g' = g ∨ g' = w.heap.size) := by
  obtain ⟨hu, ii, z, hi, hz0, hz1, hz2, hzs⟩ := L
  by_cases hm : m = 0
  · subst hm
    have hy : ys = [] := List.eq_nil_of_length_eq_zero R.len
    subst hy
    obtain ⟨cur, h3, h6, h4, h5, h7⟩ := T.heap
    have hr2 := run_append_room (P := Try.prog) w sl ty S.ty ii hu hi g n cap cur h3 ad 0 c [] (by simp) (fun j v hj => by simp at hj) (fun u hu => by cases hu) (by omega) (by rw [h6, hz1]; simpa using Nat.mul_le_mul_right S.k h4)
    refine ⟨g, cap, w, ?_, by simpa using T, Touch.refl _ _, .inl rfl⟩
    rw [hr2]
    have e : (List.take (n * ii.size) cur.toList ++ [] ++ List.drop (n * ii.size + ([] : List Value).length) cur.toList).toArray = cur := by
      apply Array.toList_inj.1
      simp
    rw [e, setRow_self h3]
  · obtain ⟨g', cap', w', hr, hown, hgrow, hat, hlt⟩ := run_append_lies (P := Try.prog) w sl ty B S.ty ii z S.k bytes hu hi hz0 hz1 hz2 hzs S.pos _ n _ T.2 ad m c (S.cells ys) (by rw [S.cells_len, R.len]) R.flat (S.cells_one ys) (by omega) hmax hby hB _ rfl
    refine ⟨g', cap', w', hr, ⟨by rw [List.length_append, T.1, R.len], by rw [S.cells_append]; exact hown⟩, touch_grown (g := g) hgrow, ?_⟩
    rcases hat with h | h
    · exact .inl (by simpa [Value.ownBlock] using h.symm)
    · exact .inr h

theorem app_held {sl bytes : Nat} (L : Laid S sl bytes) {ops : Array Oper} {rest : List Oper} {o : Oper} {a : Act} {Q : Exit → Act → World → Prop} {w : World} {B g n cap : Nat} {xs : List α} {ad : Addr} {m c : Nat} {ys : List α} (hgd : o.guard = none) (s x : Operand)
    (ho : o.op = .call { callee := .builtin .append, args := #[s, x], argTypes := #[sl, sl] }) (hs : a.eval s = .slice (some ⟨g, 0, none⟩) n cap) (T : Held S w B g n cap xs) (hx : a.eval x = .slice (some ad) m c) (R : Rd S w (some ad) m ys) (hmax : n + m ≤ maxLen) (hby : (n + m) * bytes ≤ 140737488355328) (hB : B ≤ w.heap.size)
    (k : ∀ g' cap' w', Held S w' B g' (n + m) cap' (xs ++ ys) → Touch g w w' → (g' = g ∨ g' = w.heap.size) → wpList Try.prog ops Q rest (a.put o.dst (.slice (some ⟨g', 0, none⟩) (n + m) cap')) w') :
    wpList Try.prog ops Q (o :: rest) a w := by
  refine wpList_plain hgd fun K hK' => ?_
  obtain ⟨g', cap', w', hrun, T', t', hat⟩ := run_append_held L o.type w T (c := c) R hmax hby hB
  unfold Oper.wp
  simp [execOp, ho, resolve, invoke, builtin, hs, hx, hrun, Result.andThen]
  exact hK' _ _ (k g' cap' w' T' t' hat)
end

theorem gone_len (ts : List (Int × Int)) (e : Int) : (gone ts e).length ≤ ts.length := by
  unfold gone
  rw [List.length_map]
  exact List.length_filter_le _ _

theorem idsAt_len (ts : List (Int × Int)) (e : Int) : (idsAt ts e).length ≤ ts.length := by
  unfold idsAt
  rw [List.length_map]
  exact List.length_filter_le _ _

theorem Sane.clear {rows : Nat → List (Int × Int)} (h : Sane rows) (j : Nat) : Sane (upd rows j []) := by
  intro i hi t ht
  by_cases e : i = j
  · subst e
    rw [upd_same] at ht
    cases ht
  · rw [upd_other _ _ e] at ht
    exact h i hi t ht

theorem total_clear (rows : Nat → List (Int × Int)) (j : Nat) (hj : j < 64) : total (upd rows j []) ≤ total rows := by
  have := totalTo_upd rows j [] 64
  rw [if_pos hj, if_pos hj] at this
  unfold total
  simp at this
  omega

/-- A list of numbers lies apart from the wheels. -/
theorem Wheels.apartI {w : World} {B b bm B' g n cap : Nat} {now : Int} {vs : Nat → Value} {rows : Nat → List (Int × Int)} {ts : List (Int × Int)} {ns : List Int} (W : Wheels w B b bm now vs rows) (D : Due w bm ts) (F : Held shI w B' g n cap ns) : g ≠ b ∧ g ≠ bm ∧ ∀ i, i < 64 → (vs i).ownBlock ≠ some g := by
  refine ⟨fun e => ?_, fun e => ?_, fun i hi e => ?_⟩
  · obtain ⟨cur, h1⟩ := Own.tag F (g := g) rfl
    obtain ⟨cs, h2, _⟩ := W.blk
    rw [e, h2] at h1
    injection h1 with h1
    injection h1 with _ h1
    exact absurd h1 (by decide)
  · obtain ⟨cur, h1⟩ := Own.tag F (g := g) rfl
    obtain ⟨es, clock, h2⟩ := D.tag
    rw [e, h2] at h1
    cases h1
  · rcases (W.own i hi).apart F (by decide) with h | h
    · rw [h] at e; cases e
    · exact h (by rw [e]; rfl)

theorem Held.far {α : Type} {S : Shape α} {P : Nat → Prop} {w w' : World} {B g n cap : Nat} {xs : List α} (h : Held S w B g n cap xs) (f : Far P w w') (hg : ¬ P g) : Held S w' B g n cap xs := by
  obtain ⟨cur, h3, h6, h4, h5, h7⟩ := h.heap
  exact Held.mk' h.1 h.low' ((f.block g h.lt hg).trans h3) h4 h5 h6 h7

/-- A pass under way. -/
structure Under (w wr : World) (B b : Nat) (now : Int) (N : Nat) (us : List (Int × Int)) (off : List Int) (g m c bm : Nat) (vs : Nat → Value) (rows : Nat → List (Int × Int)) : Prop where
  wheels : Wheels wr B b bm now vs rows
  due : Due wr bm us
  off : Held shI wr w.heap.size g m c off
  sane : Sane rows
  tot : total rows ≤ N
  far : Far (Mine B w) w wr

set_option maxHeartbeats 4000000 in
theorem passWM {w : World} {B b N : Nat} {now : Int} {ts : List (Int × Int)} (R : Run w B b now ts N) (hN2 : N ≤ 400000) (ticks : Int) :
    Calls Try.prog 22 #[.pointer (some ⟨b, 0, none⟩), .int .i64 ticks] w fun e w' => ∃ g m c, e = .returned (.slice (some ⟨g, 0, none⟩) m c) ∧ Held shI w' w.heap.size g m c (goC now ts ticks).2.2 ∧ Run w' B b (goC now ts ticks).1 (goC now ts ticks).2.1 N ∧ Far (Mine B w) w w' := by
  obtain ⟨bm, vs, rows, W, D, P, hS, hN⟩ := R.ex
  have hok := R.ok
  obtain ⟨hnow, hl100, hall, hris, hnd⟩ := hok
  have hbas := R.base
  have h0 : ∀ t ∈ ts, now < t.2 := fun t ht => (hall t ht).2.1
  have hmx : ∀ t ∈ ts, t.2 ≤ 1000000000 := fun t ht => (hall t ht).2.2
  have k0 : Since w (w.alloc (.cells #[] 3)) := (Since.refl _).alloc _
  have F0 : Held shI (w.alloc (.cells #[] 3)) w.heap.size w.heap.size 0 0 [] := Held.empty (S := shI) w
  have hit := fun x wx => isTick x wx
  obtain ⟨r, hr⟩ : ∃ r, Hid (goC now ts ticks = r) := ⟨_, rfl⟩
  rw [hr.out]
  by_cases h1 : ¬ (0 ≤ ticks ∧ ticks ≤ 1000000000)
  · have hd : decide (0 ≤ ticks ∧ ticks ≤ 1000000000) = false := by simpa using h1
    have hre : Hid (r = (now, ts, [])) := hr.out.symm.trans (by unfold goC; rw [if_neg (fun h => h1 h.2)])
    have R0 := R.since k0
    go_enter Try.func22, Try.ntmps22
    go_wp2_with (go_at_call 25; refine (hit _ _).mono ?_; rintro _ _ ⟨rfl, rfl⟩)
    go_ret
    exact ⟨_, _, _, rfl, by rw [hre.out]; exact F0, by rw [hre.out]; exact R0, Far.of_since k0⟩
  replace h1 := Decidable.not_not.1 h1
  have hd : decide (0 ≤ ticks ∧ ticks ≤ 1000000000) = true := by simpa using h1
  obtain ⟨e, he⟩ : ∃ e, Hid (goTo now ticks = e) := ⟨_, rfl⟩
  have hmin : min (now + ticks) 1000000000 = e := by
    rw [← he.out]
    unfold goTo
    split <;> omega
  have hre : Hid (r = (e, stay ts e, gone ts e)) := hr.out.symm.trans (by unfold goC; rw [if_pos ⟨R.ok, h1⟩, he.out])
  have hge := goTo_range hnow h1.1
  rw [he.out] at hge
  have hokE : Hid (okC r.1 r.2.1) := by unfold Hid; rw [← hr.out]; exact okC_go R.ok
  have hw1 : IntKind.i64.wrap (now + ticks) = now + ticks := by rw [IntWalk.i64_left]; exact IntWalk.wrap64_in _ ⟨by omega, by omega⟩
  have W0 := W.since k0
  have c0 := W0.cell0
  have D0 := D.since k0
  have H0 := Head.start P h0 hge.1
  replace H0 : Hid _ := H0
  have U0 : Under w (w.alloc (.cells #[] 3)) B b now N ts [] w.heap.size 0 0 bm vs rows := ⟨W0, D0, F0, hS, hN, Far.of_since k0⟩
  have htn0 := fun wx => turnOf now hnow.1 (by omega) wx
  have hte := fun wx => turnOf e (by omega) (by omega) wx
  go_enter Try.func22, Try.ntmps22
  go_wp2_with (first | (go_at_call 25; refine (hit _ _).mono ?_; rintro _ _ ⟨rfl, rfl⟩) | (go_at_call 37; refine (htn0 _).mono ?_; rintro _ _ ⟨rfl, rfl⟩))
  generalize w.alloc (.cells #[] 3) = Z at k0 F0 W0 D0 c0 U0 ⊢
  clear W0 D0 F0 c0 k0 W D P hS hN htn0
  clear hmin hw1
  go_loopw [5, 7] (fun o i wr => ∃ (tn : Int) (g m c : Nat) (vs : Nat → Value) (rows : Nat → List (Int × Int)) (us : List (Int × Int)) (off : List Int), i = .int .i64 tn ∧ o = .slice (some ⟨g, 0, none⟩) m c ∧ tn ≤ 31250001 ∧ Hid (Head now e ts tn us rows off) ∧ Under w wr B b now N us off g m c bm vs rows) (fun _ i _ => (31250002 - intOf i).toNat)
  case atStart => exact ⟨now / 32, _, _, _, vs, rows, ts, [], by first | rfl | simp, by first | rfl | simp, by omega, H0, U0⟩
  case round =>
    clear H0 U0 R hit hd
    obtain ⟨tn, g, m, c, vs, rows, us, off, rfl, rfl, htm, hH, U⟩ := hrel
    have htl := hH.out.low
    by_cases hrun : tn ≤ e / 32
    · obtain ⟨hRd, hus, hof⟩ := hH.out.runs hrun
      have husm : ∀ t ∈ us, t ∈ ts := fun t ht => by rw [hus] at ht; exact (mem_stay.1 ht).1
      replace hus : Hid _ := hus
      replace hof : Hid _ := hof
      have hbg := begin U.wheels U.due (Nat.le_trans hbas U.far.size) tn (by omega) (tn % 32).toNat (by omega) (by have := U.tot; omega) U.sane
      obtain ⟨ag1, ag2, ag3⟩ := U.wheels.apartI U.due U.off
      have hrlow : ∀ i, i < 64 → ∀ k, (vs i).ownBlock = some k → Mine B w k := fun i hi k e => U.wheels.mineRow U.far i hi k e
      have hfl : IntKind.i64.wrap (tn * 32) = tn * 32 := by rw [IntWalk.i64_left]; exact IntWalk.wrap64_in _ ⟨by omega, by omega⟩
      have hfl1 : IntKind.i64.wrap (now + 1) = now + 1 := by rw [IntWalk.i64_left]; exact IntWalk.wrap64_in _ ⟨by omega, by omega⟩
      have hfl2 : IntKind.i64.wrap (tn + 1) = tn + 1 := by rw [IntWalk.i64_left]; exact IntWalk.wrap64_in _ ⟨by omega, by omega⟩
      have hfl3 : IntKind.i64.wrap ((tn + 1) * 32) = (tn + 1) * 32 := by rw [IntWalk.i64_left]; exact IntWalk.wrap64_in _ ⟨by omega, by omega⟩
      have hfl4 : IntKind.i64.wrap ((tn + 1) * 32 - 1) = (tn + 1) * 32 - 1 := by rw [IntWalk.i64_left]; exact IntWalk.wrap64_in _ ⟨by omega, by omega⟩
      have hpack : ∀ w3 vs3 rows3, Wheels w3 B b bm now vs3 rows3 → Begun rows rows3 tn (32 + (tn % 32).toNat) → Due w3 bm us → Far (fun k => k = b ∨ ∃ i, i < 64 ∧ (vs i).ownBlock = some k) wr w3 → Ready2 rows3 us tn ∧ Under w w3 B b now N us off g m c bm vs3 rows3 := by
        intro w3 vs3 rows3 W3 B3 D3 F3
        refine ⟨hRd.begun B3 (fun t ht => by have := h0 t (husm t ht); omega), W3, D3, U.off.far F3 ?_, B3.sane, by rw [B3.tot]; exact U.tot, U.far.trans (F3.mono (fun k hk => ?_))⟩
        · rintro (e | ⟨i, hi, e⟩)
          · exact ag1 e
          · exact ag3 i hi e
        · rcases hk with e | ⟨i, hi, e⟩
          · rw [e]; exact U.wheels.mineB U.far
          · exact hrlow i hi k e
      replace hpack : Hid _ := hpack
      go_wp2_with (first | (go_at_call 37; refine (hte _).mono ?_; rintro _ _ ⟨rfl, rfl⟩) | (go_at_call 39; refine hbg.mono ?_; rintro _ w3 ⟨rfl, vs3, rows3, W3, B3, D3, F3⟩; obtain ⟨hR3, U3⟩ := hpack.out w3 vs3 rows3 W3 B3 D3 F3; have c3 := W3.cell0; replace hR3 : Hid _ := hR3; clear W3 B3 D3 F3))
      obtain ⟨fst, hfst⟩ : ∃ fst, Hid (firstOf now tn = fst) := ⟨_, rfl⟩
      obtain ⟨lst, hlst⟩ : ∃ lst, Hid (lastOf e tn = lst) := ⟨_, rfl⟩
      rw [show max (tn * 32) (now + 1) = fst from hfst.out, show min ((tn + 1) * 32 - 1) e = lst from hlst.out]
      have hf1 : fst ≤ lst + 1 ∧ now < fst ∧ tn * 32 ≤ fst ∧ lst ≤ e ∧ lst ≤ tn * 32 + 31 := by
        have a1 := hfst.out
        have a2 := hlst.out
        unfold firstOf at a1
        unfold lastOf at a2
        omega
      obtain ⟨hf1, hf2, hf3, hf4, hf5⟩ := hf1
      have hus' := hus.out
      have hof' := hof.out
      rw [hfst.out] at hus' hof'
      subst hus' hof'
      clear hus hof hRd hpack hbg ag1 ag2 ag3 hrlow husm U hfl hfl1 hfl2 hfl3 hfl4 c3
      go_loopw [5, 10] (fun o i wr => ∃ (tick : Int) (g m c : Nat) (vs : Nat → Value) (rows : Nat → List (Int × Int)), i = .int .i64 tick ∧ o = .slice (some ⟨g, 0, none⟩) m c ∧ fst ≤ tick ∧ tick ≤ lst + 1 ∧ Hid (Ready2 rows (stay ts (tick - 1)) tn) ∧ Under w wr B b now N (stay ts (tick - 1)) (gone ts (tick - 1)) g m c bm vs rows) (fun _ i _ => (lst + 1 - intOf i).toNat)
      case atStart => exact ⟨fst, g, m, c, vs3, rows3, rfl, rfl, Int.le_refl _, hf1, hR3, U3⟩
      case round =>
        clear U3 hR3
        obtain ⟨tick, g, m, c, vs, rows, rfl, rfl, ht1, ht2, hR, U⟩ := hrel
        by_cases htk : tick ≤ lst
        · have husm : ∀ t ∈ stay ts (tick - 1), t ∈ ts := fun t ht => (mem_stay.1 ht).1
          have hgf := goOff U.wheels U.due (Nat.le_trans hbas U.far.size) tick (by omega) (tick % 32).toNat (by omega) (by have h1 := le_totalTo rows 64 (tick % 32).toNat (by omega); have h2 := U.tot; unfold total at h2; omega) (Nat.le_trans (List.length_filter_le _ _) (by omega)) (stay_rising hris _) U.sane (fun x hx => by
            obtain ⟨_, h2, _⟩ := hR.out _ hx
            exact h2 (by simp only; omega))
          rw [notAt_stay, idsAt_stay] at hgf
          obtain ⟨ag1, ag2, ag3⟩ := U.wheels.apartI U.due U.off
          have hgn := gone_next' hris tick
          have hml : m ≤ 100 := by rw [← U.off.1]; exact Nat.le_trans (gone_len _ _) hl100
          have hwB : w.heap.size ≤ wr.heap.size := U.far.size
          have hol := U.off.lt
          have hR' : Hid (Ready2 (upd rows (tick % 32).toNat []) (stay ts tick) tn) := by
            have := hR.out.off (tick := tick) (by omega) (fun t ht => by have := h0 t (husm t ht); omega) (by omega)
            rw [notAt_stay] at this
            exact this
          have hSc := U.sane.clear (tick % 32).toNat
          have hTc := Nat.le_trans (total_clear rows (tick % 32).toNat (by omega)) U.tot
          have hw1 : IntKind.i64.wrap (tick + 1) = tick + 1 := by rw [IntWalk.i64_left]; exact IntWalk.wrap64_in _ ⟨by omega, by omega⟩
          generalize (tick % 32).toNat = sl at hgf hR' hSc hTc
          replace hgn : Hid _ := hgn
          go_wp2_with (first | (go_at_call 40; refine hgf.mono ?_; rintro _ w5 ⟨g5, m5, c5, rfl, F5, W5, D5, Fa5⟩; have O5 := U.off.far Fa5 (fun e => e.elim ag1 ag2); have hm5 : m5 ≤ 100 := (by rw [← F5.1]; exact Nat.le_trans (idsAt_len _ _) hl100); have hws5 := Fa5.size; replace W5 : Hid _ := W5) | (at_builtin; refine app_held laidI rfl _ _ rfl rfl O5 rfl F5.reads (by unfold maxLen; omega) (by omega) (by omega) ?_; intro g6 c6 w6 T6 t6 hat6))
          have ag5 := W5.out.apartI D5 O5
          have W6 := W5.out.touch t6 (Ne.symm ag5.1) (fun i hi => ag5.2.2 i hi)
          have D6 := D5.touch t6 (Ne.symm ag5.2.1)
          have Fa6 : Far (Mine B w) w w6 := by
            have hlo := O5.low'
            have a1 := U.far.trans (Fa5.mono (fun k hk => hk.elim (fun h => by rw [h]; exact U.wheels.mineB U.far) (fun h => by rw [h]; exact U.wheels.mineM U.due U.far)))
            exact a1.trans (Far.of_touch t6 (Mine.fresh hbas hlo))
          have U6 : Under w w6 B b now N (stay ts (tick + 1 - 1)) (gone ts (tick + 1 - 1)) g6 (m + m5) c6 bm (upd vs sl (.slice none 0 0)) (upd rows sl []) := by
            rw [show tick + 1 - 1 = tick by omega]
            exact ⟨W6, D6, by rw [hgn.out]; exact T6, hSc, hTc, Fa6⟩
          have hR6 : Hid (Ready2 (upd rows sl []) (stay ts (tick + 1 - 1)) tn) := by rw [show tick + 1 - 1 = tick by omega]; exact hR'
          clear W5 W6 D5 D6 T6 O5 F5 U Fa5 Fa6 hgf hat6 t6 ag5 hR hR'
          go_roundw
          case rel => exact ⟨tick + 1, g6, m + m5, c6, _, _, by first | rfl | simp, by first | rfl | simp, by omega, by omega, hR6, U6⟩
          case measure => simp [intOf]; omega
        · have htl2 : tick = lst + 1 := by omega
          subst htl2
          have e1 : lst + 1 - 1 = lst := by omega
          rw [e1] at hR U
          have hnt := turnBehind U.wheels U.due (fun t ht => by have h1 := (mem_stay.1 ht).1; have := h0 t h1; have := hmx t h1; omega) tn (by omega)
          have hnext := fun next (h : NextTurn (stay ts lst) tn next) => Head.next (now := now) (e := e) (ts := ts) (off := gone ts lst) (rows := rows) htl hrun hge.1 hR.out (by rw [hlst.out]) (by rw [hlst.out]) h h0 hnow.1
          replace hnext : Hid _ := hnext
          clear e1 hR
          go_wp2_with (go_at_call 38; refine hnt.mono ?_; rintro _ w5 ⟨next, rfl, hnx, k5⟩; replace hnx : Hid _ := hnx)
          have hab := hnx.out.above
          have hmo := hnx.out.most
          have hH5 : Hid (Head now e ts next _ _ _) := hnext.out next hnx.out
          have U5 : Under w w5 B b now N (stay ts lst) (gone ts lst) g m c bm vs rows := ⟨U.wheels.since k5, U.due.since k5, U.off.since k5, U.sane, U.tot, U.far.trans (Far.of_since k5)⟩
          clear U hnt hnext
          go_roundw
          case rel => exact ⟨next, g, m, c, vs, rows, _, _, rfl, rfl, hmo, hH5, U5⟩
          case measure => simp [intOf]; omega
    · obtain ⟨hPl, hus, hof⟩ := hH.out.ends hrun
      have cb := U.wheels.cell0
      have fb := U.wheels.free 0
      have W6 := U.wheels.setNow e
      obtain ⟨ag1, ag2, ag3⟩ := U.wheels.apartI U.due U.off
      have F6 := U.off.other (b := b) ag1 0 (.int .i64 e)
      have D6 := U.due.touch ((Touch.refl b wr).put 0 (.int .i64 e)) (U.wheels.mapNe U.due)
      have Fa6 : Far (Mine B w) w (wr.setCell ⟨b, 0, none⟩ (.int .i64 e)) := U.far.trans (Far.of_touch ((Touch.refl b wr).put 0 _) (U.wheels.mineB U.far))
      have hS6 := U.sane
      have hT6 := U.tot
      replace hus : Hid _ := hus
      replace hof : Hid _ := hof
      replace hPl : Hid _ := hPl
      clear U hH
      go_wp2_with (go_at_call 37; refine (hte _).mono ?_; rintro _ _ ⟨rfl, rfl⟩)
      go_ret
      refine ⟨g, m, c, rfl, ?_, ⟨hokE.out, Nat.le_trans hbas Fa6.size, bm, vs, rows, ?_, ?_, ?_, hS6, hT6⟩, Fa6⟩
      · rw [hre.out, ← hof.out]; exact F6
      · rw [hre.out]; exact W6
      · rw [hre.out, ← hus.out]; exact D6
      · rw [hre.out, ← hus.out]; exact hPl.out

theorem passW {w : World} {B b N : Nat} {now : Int} {ts : List (Int × Int)} (R : Run w B b now ts N) (hN2 : N ≤ 400000) (ticks : Int) :
    Calls Try.prog 22 #[.pointer (some ⟨b, 0, none⟩), .int .i64 ticks] w fun e w' => ∃ g m c, e = .returned (.slice (some ⟨g, 0, none⟩) m c) ∧ Held shI w' w.heap.size g m c (goC now ts ticks).2.2 ∧ Run w' B b (goC now ts ticks).1 (goC now ts ticks).2.1 N ∧ Far (fun k => B ≤ k) w w' :=
  (passWM R hN2 ticks).mono fun _ _ ⟨g, m, c, h1, h2, h3, h4⟩ => ⟨g, m, c, h1, h2, h3, h4.mono fun _ h => h.1⟩
end Go.Proofs.Ytgdhdeadbmeejaa
