/-
  Contracts of the wheels' putFine and put.
-/
import Derived.Test.YtgdhdeadbmeejaaWheel
namespace Go.Proofs.Ytgdhdeadbmeejaa
open Go.ChangeShapes Go.WideShapes Go.ChangeAt Go.RowKit Go.Deep Go.Sort Go.Maps
set_option linter.unusedVariables false

/-- Nothing of what was there has turned but blocks of that kind. -/
structure Far (P : Nat → Prop) (w w' : World) : Prop where
  os : w'.os = w.os
  tape : w'.tape = w.tape
  output : w'.output = w.output
  size : w.heap.size ≤ w'.heap.size
  block : ∀ k, k < w.heap.size → ¬ P k → w'.heap[k]? = w.heap[k]?

theorem Far.refl (P : Nat → Prop) (w : World) : Far P w w := ⟨rfl, rfl, rfl, Nat.le_refl _, fun _ _ _ => rfl⟩

theorem Far.of_since {P : Nat → Prop} {w w' : World} (h : Since w w') : Far P w w' := ⟨h.os, h.tape, h.output, h.size, fun k hk _ => h.block k hk⟩

theorem Far.of_touch {P : Nat → Prop} {g : Nat} {w w' : World} (h : Touch g w w') (hg : P g) : Far P w w' := ⟨h.os, h.tape, h.output, h.size, fun k hk hp => h.block k hk (fun e => hp (e ▸ hg))⟩

theorem Far.of_grown {P : Nat → Prop} {row : Option Nat} {w w' : World} (h : w.grownBy w' row) (hg : ∀ g, row = some g → P g) : Far P w w' := ⟨h.os, h.tape, h.output, h.size, fun k hk hp => h.block k hk (fun e => hp (hg k e.symm))⟩

theorem Far.trans {P : Nat → Prop} {a b c : World} (h : Far P a b) (k : Far P b c) : Far P a c :=
  ⟨k.os.trans h.os, k.tape.trans h.tape, k.output.trans h.output, Nat.le_trans h.size k.size, fun i hi hp => (k.block i (Nat.lt_of_lt_of_le hi h.size) hp).trans (h.block i hi hp)⟩

theorem Far.mono {P Q : Nat → Prop} {a b : World} (h : Far P a b) (hPQ : ∀ k, P k → Q k) : Far Q a b := ⟨h.os, h.tape, h.output, h.size, fun i hi hp => h.block i hi (fun e => hp (hPQ i e))⟩

theorem Far.since {P : Nat → Prop} {a b : World} (h : Far P a b) (hP : ∀ k, P k → a.heap.size ≤ k) : Since a b := ⟨h.os, h.tape, h.output, h.size, fun i hi => h.block i hi (fun e => by have := hP i e; omega)⟩

set_option maxHeartbeats 2000000 in
theorem putFine {w : World} {B b bm : Nat} {now : Int} {vs : Nat → Value} {rows : Nat → List (Int × Int)} (W : Wheels w B b bm now vs rows) (hB : B ≤ w.heap.size) (x y : Int) (hy : 0 ≤ y ∧ y ≤ 1000000000) (s : Nat) (hs : y % 32 = (s : Int)) (hl : (rows s).length ≤ 1000000) :
    Calls Try.prog 47 #[.pointer (some ⟨b, 0, none⟩), .agg #[.int .i64 x, .int .i64 y]] w fun e w' => e = .returned (.tuple #[]) ∧ ∃ v', Wheels w' B b bm now (upd vs s v') (upd rows s (rows s ++ [(x, y)])) ∧ (v'.ownBlock = (vs s).ownBlock ∨ ∃ g, v'.ownBlock = some g ∧ w.heap.size ≤ g) ∧ Far (fun k => k = b ∨ (vs s).ownBlock = some k) w w' := by
  have hs32 : s < 32 := by omega
  have hrem : y.tmod 32 = (s : Int) := by rw [Int.tmod_eq_emod_of_nonneg hy.1]; exact hs
  have hws : IntKind.i64.wrap (s : Int) = (s : Int) := by rw [IntWalk.i64_left]; exact IntWalk.wrap64_in _ ⟨by omega, by omega⟩
  have hs' : (s : Int) < 32 := by omega
  have hs0 : (0 : Int) ≤ (s : Int) := by omega
  have k0 : Since w (w.alloc (.cells #[.int .i64 x, .int .i64 y] 47)) := (Since.refl _).alloc _
  have t0 : (w.alloc (.cells #[.int .i64 x, .int .i64 y] 47)).drew.cell? ⟨w.heap.size, 0, none⟩ = some (.int .i64 x) := (Blk.new w #[.int .i64 x, .int .i64 y] 47).cell 0
  have t1 : (w.alloc (.cells #[.int .i64 x, .int .i64 y] 47)).drew.cell? ⟨w.heap.size, 1, none⟩ = some (.int .i64 y) := (Blk.new w #[.int .i64 x, .int .i64 y] 47).cell 1
  have W1 := W.since k0
  have hZs : (w.alloc (.cells #[.int .i64 x, .int .i64 y] 47)).heap.size = w.heap.size + 1 := by simp
  go_enter Try.func47, Try.ntmps47
  go_wp2_with (fail)
  generalize w.alloc (.cells #[.int .i64 x, .int .i64 y] 47) = Z at k0 t0 t1 W1 hZs ⊢
  have hBz : B ≤ Z.heap.size := by omega
  clear hZs
  have D1 : Since Z Z.drew := (Since.refl _).drew
  have W2 := W1.since D1
  have hY : Since Z.drew (Z.drew.alloc (.cells #[.int .i64 x, .int .i64 y] 47)) := (Since.refl _).alloc _
  have W3 := W2.since hY
  have VY := W3.own s (by omega)
  have RY := Rd.one (S := shT) Z.drew (x, y) 47 Z.heap.size rfl
  have c1 : Z.drew.cell? ⟨b, 1 + s, none⟩ = some (vs s) := by rw [Nat.add_comm]; exact W2.cellRow s (by omega)
  have c2 : (Z.alloc (.cells #[.int .i64 x, .int .i64 y] 47)).drew.cell? ⟨b, 1 + s, none⟩ = some (vs s) := by rw [Nat.add_comm]; exact W3.cellRow s (by omega)
  have hrn := W.rowNe s (by omega)
  have hbl := W1.lt
  have hSY := (k0.trans D1).trans hY
  go_region_law (refine step_app_own (v := vs s) laidT (by rfl) _ _ (by rfl) (by rfl) VY (by rfl) RY (by omega) (by unfold maxLen; omega) (by omega) (by simp; omega) _ rfl ?_; intro g' c' w5 T5 hg5 hat5; have hb5 := hg5.block b W3.lt (fun e => hrn e.symm); have s5 : w5.cell? ⟨b, 1 + s, none⟩ = some (vs s) := (World.cell?_of_block hb5).trans c2; have f5 : w5.frozen? ⟨b, 1 + s, none⟩ = false := (World.frozen?_of_block hb5).trans (W3.free _))
  all_goals
    have W6 := W3.setRow (i := s) (by omega) (xs := rows s ++ [(x, y)]) hg5 (by rw [List.length_append]; exact T5) (by
      right
      rcases hat5 with h | h
      · exact .inl h.symm
      · exact .inr ⟨g', rfl, by rw [h]; exact Nat.le_refl _⟩)
    have F6 : Far (fun k => k = b ∨ (vs s).ownBlock = some k) w (w5.setCell ⟨b, 1 + s, none⟩ (.slice (some ⟨g', 0, none⟩) ((rows s).length + 1) c')) := ((Far.of_since hSY).trans (Far.of_grown hg5 (fun g e => .inr e))).trans (Far.of_touch ((Touch.refl b w5).put (1 + s) _) (.inl rfl))
    rw [Nat.add_comm s 1] at W6
    have hat6 : Hid ((vs s).ownBlock = some g' ∨ w.heap.size ≤ g') := by
      rcases hat5 with h | h
      · exact .inl h
      · right
        rw [h]
        exact hSY.le
    clear W3 W2 W1 VY RY T5 hg5 hat5
    go_wp2
    go_end0
    exact ⟨rfl, _, W6, hat6.out.elim (fun h => .inl h.symm) (fun h => .inr ⟨g', rfl, h⟩), F6⟩

/-- No list lies in the map's block. -/
theorem Wheels.rowNeMap {w : World} {B b bm : Nat} {now : Int} {vs : Nat → Value} {rows : Nat → List (Int × Int)} {ts : List (Int × Int)} (h : Wheels w B b bm now vs rows) (D : Due w bm ts) (i : Nat) (hi : i < 64) : (vs i).ownBlock ≠ some bm := by
  intro e
  obtain ⟨cur, h1⟩ := (h.own i hi).tag e
  obtain ⟨es, clock, h2⟩ := D.tag
  rw [h1] at h2
  cases h2

theorem Wheels.mapNe {w : World} {B b bm : Nat} {now : Int} {vs : Nat → Value} {rows : Nat → List (Int × Int)} {ts : List (Int × Int)} (h : Wheels w B b bm now vs rows) (D : Due w bm ts) : bm ≠ b := by
  intro e
  obtain ⟨cs, h1, _⟩ := h.blk
  obtain ⟨es, clock, h2⟩ := D.tag
  rw [e, h1] at h2
  cases h2

/-- A list of numbers. -/
def TagI (w : World) (k : Nat) : Prop := ∃ cur, w.heap[k]? = some (.cells cur 3 (0, 0))

/-- A block from B on that was no list of numbers in w. -/
def Mine (B : Nat) (w : World) (k : Nat) : Prop := B ≤ k ∧ ¬ TagI w k

theorem Mine.fresh {B : Nat} {w : World} {k : Nat} (hB : B ≤ w.heap.size) (h : w.heap.size ≤ k) : Mine B w k := by
  refine ⟨Nat.le_trans hB h, ?_⟩
  rintro ⟨cur, h1⟩
  have := (Array.getElem?_eq_some_iff.1 h1).1
  omega

theorem Far.tag {B : Nat} {w x : World} {k : Nat} (f : Far (Mine B w) w x) (h : TagI w k) : TagI x k := by
  obtain ⟨cur, h1⟩ := h
  exact ⟨cur, (f.block k (Array.getElem?_eq_some_iff.1 h1).1 (fun m => m.2 ⟨cur, h1⟩)).trans h1⟩

theorem Wheels.mineB {B b bm : Nat} {w x : World} {now : Int} {vs : Nat → Value} {rows : Nat → List (Int × Int)} (W : Wheels x B b bm now vs rows) (f : Far (Mine B w) w x) : Mine B w b := by
  refine ⟨W.low, fun h => ?_⟩
  obtain ⟨cur, h1⟩ := f.tag h
  obtain ⟨cs, h2, _⟩ := W.blk
  rw [h2] at h1
  injection h1 with h1
  injection h1 with _ h1
  exact absurd h1 (by decide)

theorem Wheels.mineM {B b bm : Nat} {w x : World} {now : Int} {vs : Nat → Value} {rows : Nat → List (Int × Int)} {ts : List (Int × Int)} (W : Wheels x B b bm now vs rows) (D : Due x bm ts) (f : Far (Mine B w) w x) : Mine B w bm := by
  refine ⟨W.mlow, fun h => ?_⟩
  obtain ⟨cur, h1⟩ := f.tag h
  obtain ⟨es, clock, h2⟩ := D.tag
  rw [h2] at h1
  cases h1

theorem Wheels.mineRow {B b bm : Nat} {w x : World} {now : Int} {vs : Nat → Value} {rows : Nat → List (Int × Int)} (W : Wheels x B b bm now vs rows) (f : Far (Mine B w) w x) (i : Nat) (hi : i < 64) (k : Nat) (e : (vs i).ownBlock = some k) : Mine B w k := by
  refine ⟨((W.own i hi).lt e).1, fun h => ?_⟩
  obtain ⟨cur, h1⟩ := f.tag h
  obtain ⟨cur', h2⟩ := (W.own i hi).tag e
  rw [h2] at h1
  injection h1 with h1
  injection h1 with _ h1
  exact absurd h1 (by decide)

/-- Where a timer is put. -/
def slotOf (now at' : Int) : Nat := if at' / 32 = now / 32 then (at' % 32).toNat else 32 + ((at' / 32) % 32).toNat

set_option maxHeartbeats 4000000 in
theorem putTM {w : World} {B b bm : Nat} {now : Int} {vs : Nat → Value} {rows : Nat → List (Int × Int)} {ts : List (Int × Int)} (W : Wheels w B b bm now vs rows) (D : Due w bm ts) (hB : B ≤ w.heap.size) (hnow : 0 ≤ now ∧ now ≤ 1000000000) (x y : Int) (hx : I64 x) (hy : 0 ≤ y ∧ y ≤ 1000000000) (hl : total rows ≤ 1000000) (hts : ts.length < 1000000) :
    Calls Try.prog 36 #[.pointer (some ⟨b, 0, none⟩), .agg #[.int .i64 x, .int .i64 y]] w fun e w' => e = .returned (.tuple #[]) ∧ ∃ v', Wheels w' B b bm now (upd vs (slotOf now y) v') (upd rows (slotOf now y) (rows (slotOf now y) ++ [(x, y)])) ∧ Due w' bm ((x, y) :: without ts x) ∧ Far (Mine B w) w w' := by
  have hy64 : I64 y := i64_of (by omega)
  have hbm := W.mapNe D
  have k0 : Since w (w.alloc (.cells #[.int .i64 x, .int .i64 y] 47)) := (Since.refl _).alloc _
  have T0 := Blk.new w #[.int .i64 x, .int .i64 y] 47
  have W1 := W.since k0
  have D1 := D.since k0
  have hto := fun x h1 h2 wx => turnOf x h1 h2 wx
  go_enter Try.func36, Try.ntmps36
  go_wp2_with (fail)
  have hZs : w.heap.size < (w.alloc (.cells #[.int .i64 x, .int .i64 y] 47)).heap.size := by simp
  generalize w.alloc (.cells #[.int .i64 x, .int .i64 y] 47) = Z at k0 T0 W1 D1 hZs ⊢
  refine wp_region_tail (wb := Z) 8 (fun i x' v => match i with
    | 0 => v = .pointer (some ⟨b, 0, none⟩)
    | 1 => v = .pointer (some ⟨b, 0, none⟩)
    | 2 => v = .pointer (some ⟨b, 65, none⟩)
    | 3 => v = .map (some bm)
    | 4 => v = .pointer (some ⟨w.heap.size, 0, none⟩)
    | 5 => v = .int .i64 x
    | 6 => v = .pointer (some ⟨w.heap.size, 1, none⟩)
    | 7 => v = .int .i64 y
    | _ => True) (fun v => { tmps := #[Value.pointer (some ⟨b, 0, none⟩), Value.agg #[Value.int IntKind.i64 x, Value.int IntKind.i64 y], undef, Value.pointer (some ⟨w.heap.size, 0, none⟩), undef, v 0, v 1, v 2, v 3, v 4, v 5, v 6, v 7, undef, undef, undef, undef, undef, undef, undef, undef, undef, undef, undef, undef, undef, undef, undef, undef, undef, undef, undef, undef, undef, undef, undef, undef, undef, undef, undef, undef, undef, undef], defers := [] }) (by kernel_rfl) (by kernel_rfl) (by kernel_rfl) (Since.refl _) ?_ (fun vals => by kernel_rfl) ?_ ?_
  case refine_1 =>
    intro j' x' x'' v h1 h2
    match j', h2 with
    | 0, h2 | 1, h2 | 2, h2 | 3, h2 | 4, h2 | 5, h2 | 6, h2 | 7, h2 => exact h2
    | n + 8, _ => trivial
  case refine_2 =>
    simp only [List.take_succ_cons, List.take_zero]
    repeat (first | exact eachDoes_nil | refine eachDoes_cons ?_ ?_)
    all_goals intro vals z hz hv
    all_goals simp [Region.binds] at hv
    all_goals have e1 := (W1.since hz).cellMap
    all_goals have e2 := (T0.since hz).cell 0
    all_goals have e3 := (T0.since hz).cell 1
    all_goals simp at e2 e3
    all_goals simp [does, doesUpon, go_sem, hv, e1, e2, e3, Since.refl]
  case refine_3 =>
    intro vals z hz hv
    have h0 : vals 0 = _ := hv 0 (by decide)
    have h1 : vals 1 = _ := hv 1 (by decide)
    have h2 : vals 2 = _ := hv 2 (by decide)
    have h3 : vals 3 = _ := hv 3 (by decide)
    have h4 : vals 4 = _ := hv 4 (by decide)
    have h5 : vals 5 = _ := hv 5 (by decide)
    have h6 : vals 6 = _ := hv 6 (by decide)
    have h7 : vals 7 = _ := hv 7 (by decide)
    clear hv
    simp only [h0, h1, h2, h3, h4, h5, h6, h7, List.drop_succ_cons, List.drop_zero]
    clear h0 h1 h2 h3 h4 h5 h6 h7
    replace W1 := W1.since hz
    replace D1 := D1.since hz
    replace T0 := T0.since hz
    replace k0 := k0.trans hz
    replace hZs : w.heap.size < z.heap.size := Nat.lt_of_lt_of_le hZs hz.le
    have hbml := D.lt
    go_wp2_with (at_mapUpdate; refine due_put rfl _ _ _ rfl D1 hts hx hy64 rfl rfl rfl ?_; intro z2 D2 tch2; go_frame)
    have W2 := W1.touch tch2 (Ne.symm hbm) (fun i hi => W1.rowNeMap D1 i hi)
    have T2 := T0.touch tch2 (by omega)
    have F2 : Far (Mine B w) w z2 := (Far.of_since k0).trans (Far.of_touch tch2 (W.mineM D (Far.refl _ _)))
    have hBz : B ≤ z2.heap.size := Nat.le_trans hB F2.size
    have hbmz := D2.lt
    clear W1 D1 T0 tch2
    have q1 : ∀ u : Later z2, u.val.cell? ⟨w.heap.size, 1, none⟩ = some (.int .i64 y) := fun u => (T2.since u.ok).cell 1
    have q2 : ∀ u : Later z2, u.val.cell? ⟨b, 0, none⟩ = some (.int .i64 now) := fun u => (W2.since u.ok).cell0
    have hc1 : ∀ u : Later z2, Calls Try.prog 37 #[.int .i64 y] u.val fun e w'' => e = .returned (.int .i64 (y / 32)) ∧ ∃ v : Later z2, w'' = v.val := fun u => (turnOf y hy.1 (by omega) u.val).mono fun _ _ ⟨h1, h2⟩ => ⟨h1, u, h2.symm⟩
    have hc2 : ∀ u : Later z2, Calls Try.prog 37 #[.int .i64 now] u.val fun e w'' => e = .returned (.int .i64 (now / 32)) ∧ ∃ v : Later z2, w'' = v.val := fun u => (turnOf now hnow.1 (by omega) u.val).mono fun _ _ ⟨h1, h2⟩ => ⟨h1, u, h2.symm⟩
    have hne : Nonempty (Later z2) := ⟨⟨z2, Since.refl _⟩⟩
    refine wp_region_calm (wb := z2) (by kernel_rfl) (by kernel_rfl) (Since.refl _) ?_
    iterate 3 (go_big_quiet_step (exact hc1 _))
    clear hc1
    repeat (go_big_quiet_step (exact hc2 _))
    refine wpQuiet_nil ?_
    rintro _ ⟨u, rfl⟩
    replace W2 := W2.since u.ok
    replace D2 := D2.since u.ok
    replace T2 := T2.since u.ok
    replace F2 := F2.trans (Far.of_since u.ok)
    replace hBz := Nat.le_trans hBz u.ok.le
    have hrn : ∀ i, i < 64 → (vs i).ownBlock ≠ some bm := fun i hi => W2.rowNeMap D2 i hi
    have hrl : ∀ i, i < 64 → (rows i).length ≤ 1000000 := fun i hi => Nat.le_trans (le_totalTo rows 64 i hi) hl
    have hrB : ∀ i, i < 64 → ∀ k, (vs i).ownBlock = some k → Mine B w k := fun i hi k e => W.mineRow (Far.refl _ _) i hi k e
    have hmB := W.mineB (Far.refl (Mine B w) w)
    clear q1 q2 hc2 hne
    generalize u.val = Y at *
    by_cases he : y / 32 = now / 32
    · have hsl : Hid (slotOf now y = (y % 32).toNat) := by unfold Hid slotOf; rw [if_pos he]
      have hpf := putFine W2 hBz x y hy (y % 32).toNat (by omega) (hrl _ (by omega))
      have t0 := T2.cell 0
      have t1 := T2.cell 1
      simp at t0 t1
      have hsN : (y % 32).toNat < 64 := by omega
      generalize (y % 32).toNat = s at hpf hsl hsN
      go_wp2_with (go_at_call 47; refine hpf.mono ?_; rintro _ w3 ⟨rfl, v', W3, _, F3⟩)
      go_end0
      refine ⟨rfl, v', ?_, ?_, ?_⟩
      · rw [hsl.out]; exact W3
      · exact D2.block (F3.block bm D2.lt (fun e => e.elim (fun h => hbm h) (fun h => hrn _ hsN h)))
      · exact F2.trans (F3.mono (fun k hk => hk.elim (fun h => h ▸ hmB) (fun h => hrB _ hsN k h)))
    · have heb : (y / 32 == now / 32) = false := by simpa using he
      obtain ⟨s, hs⟩ : ∃ s : Nat, (y / 32) % 32 = (s : Int) := ⟨((y / 32) % 32).toNat, by omega⟩
      have hs32 : s < 32 := by omega
      have hsl : Hid (slotOf now y = 32 + s) := by unfold Hid slotOf; rw [if_neg he, hs]; rfl
      have hrem : (y / 32).tmod 32 = (s : Int) := by rw [Int.tmod_eq_emod_of_nonneg (by omega)]; exact hs
      have hws : IntKind.i64.wrap (s : Int) = (s : Int) := by rw [IntWalk.i64_left]; exact IntWalk.wrap64_in _ ⟨by omega, by omega⟩
      have hs' : (s : Int) < 32 := by omega
      have hs0 : (0 : Int) ≤ (s : Int) := by omega
      have t1 := T2.cell 1
      simp at t1
      have htn := fun wx => turnOf y hy.1 (by omega) wx
      clear he
      go_wp2_with (go_at_call 37; refine (htn _).mono ?_; rintro _ _ ⟨rfl, rfl⟩)
      have Dd : Since Y Y.drew := (Since.refl _).drew
      have t0' : Y.drew.cell? ⟨w.heap.size, 0, none⟩ = some (.int .i64 x) := T2.cell 0
      have t1' : Y.drew.cell? ⟨w.heap.size, 1, none⟩ = some (.int .i64 y) := T2.cell 1
      have W3 := W2.since Dd
      have hY : Since Y.drew (Y.drew.alloc (.cells #[.int .i64 x, .int .i64 y] 47)) := (Since.refl _).alloc _
      have W4 := W3.since hY
      have VY := W4.own (32 + s) (by omega)
      have RY := Rd.one (S := shT) Y.drew (x, y) 47 Y.heap.size rfl
      have c1 : Y.drew.cell? ⟨b, 33 + s, none⟩ = some (vs (32 + s)) := by rw [show 33 + s = 32 + s + 1 by omega]; exact W3.cellRow (32 + s) (by omega)
      have c2 : (Y.alloc (.cells #[.int .i64 x, .int .i64 y] 47)).drew.cell? ⟨b, 33 + s, none⟩ = some (vs (32 + s)) := by rw [show 33 + s = 32 + s + 1 by omega]; exact W4.cellRow (32 + s) (by omega)
      have hrb := W2.rowNe (32 + s) (by omega)
      have hlr := hrl (32 + s) (by omega)
      have hrBs := hrB (32 + s) (by omega)
      have D4 := (D2.since Dd).since hY
      have hSY : Far (Mine B w) w (Y.drew.alloc (.cells #[.int .i64 x, .int .i64 y] 47)) := F2.trans (Far.of_since (Dd.trans hY))
      have hrm := hrn (32 + s) (by omega)
      clear hrl hrB hrn
      go_region_law (refine step_app_own (v := vs (32 + s)) laidT (by rfl) _ _ (by rfl) (by rfl) VY (by rfl) RY (by omega) (by unfold maxLen; omega) (by omega) (by simp; omega) _ rfl ?_; intro g' c' w5 T5 hg5 hat5; have hb5 := hg5.block b W4.lt (fun e => hrb e.symm); have s5 : w5.cell? ⟨b, 33 + s, none⟩ = some (vs (32 + s)) := (World.cell?_of_block hb5).trans c2; have f5 : w5.frozen? ⟨b, 33 + s, none⟩ = false := (World.frozen?_of_block hb5).trans (W4.free _))
      all_goals
        have W6 := W4.setRow (i := 32 + s) (by omega) (xs := rows (32 + s) ++ [(x, y)]) hg5 (by rw [List.length_append]; exact T5) (by
          right
          rcases hat5 with h | h
          · exact .inl h.symm
          · exact .inr ⟨g', rfl, by rw [h]; exact Nat.le_refl _⟩)
        have D6 : Due (w5.setCell ⟨b, 33 + s, none⟩ (.slice (some ⟨g', 0, none⟩) ((rows (32 + s)).length + 1) c')) bm ((x, y) :: without ts x) := (D4.kept hg5 (fun e => hrm e.symm)).touch ((Touch.refl b w5).put (33 + s) _) hbm
        have F6 : Far (Mine B w) w (w5.setCell ⟨b, 33 + s, none⟩ (.slice (some ⟨g', 0, none⟩) ((rows (32 + s)).length + 1) c')) := (hSY.trans (Far.of_grown hg5 hrBs)).trans (Far.of_touch ((Touch.refl b w5).put (33 + s) _) hmB)
        rw [show 32 + s + 1 = 33 + s by omega] at W6
        clear W4 W3 W2 VY RY T5 hg5 hat5 D4 D2
        go_wp2
        go_end0
        refine ⟨rfl, .slice (some ⟨g', 0, none⟩) ((rows (32 + s)).length + 1) c', ?_, D6, F6⟩
        rw [hsl.out]
        exact W6

theorem putT {w : World} {B b bm : Nat} {now : Int} {vs : Nat → Value} {rows : Nat → List (Int × Int)} {ts : List (Int × Int)} (W : Wheels w B b bm now vs rows) (D : Due w bm ts) (hB : B ≤ w.heap.size) (hnow : 0 ≤ now ∧ now ≤ 1000000000) (x y : Int) (hx : I64 x) (hy : 0 ≤ y ∧ y ≤ 1000000000) (hl : total rows ≤ 1000000) (hts : ts.length < 1000000) :
    Calls Try.prog 36 #[.pointer (some ⟨b, 0, none⟩), .agg #[.int .i64 x, .int .i64 y]] w fun e w' => e = .returned (.tuple #[]) ∧ ∃ v', Wheels w' B b bm now (upd vs (slotOf now y) v') (upd rows (slotOf now y) (rows (slotOf now y) ++ [(x, y)])) ∧ Due w' bm ((x, y) :: without ts x) ∧ Far (fun k => B ≤ k) w w' :=
  (putTM W D hB hnow x y hx hy hl hts).mono fun _ _ ⟨h1, v', h2, h3, h4⟩ => ⟨h1, v', h2, h3, h4.mono fun _ h => h.1⟩
end Go.Proofs.Ytgdhdeadbmeejaa
