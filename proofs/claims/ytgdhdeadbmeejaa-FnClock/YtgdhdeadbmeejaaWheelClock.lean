/-
  Contract of the wheels' clock.
-/
import Derived.Test.YtgdhdeadbmeejaaWheelOps
import Derived.Test.YtgdhdeadbmeejaaSortOwn
namespace Go.Proofs.Ytgdhdeadbmeejaa
open Go.ChangeShapes Go.WideShapes Go.ChangeAt Go.RowKit Go.Deep Go.Sort Go.Maps
set_option linter.unusedVariables false

/-- us are those of the timers that are no longer to come. -/
structure Coll (ts us : List (Int × Int)) (left : Lit → Bool) : Prop where
  mem : ∀ t, t ∈ us ↔ t ∈ ts ∧ left (.int .i64 t.1) = false
  once : (idsOf us).Nodup

theorem Coll.start {D : DataW Unit} {ts : List (Int × Int)} (h : Tells D ts) : Coll ts [] (Maps.has D) := by
  refine ⟨fun t => ⟨fun h => (by cases h), fun ⟨h1, h2⟩ => ?_⟩, by simp [idsOf]⟩
  rw [h.has t.1] at h2
  have : t.1 ∈ idsOf ts := List.mem_map.2 ⟨t, h1, rfl⟩
  simp [this] at h2

theorem same_int (x y : Int) : (Lit.int .i64 x).sameKey (.int .i64 y) = decide (x = y) := by
  by_cases h : x = y
  · subst h
    rw [WideAt.sameKey_self (a := .int .i64 x) trivial]
    simp
  · rw [sameKey_ne (by simpa using h)]
    simp [h]

theorem entry_is {D : DataW Unit} {ts : List (Int × Int)} (h : Tells D ts) {x c : Int} (hat : ∀ zd, D.atKey (.int .i64 x) zd = .lit (.int .i64 c)) : (x, c) ∈ ts := by
  have h1 := has_true_of_atKey hat
  rw [h.has x, decide_eq_true_iff] at h1
  obtain ⟨t, ht, rfl⟩ := List.mem_map.1 h1
  have h2 := h.val t ht (.lit (.int .i64 0))
  rw [hat] at h2
  have h3 : c = t.2 := by simpa using h2
  rw [h3]
  exact ht

theorem Coll.step {D : DataW Unit} {ts us : List (Int × Int)} {left : Lit → Bool} (C : Coll ts us left) (h : Tells D ts) {x c : Int} (hl : left (.int .i64 x) = true) (hat : ∀ zd, D.atKey (.int .i64 x) zd = .lit (.int .i64 c)) : Coll ts (us ++ [(x, c)]) (fun z => left z && !z.sameKey (.int .i64 x)) := by
  have hm := entry_is h hat
  have hnot : x ∉ idsOf us := by
    intro hx
    obtain ⟨t, ht, rfl⟩ := List.mem_map.1 hx
    rw [((C.mem t).1 ht).2] at hl
    cases hl
  refine ⟨fun t => ?_, ?_⟩
  · rw [List.mem_append, List.mem_singleton, C.mem t, same_int]
    constructor
    · rintro (⟨h1, h2⟩ | rfl)
      · exact ⟨h1, by rw [h2]; rfl⟩
      · exact ⟨hm, by simp⟩
    · rintro ⟨h1, h2⟩
      by_cases e : t.1 = x
      · right
        have e2 : t.2 = c := by
          have a1 := dueAt_of h.once h1
          have a2 := dueAt_of h.once hm
          rw [e] at a1
          simp only at a2
          omega
        exact Prod.ext e e2
      · left
        exact ⟨h1, by simpa [e] using h2⟩
  · have : idsOf (us ++ [(x, c)]) = idsOf us ++ [x] := by simp [idsOf]
    rw [this, List.nodup_append]
    exact ⟨C.once, by simp, fun a ha b hb e => hnot (by simp at hb; rw [← hb, ← e]; exact ha)⟩

theorem nodup_of_ids {us : List (Int × Int)} (h : (idsOf us).Nodup) : us.Nodup := by
  unfold idsOf List.Nodup at h
  exact (List.pairwise_map.1 h).imp fun h1 e => h1 (by rw [e])

theorem Coll.done {ts us : List (Int × Int)} {left : Lit → Bool} (C : Coll ts us left) (hn : (idsOf ts).Nodup) (hl : ∀ kl, left kl = false) : us.Perm ts := by
  have hu : us.Nodup := nodup_of_ids C.once
  have ht : ts.Nodup := nodup_of_ids hn
  exact (List.perm_ext_iff_of_nodup hu ht).2 fun t => by rw [C.mem t, hl]; simp

set_option maxHeartbeats 2000000 in
theorem clockW {w : World} {B b N : Nat} {now : Int} {ts : List (Int × Int)} (R : Run w B b now ts N) :
    Calls Try.prog 23 #[.pointer (some ⟨b, 0, none⟩)] w fun e w' => ∃ g m c, e = .returned (.agg #[.int .i64 now, .slice (some ⟨g, 0, none⟩) m c]) ∧ Held shT w' w.heap.size g m c ts ∧ Since w w' := by
  obtain ⟨bm, vs, rows, W, D, _, _, _⟩ := R.ex
  have hok := R.ok
  have hl100 := hok.2.1
  have hbl := W.lt
  have hbml := D.lt
  have k1 : Since w ((w.alloc (.cells #[.int .i64 0, .slice none 0 0] 26)).alloc (.cells #[] 47)) := ((Since.refl _).alloc _).alloc _
  have A := (Blk.new w #[.int .i64 0, .slice none 0 0] 26).since ((Since.refl _).alloc (.cells #[] 47))
  have T0 : Held shT _ _ _ 0 0 [] := Held.empty (S := shT) (w.alloc (.cells #[.int .i64 0, .slice none 0 0] 26))
  simp only [World.size_alloc] at T0
  replace T0 : Held shT ((w.alloc (.cells #[.int .i64 0, .slice none 0 0] 26)).alloc (.cells #[] 47)) (w.heap.size + 1) (w.heap.size + 1) 0 0 [] := T0
  have W1 := W.since k1
  have D1 := D.since k1
  obtain ⟨Dm, hown, htell⟩ := D1
  have c1 := W1.cellMap
  have hZs : ((w.alloc (.cells #[.int .i64 0, .slice none 0 0] 26)).alloc (.cells #[] 47)).heap.size = w.heap.size + 1 + 1 := by simp
  have hcA : ((w.alloc (.cells #[.int .i64 0, .slice none 0 0] 26)).alloc (.cells #[] 47)).cell? ⟨b, 65, none⟩ = some (.map (some bm)) := c1
  go_enter Try.func23, Try.ntmps23
  go_wp2_with (at_range; refine wpList_range_own _ rfl _ 66 rfl 3 3 keyedI Try.underlying66 _ bm ts.length Dm rfl hown ?_; intro w0 hrg0 hg0 hs0)
  go_frame
  rw [hZs] at hrg0 ⊢
  have k0 : Since ((w.alloc (.cells #[.int .i64 0, .slice none 0 0] 26)).alloc (.cells #[] 47)) w0 := ⟨hg0.os, hg0.tape, hg0.output, hg0.size, fun k hk => hg0.block k hk (by simp)⟩
  have hcnt : Maps.size Dm = ts.length := htell.size
  rw [hcnt] at hrg0
  have C0 := Coll.start htell
  replace C0 : Hid _ := C0
  replace T0 := T0.since k0
  replace A := A.since k0
  have S0 := k1.trans k0
  clear k1 k0 c1 hcA hs0 hg0
  go_loopw [3] (fun v wr => ∃ (left : Lit → Bool) (cnt : Nat) (us : List (Int × Int)) (g m c : Nat), v = .slice (some ⟨g, 0, none⟩) m c ∧ wr.ranges Try.prog 3 (plainElem Try.prog 3) bm (w.heap.size + 1 + 1) ts.length Dm left cnt ∧ Hid (Coll ts us left) ∧ us.length + cnt ≤ 100 ∧ Held shT wr (w.heap.size + 1) g m c us ∧ Since w wr ∧ Blk w.heap.size wr #[.int .i64 0, .slice none 0 0]) (fun _ wr => wr.rangeLeft bm (w.heap.size + 1 + 1))
  case atStart => exact ⟨_, _, [], _, _, _, rfl, hrg0, C0, by simp; omega, T0, S0, A⟩
  case round =>
    clear hrg0 C0 T0 S0 A
    obtain ⟨left, cnt, us, g, m, c, rfl, hrg, hC, hcl, T, Sr, A⟩ := hrel
    have hml := T.1
    go_wp2_with (at_next; refine wpList_next_ranges_ii _ rfl _ rfl 3 3 .i64 .i64 keyedI Try.underlying3 Try.underlying3 bm (w.heap.size + 1 + 1) ts.length _ _ _ rfl hrg ?_ ?_)
    · intro _ hl0
      have hp := hC.out.done hok.2.2.2.2 hl0
      have hsrt := sortTims _ g m c us ts wr T hok.2.2.2.1 hp (by omega)
      have Wr := W.since Sr
      have hlow := T.low'
      clear hl0 hrg hp
      go_wp2_with (go_at_call 41; refine hsrt.mono ?_; rintro _ w3 ⟨rfl, T3, t3⟩; have e0 : w3.cell? ⟨b, 0, none⟩ = some (.int .i64 now) := (World.cell?_of_block (w := wr) (w' := w3) (a := ⟨b, 0, none⟩) (t3.block b Wr.lt (by omega))).trans Wr.cell0; have A3 := A.touch t3 (by omega); have a0 := A3.cell 0; have a1 := A3.cell 1; simp at a0 a1; have f0 := A3.fz 0; have f1 := A3.fz 1)
      refine bodyPost_ret (v := .agg #[.int .i64 now, .slice (some ⟨g, 0, none⟩) m c]) ?_ rfl ⟨g, m, c, rfl, ?_, ?_⟩
      · simp [results, go_sem, a0, a1]
      · exact ((T3.other (by omega) _ _).other (by omega) _ _).raise (by omega)
      · exact since_put1 (since_put1 (Sr.touch t3 (by omega)) (by omega) _ _) (by omega) _ _
    · intro x cc w1 cnt1 hwx hwc hlx hat hrg1 hlt hg1 hs1 hen
      have hC1 := hC.out.step htell hlx hat
      replace hC1 : Hid _ := hC1
      have hAl := A.lt
      have hTl := T.lt
      have hrne : g ≠ w.heap.size + 1 + 1 := by
        intro e
        obtain ⟨cur, h1⟩ := Own.tag T (g := g) rfl
        obtain ⟨_, _, _, _, _, _, _, _, _, hit, _⟩ := hrg
        rw [e, hit] at h1
        cases h1
      have hrl := hrg.lt
      have T1 : Held shT w1 _ g m c us := Own.kept T hg1 (.inr (by simp [Value.ownBlock]; exact hrne))
      have A1 := A.touch (touch_grown hg1) (by omega)
      have S1 := Sr.touch (touch_grown hg1) (by omega)
      have hY : Since w1 (w1.alloc (.cells #[.int .i64 x, .int .i64 cc] 47)) := (Since.refl _).alloc _
      have TY := T1.since hY
      have RY := Rd.one (S := shT) w1 (x, cc) 47 w1.heap.size rfl
      have hgl1 := T1.lt
      have hlow := T1.low'
      have hrgY := hrg1.alloc (.cells #[.int .i64 x, .int .i64 cc] 47)
      have hAl1 := A1.lt
      clear hs1
      go_wp2_with (at_builtin; refine app_own (v := .slice (some ⟨g, 0, none⟩) m c) laidT rfl _ _ rfl rfl TY rfl RY (by omega) (by unfold maxLen; omega) (by omega) (by simp; omega) _ rfl ?_; intro g' c' w5 T5 hg5 hat5)
      have hrow : ∀ b, (Value.slice (some ⟨g, 0, none⟩) m c).ownBlock = some b → g = b := fun b e => by simpa [Value.ownBlock] using e
      have hbmne : g ≠ bm := by
        intro e
        obtain ⟨cur, h1⟩ := Own.tag T (g := g) rfl
        obtain ⟨_, _, _, _, _, hb, _⟩ := hrg
        rw [e, hb] at h1
        cases h1
      have hrg5 := hrgY.kept hg5 (fun e => by have := hrow _ e.symm; omega) (fun e => by have := hrow _ e.symm; omega)
      have A5 := (A1.since hY).touch (touch_grown (g := g) hg5) (by omega)
      have S5 := (S1.trans hY).touch (touch_grown (g := g) hg5) (by omega)
      go_roundw
      case rel => exact ⟨_, cnt1, us ++ [(x, cc)], g', m + 1, c', rfl, hrg5, hC1, by simp; omega, T5, S5, A5⟩
      case measure => rw [hrg5.left_eq, hrg.left_eq]; exact hlt
end Go.Proofs.Ytgdhdeadbmeejaa
