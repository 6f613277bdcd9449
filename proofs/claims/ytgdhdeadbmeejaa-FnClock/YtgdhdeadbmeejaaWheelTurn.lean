/-
  Contracts of the wheels' turnBehind and goOff.
-/
import Derived.Test.YtgdhdeadbmeejaaWheelClock
namespace Go.Proofs.Ytgdhdeadbmeejaa
open Go.ChangeShapes Go.WideShapes Go.ChangeAt Go.RowKit Go.Deep Go.Sort Go.Maps
set_option linter.unusedVariables false

/-- The turn of a tick. -/
def turn (x : Int) : Int := x / 32

/-- The next turn behind that one in which a timer is due. -/
structure NextTurn (ts : List (Int × Int)) (turn next : Int) : Prop where
  above : turn < next
  most : next ≤ 31250001
  none : ∀ t ∈ ts, turn < t.2 / 32 → next ≤ t.2 / 32
  is : next = 31250001 ∨ ∃ t ∈ ts, t.2 / 32 = next

/-- What the loop has found. -/
structure NextTo (ts : List (Int × Int)) (turn next : Int) (left : Lit → Bool) : Prop where
  above : turn < next
  most : next ≤ 31250001
  none : ∀ t ∈ ts, left (.int .i64 t.1) = false → turn < t.2 / 32 → next ≤ t.2 / 32
  is : next = 31250001 ∨ ∃ t ∈ ts, t.2 / 32 = next

set_option maxHeartbeats 2000000 in
theorem turnBehind {w : World} {B b bm : Nat} {now : Int} {vs : Nat → Value} {rows : Nat → List (Int × Int)} {ts : List (Int × Int)} (W : Wheels w B b bm now vs rows) (D : Due w bm ts) (hts : ∀ t ∈ ts, 0 ≤ t.2 ∧ t.2 ≤ 1000000000) (tn : Int) (htn : 0 ≤ tn ∧ tn ≤ 31250000) :
    Calls Try.prog 38 #[.pointer (some ⟨b, 0, none⟩), .int .i64 tn] w fun e w' => ∃ next, e = .returned (.int .i64 next) ∧ NextTurn ts tn next ∧ Since w w' := by
  have hbml := D.lt
  obtain ⟨Dm, hown, htell⟩ := D
  have c1 := W.cellMap
  have hto := fun x h1 h2 wx => turnOf x h1 h2 wx
  have ht0 := fun wx => turnOf 1000000000 (by omega) (by omega) wx
  go_enter Try.func38, Try.ntmps38
  go_wp2_with (first | (go_at_call 37; refine (ht0 _).mono ?_; rintro _ _ ⟨rfl, rfl⟩) | (at_range; refine wpList_range_own _ rfl _ 66 rfl 3 3 keyedI Try.underlying66 _ bm ts.length Dm rfl hown ?_; intro w0 hrg0 hg0 hs0))
  go_frame
  have k0 : Since w w0 := ⟨hg0.os, hg0.tape, hg0.output, hg0.size, fun k hk => hg0.block k hk (by simp)⟩
  have hcnt : Maps.size Dm = ts.length := htell.size
  rw [hcnt] at hrg0
  clear hs0 hg0 ht0
  have N0 : NextTo ts tn 31250001 (Maps.has Dm) := by
    refine ⟨by omega, by omega, fun t ht hl => ?_, .inl rfl⟩
    rw [htell.has t.1] at hl
    have : t.1 ∈ idsOf ts := List.mem_map.2 ⟨t, ht, rfl⟩
    simp [this] at hl
  replace N0 : Hid _ := N0
  go_loopw [5] (fun v wr => ∃ (left : Lit → Bool) (cnt : Nat) (next : Int), v = .int .i64 next ∧ wr.ranges Try.prog 3 (plainElem Try.prog 3) bm w.heap.size ts.length Dm left cnt ∧ Hid (NextTo ts tn next left) ∧ Since w wr) (fun _ wr => wr.rangeLeft bm w.heap.size)
  case atStart => exact ⟨_, _, 31250001, by first | rfl | simp, hrg0, N0, k0⟩
  case round =>
    clear hrg0 N0 k0
    obtain ⟨left, cnt, next, rfl, hrg, hN, Sr⟩ := hrel
    go_wp2_with (at_next; refine wpList_next_ranges_ii _ rfl _ rfl 3 3 .i64 .i64 keyedI Try.underlying3 Try.underlying3 bm w.heap.size ts.length _ _ _ rfl hrg ?_ ?_)
    · intro _ hl0
      have hF : Hid (NextTurn ts tn next) := ⟨hN.out.above, hN.out.most, fun t ht h => hN.out.none t ht (hl0 _) h, hN.out.is⟩
      clear hl0 hrg
      go_wp2
      go_ret
      exact ⟨next, rfl, hF.out, Sr⟩
    · intro x cc w1 cnt1 hwx hwc hlx hat hrg1 hlt hg1 hs1 hen
      have hm := entry_is htell hat
      obtain ⟨hc0, hc1⟩ := hts _ hm
      simp only at hc0 hc1
      have hrl := hrg.lt
      have S1 := Sr.touch (touch_grown hg1) (Nat.le_refl _)
      have htn2 := fun wx => turnOf cc hc0 (by omega) wx
      have hstep : ∀ next', tn < next' → next' ≤ next → (tn < cc / 32 → next' ≤ cc / 32) → (next' = next ∨ next' = cc / 32) → NextTo ts tn next' (fun z => left z && !z.sameKey (.int .i64 x)) := by
        intro next' h1 h2 h3 h4
        refine ⟨h1, Int.le_trans h2 hN.out.most, fun t ht hl htt => ?_, ?_⟩
        · rw [same_int] at hl
          by_cases e : t.1 = x
          · have e2 : t.2 = cc := by
              have a1 := dueAt_of htell.once ht
              have a2 := dueAt_of htell.once hm
              rw [e] at a1
              simp only at a2
              omega
            rw [e2] at htt ⊢
            exact h3 htt
          · exact Int.le_trans h2 (hN.out.none t ht (by simpa [e] using hl) htt)
        · rcases h4 with h4 | h4
          · rw [h4]; exact hN.out.is
          · exact .inr ⟨_, hm, h4.symm⟩
      have hab := hN.out.above
      replace hstep : Hid _ := hstep
      clear hs1 hm hat hlx
      by_cases hgt : tn < cc / 32
      · go_wp2_with (go_at_call 37; refine (htn2 _).mono ?_; rintro _ _ ⟨rfl, rfl⟩)
        have hS2 : Hid (NextTo ts tn (min next (cc / 32)) _) := hstep.out _ (by omega) (by omega) (by omega) (by omega)
        refine ⟨⟨_, cnt1, min next (cc / 32), rfl, hrg1, hS2, S1⟩, ?_⟩
        rw [hrg1.left_eq, hrg.left_eq]
        exact hlt
      · go_wp2_with (go_at_call 37; refine (htn2 _).mono ?_; rintro _ _ ⟨rfl, rfl⟩)
        have hS2 : Hid (NextTo ts tn next _) := hstep.out next hab (Int.le_refl _) (fun h => by omega) (.inl rfl)
        go_roundw
        case rel => exact ⟨_, cnt1, next, rfl, hrg1, hS2, S1⟩
        case measure => rw [hrg1.left_eq, hrg.left_eq]; exact hlt

/-- What goOff's loop has found among the first k entries. -/
structure OffTo (ts row : List (Int × Int)) (tick : Int) (k : Nat) (us : List (Int × Int)) (found : List Int) : Prop where
  once : found.Nodup
  is : ∀ x, x ∈ found ↔ x ∈ idsOf (row.take k) ∧ (x, tick) ∈ ts
  rest : us = ts.filter fun t => decide (t.1 ∉ found)

theorem OffTo.start (ts row : List (Int × Int)) (tick : Int) : OffTo ts row tick 0 ts [] := ⟨List.nodup_nil, fun x => by simp [idsOf], (List.filter_eq_self.2 (by simp)).symm⟩

theorem OffTo.hit {ts row us : List (Int × Int)} {tick : Int} {k : Nat} {found : List Int} (h : OffTo ts row tick k us found) (hk : k < row.length) (hn : (idsOf ts).Nodup) (ht : 0 < tick) (hd : dueAt us (tAt row k).1 = tick) : OffTo ts row tick (k + 1) (without us (tAt row k).1) (found ++ [(tAt row k).1]) := by
  have hin : ((tAt row k).1, tick) ∈ us := by
    by_cases e : (tAt row k).1 ∈ idsOf us
    · obtain ⟨t, ht', e'⟩ := List.mem_map.1 e
      have hnu : (idsOf us).Nodup := by
        rw [h.rest]
        exact List.Pairwise.sublist (List.Sublist.map _ List.filter_sublist) hn
      have := dueAt_of hnu ht'
      rw [e', hd] at this
      rw [← e', this]
      exact ht'
    · rw [dueAt_none e] at hd
      omega
  have hmem := hin
  rw [h.rest, List.mem_filter] at hmem
  obtain ⟨hts, hnf⟩ := hmem
  have hnf' : (tAt row k).1 ∉ found := by simpa using hnf
  refine ⟨?_, fun x => ?_, ?_⟩
  · rw [List.nodup_append]
    exact ⟨h.once, by simp, fun a ha b hb e => hnf' (by simp at hb; rw [← hb, ← e]; exact ha)⟩
  · rw [take_nextT row k hk, List.mem_append, List.mem_singleton, h.is]
    have e1 : idsOf (row.take k ++ [tAt row k]) = idsOf (row.take k) ++ [(tAt row k).1] := by simp [idsOf]
    rw [e1, List.mem_append, List.mem_singleton]
    constructor
    · rintro (⟨h1, h2⟩ | rfl)
      · exact ⟨.inl h1, h2⟩
      · exact ⟨.inr rfl, hts⟩
    · rintro ⟨h1 | h1, h2⟩
      · exact .inl ⟨h1, h2⟩
      · exact .inr h1
  · rw [h.rest]
    unfold without
    rw [List.filter_filter]
    congr 1
    funext t
    by_cases e : t.1 = (tAt row k).1 <;> simp [e]

theorem OffTo.miss {ts row us : List (Int × Int)} {tick : Int} {k : Nat} {found : List Int} (h : OffTo ts row tick k us found) (hk : k < row.length) (hn : (idsOf ts).Nodup) (hd : dueAt us (tAt row k).1 ≠ tick) : OffTo ts row tick (k + 1) us found := by
  refine ⟨h.once, fun x => ?_, h.rest⟩
  rw [h.is, take_nextT row k hk]
  have e1 : idsOf (row.take k ++ [tAt row k]) = idsOf (row.take k) ++ [(tAt row k).1] := by simp [idsOf]
  rw [e1, List.mem_append, List.mem_singleton]
  constructor
  · rintro ⟨h1, h2⟩
    exact ⟨.inl h1, h2⟩
  · rintro ⟨h1 | rfl, h2⟩
    · exact ⟨h1, h2⟩
    · refine ⟨?_, h2⟩
      have hin : (tAt row k).1 ∈ found := by
        apply Decidable.byContradiction
        intro hnf
        have hu : ((tAt row k).1, tick) ∈ us := by
          rw [h.rest, List.mem_filter]
          exact ⟨h2, by simpa using hnf⟩
        have hnu : (idsOf us).Nodup := by
          rw [h.rest]
          exact List.Pairwise.sublist (List.Sublist.map _ List.filter_sublist) hn
        exact hd (dueAt_of hnu hu)
      exact ((h.is _).1 hin).1

/-- The Ids that are due at a tick. -/
def idsAt (ts : List (Int × Int)) (tick : Int) : List Int := (ts.filter fun t => decide (t.2 = tick)).map Prod.fst

/-- Those that are due at another tick. -/
def notAt (ts : List (Int × Int)) (tick : Int) : List (Int × Int) := ts.filter fun t => decide (t.2 ≠ tick)

theorem mem_idsAt {ts : List (Int × Int)} {tick x : Int} : x ∈ idsAt ts tick ↔ (x, tick) ∈ ts := by
  unfold idsAt
  rw [List.mem_map]
  constructor
  · rintro ⟨t, ht, rfl⟩
    obtain ⟨h1, h2⟩ := List.mem_filter.1 ht
    have h3 : t.2 = tick := by simpa using h2
    rw [← h3]
    exact h1
  · intro h
    exact ⟨(x, tick), List.mem_filter.2 ⟨h, by simp⟩, rfl⟩

theorem rising_ids {ts : List (Int × Int)} (h : ts.Pairwise aheadT) (tick : Int) : (idsAt ts tick).Pairwise (· < ·) := by
  unfold idsAt
  rw [List.pairwise_map]
  have h1 := List.Pairwise.sublist (List.filter_sublist (p := fun t => decide (t.2 = tick))) h
  rw [List.pairwise_iff_forall_sublist] at h1 ⊢
  intro a b hab
  have h2 := h1 hab
  have ha : a ∈ ts.filter (fun t => decide (t.2 = tick)) := hab.subset (by simp)
  have hb : b ∈ ts.filter (fun t => decide (t.2 = tick)) := hab.subset (by simp)
  have ha2 := (List.mem_filter.1 ha).2
  have hb2 := (List.mem_filter.1 hb).2
  simp at ha2 hb2
  unfold aheadT at h2
  omega

theorem OffTo.done {ts row us : List (Int × Int)} {tick : Int} {found : List Int} (h : OffTo ts row tick row.length us found) (hr : ts.Pairwise aheadT) (hn : (idsOf ts).Nodup) (hp : ∀ x, (x, tick) ∈ ts → (x, tick) ∈ row) : us = notAt ts tick ∧ (found.mergeSort fun x y => decide (x ≤ y)) = idsAt ts tick := by
  have hf : ∀ x, x ∈ found ↔ (x, tick) ∈ ts := fun x => by
    rw [h.is, List.take_of_length_le (Nat.le_refl _)]
    exact ⟨fun h1 => h1.2, fun h1 => ⟨List.mem_map.2 ⟨_, hp x h1, rfl⟩, h1⟩⟩
  constructor
  · rw [h.rest]
    unfold notAt
    apply List.filter_congr
    intro t ht
    have : t.1 ∈ found ↔ t.2 = tick := by
      rw [hf]
      constructor
      · intro h1
        have a1 := dueAt_of hn ht
        have a2 := dueAt_of hn h1
        simp only at a2
        omega
      · intro h1
        rw [← h1]
        exact ht
    simp [this]
  · have hs := List.pairwise_mergeSort (le := fun x y : Int => decide (x ≤ y)) (by intro a b c h1 h2; simp at *; omega) (by intro a b; simp; omega) found
    have hpm := List.mergeSort_perm found fun x y => decide (x ≤ y)
    generalize (found.mergeSort fun x y => decide (x ≤ y)) = l at hs hpm
    have hl : l.Perm (idsAt ts tick) := by
      refine hpm.trans ((List.perm_ext_iff_of_nodup h.once ?_).2 fun x => by rw [hf, mem_idsAt])
      exact (rising_ids hr tick).imp fun h1 => by omega
    have hs' : l.Pairwise (· ≤ ·) := hs.imp fun h1 => by simpa using h1
    exact hl.eq_of_pairwise (fun a b _ _ h1 h2 => by omega) hs' ((rising_ids hr tick).imp fun h1 => by omega)
end Go.Proofs.Ytgdhdeadbmeejaa
