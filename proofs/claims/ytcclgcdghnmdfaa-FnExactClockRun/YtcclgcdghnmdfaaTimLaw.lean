/-
  Contracts of the laws' functions over clocks: copied, held against another, marked, the marks looked for; and over lists of numbers.
-/
import Derived.Test.YtcclgcdghnmdfaaTim
import Derived.Laws.ByValue
import Derived.Maps.RangeWalk
namespace Go.Proofs.Ytcclgcdghnmdfaa
open Go.ChangeShapes Go.WideShapes Go.ChangeAt Go.RowKit Go.Deep
set_option linter.unusedVariables false

theorem toTimer (x y : Int) (w : World) :
    Calls Try.prog 54 #[.agg #[.int .i64 x, .int .i64 y]] w fun e w' => e = .returned (.agg #[.int .i64 x, .int .i64 y]) ∧ Since w w' := by
  go_enter Try.func54, Try.ntmps54
  go_wp2
  refine bodyPost_ret (v := .agg #[.int .i64 x, .int .i64 y]) ?_ rfl ⟨rfl, ?_⟩
  · simp [results, go_sem]
  · repeat (first | exact Since.refl _ | refine since_put1 ?_ (by simp; try omega) _ _ | refine Since.alloc ?_ _)

set_option maxHeartbeats 1000000 in
theorem toTims (a : Option Addr) (n cap : Nat) (ts : List (Int × Int)) (hn : n ≤ 1048576) (w : World) (R : Rd shT w a n ts) :
    Calls Try.prog 36 #[.slice a n cap] w fun e w' => ∃ g, e = .returned (.slice (some ⟨g, 0, none⟩) n n) ∧ Held shT w' w.heap.size g n n ts ∧ Since w w' := by
  obtain ⟨ii, hi, hz0, hz1, hz2⟩ := info_parts info_T
  go_enter Try.func36, Try.ntmps36
  go_wp2_with (refine wpList_make_full _ rfl _ _ 27 rfl w.heap.size 56 ii (.agg #[.int .i64 0, .int .i64 0]) 2 Try.underlying27 hi hz0 hz1 .i64 .i64 _ _ n rfl rfl rfl rfl ?c1 ?c2 (Nat.le_refl _) ?_)
  case c1 => rw [hz2]; omega
  case c2 => unfold maxLen; omega
  intro w1 hown hgrow
  have T0 := made_tim hown
  have S0 : Since w w1 := ⟨hgrow.os, hgrow.tape, hgrow.output, hgrow.size, fun k hk => hgrow.block k hk (by simp)⟩
  generalize hg : w.heap.size = g at T0 hown ⊢
  go_wp2
  go_loopw [4] (fun i wr => ∃ (k : Nat), k ≤ n ∧ i = .int .i64 k ∧ Held shT wr g g n n (ts.take k ++ List.replicate (n - k) (0, 0)) ∧ Since w wr) (fun i _ => n - (intOf i).toNat)
  case atStart => exact ⟨0, by omega, rfl, by simpa using T0, S0⟩
  case round =>
    obtain ⟨k, hk, rfl, T, S⟩ := hrel
    have Rr := R.since S
    by_cases hlt : k < n
    · obtain ⟨x, rfl, hb, q0, q1⟩ := Rr.tim k hlt
      have hto := fun wx => toTimer (tAt ts k).1 (tAt ts k).2 wx
      generalize hO : tAt ts k = O at q0 q1 hto
      go_wp2_with (go_at_call 54; refine (hto _).mono ?_; rintro _ w2 ⟨rfl, g2⟩; have T2 := T.since g2; obtain ⟨d0, d1⟩ := T2.tim k hlt; have f0 := T2.free (k * 2); have f1 := T2.free (k * 2 + 1))
      have hT := T2.setT k hlt O.1 O.2
      have e := shT.take_set ts n k R.len hlt
      rw [show shT.get ts k = (O.1, O.2) from hO, show shT.z = (0, 0) from rfl] at e
      rw [e] at hT
      go_roundw
      case rel => exact ⟨k + 1, by omega, by go_num, hT, since_put1 (since_put1 (S.trans g2) (by omega) _ _) (by omega) _ _⟩
      case measure => simp [intOf]; omega
    · have hkn : k = n := by omega
      subst hkn
      go_wp2
      go_ret
      refine ⟨g, rfl, ?_, S⟩
      have e : ts.take k ++ List.replicate (k - k) ((0, 0) : Int × Int) = ts := by simp [List.take_of_length_le (Nat.le_of_eq R.len)]
      rw [e] at T
      exact T.raise (by omega)

theorem Blk.put {b : Nat} {x : World} {cs : Array Value} (k : Blk b x cs) (i : Nat) (v : Value) (hi : i < cs.size) : Blk b (x.setCell ⟨b, i, none⟩ v) (cs.setIfInBounds i v) := by
  refine ⟨by have := k.lt; simpa [World.setCell] using this, fun j => (World.frozen?_setCell _ _ _ _).trans (k.fz j), fun j => ?_⟩
  by_cases e : j = i
  · subst e
    have hc := k.cell j
    rw [Array.getElem?_eq_getElem hi] at hc
    rw [World.cell?_setCell_same' _ _ _ (by rw [hc]; rfl)]
    simp [hi]
  · rw [World.cell?_setCell_other x _ _ v (fun h => e (congrArg Addr.off h).symm), k.cell j]
    simp [Ne.symm e]

theorem toClock (now : Int) (a : Option Addr) (n cap : Nat) (ts : List (Int × Int)) (hn : n ≤ 1048576) (w : World) (R : Rd shT w a n ts) :
    Calls Try.prog 11 #[.agg #[.int .i64 now, .slice a n cap]] w fun e w' => ∃ g, e = .returned (.agg #[.int .i64 now, .slice (some ⟨g, 0, none⟩) n n]) ∧ Held shT w' w.heap.size g n n ts ∧ Since w w' := by
  have w0 : ∀ x, Since w x → Calls Try.prog 36 #[.slice a n cap] x fun e w' => ∃ g, e = .returned (.slice (some ⟨g, 0, none⟩) n n) ∧ Held shT w' x.heap.size g n n ts ∧ Since x w' := fun x hx => toTims a n cap ts hn x (R.since hx)
  clear R
  have G : Since w (((w.alloc (.cells #[.int .i64 now, .slice a n cap] 24)).alloc (.cells #[.int .i64 0, .slice none 0 0] 29)).alloc (.cells #[.int .i64 now, .slice none 0 0] 29)) := (((Since.refl _).alloc _).alloc _).alloc _
  have A := (Blk.new (w.alloc (.cells #[.int .i64 now, .slice a n cap] 24)) #[.int .i64 0, .slice none 0 0] 29).since ((Since.refl _).alloc (.cells #[.int .i64 now, .slice none 0 0] 29))
  have B := Blk.new ((w.alloc (.cells #[.int .i64 now, .slice a n cap] 24)).alloc (.cells #[.int .i64 0, .slice none 0 0] 29)) #[.int .i64 now, .slice none 0 0] 29
  simp only [World.size_alloc] at A B
  go_enter Try.func11, Try.ntmps11
  go_wp2_with (go_at_call 36; refine (w0 _ G).mono ?_; rintro _ w1 ⟨g, rfl, T, g1⟩; replace A := A.since g1; replace B := B.since g1; have cA0 := A.cell 0; have cA1 := A.cell 1; have cB0 := B.cell 0; have cB1 := B.cell 1; simp at cA0 cA1 cB0 cB1; have fA0 := A.fz 0; have fA1 := A.fz 1; have fB := B.fz 1)
  refine bodyPost_ret (v := .agg #[.int .i64 now, .slice (some ⟨g, 0, none⟩) n n]) ?_ rfl ⟨g, rfl, ?_, ?_⟩
  · simp [results, go_sem, cA0, cA1]
  · have hlow := T.low'
    simp at hlow
    exact (((T.other (by omega) _ _).other (by omega) _ _).other (by omega) _ _).raise (by omega)
  · exact since_put1 (since_put1 (since_put1 (G.trans g1) (by omega) _ _) (by omega) _ _) (by omega) _ _

theorem since_drews {w x : World} (h : Since w x) (n : Nat) : Since w (x.drewN n) := ⟨h.os, h.tape, h.output, h.size, h.block⟩

theorem eqTimer (x y : Int) (w : World) :
    Calls Try.prog 57 #[.agg #[.int .i64 x, .int .i64 y], .agg #[.int .i64 x, .int .i64 y]] w fun e w' => e = .returned (.bool true) ∧ Since w w' := by
  go_enter Try.func57, Try.ntmps57
  go_wp2
  go_ret
  exact ⟨rfl, ((Since.refl _).alloc _).alloc _⟩

set_option maxHeartbeats 1000000 in
theorem eqTims (a b : Option Addr) (n ca cb : Nat) (ts : List (Int × Int)) (hn : n ≤ 1048576) (w : World) (T : Rd shT w a n ts) (T' : Rd shT w b n ts) :
    Calls Try.prog 41 #[.slice a n ca, .slice b n cb] w fun e w' => e = .returned (.bool true) ∧ Since w w' := by
  go_enter Try.func41, Try.ntmps41
  go_wp2
  go_loopw [5] (fun i wr => ∃ (k : Nat), k ≤ n ∧ i = .int .i64 k ∧ Since w wr) (fun i _ => n - (intOf i).toNat)
  case atStart => exact ⟨0, by omega, rfl, Since.refl _⟩
  case round =>
    obtain ⟨k, hk, rfl, S⟩ := hrel
    by_cases hlt : k < n
    · obtain ⟨x, rfl, hb, q0, q1⟩ := (T.since S).tim k hlt
      obtain ⟨y, rfl, hb', r0, r1⟩ := (T'.since S).tim k hlt
      have hlt' : (k : Int) < (n : Int) := by omega
      generalize tAt ts k = O at q0 q1 r0 r1
      clear T T'
      have xb : (x.add (k * 2)).block = x.block := add_block _ _
      have yb : (y.add (k * 2)).block = y.block := add_block _ _
      go_wp2
      have c0 : ∀ z : Later wr, z.val.cell? (x.add (k * 2)) = some (.int .i64 O.1) := fun z => (Below.cell z.ok (p := x.add (k * 2)) (by rw [xb]; exact hb)).trans q0
      have c1 : ∀ z : Later wr, z.val.cell? ⟨(x.add (k * 2)).block, (x.add (k * 2)).off + 1, none⟩ = some (.int .i64 O.2) := fun z => (Below.cell z.ok (p := ⟨(x.add (k * 2)).block, (x.add (k * 2)).off + 1, none⟩) (by show (x.add (k * 2)).block < _; rw [xb]; exact hb)).trans q1
      have d0 : ∀ z : Later wr, z.val.cell? (y.add (k * 2)) = some (.int .i64 O.1) := fun z => (Below.cell z.ok (p := y.add (k * 2)) (by rw [yb]; exact hb')).trans r0
      have d1 : ∀ z : Later wr, z.val.cell? ⟨(y.add (k * 2)).block, (y.add (k * 2)).off + 1, none⟩ = some (.int .i64 O.2) := fun z => (Below.cell z.ok (p := ⟨(y.add (k * 2)).block, (y.add (k * 2)).off + 1, none⟩) (by show (y.add (k * 2)).block < _; rw [yb]; exact hb')).trans r1
      have he : ∀ z : Later wr, Calls Try.prog 57 #[.agg #[.int .i64 O.1, .int .i64 O.2], .agg #[.int .i64 O.1, .int .i64 O.2]] z.val fun e w'' => e = .returned (.bool true) ∧ ∃ z : Later wr, w'' = z.val := fun z => calm_call (eqTimer O.1 O.2 z.val)
      have hne : Nonempty (Later wr) := ⟨⟨wr, Since.refl _⟩⟩
      clear q0 q1 r0 r1 xb yb
      refine wp_region_calm (wb := wr) (by kernel_rfl) (by kernel_rfl) (Since.refl _) ?_
      repeat (go_big_quiet_step (exact he _))
      refine wpQuiet_nil ?_
      rintro _ ⟨y, rfl⟩
      go_wp2
      have S2 := S.trans y.ok
      go_roundw
      case rel => exact ⟨k + 1, by omega, by go_num, S2⟩
      case measure => simp [intOf]; omega
    · have hkn : k = n := by omega
      subst hkn
      clear T T'
      go_wp2
      go_ret
      exact ⟨rfl, S⟩

theorem eqClock (now : Int) (a b : Option Addr) (n ca cb : Nat) (ts : List (Int × Int)) (hn : n ≤ 1048576) (w : World) (R : Rd shT w a n ts) (Q : Rd shT w b n ts) :
    Calls Try.prog 13 #[.agg #[.int .i64 now, .slice a n ca], .agg #[.int .i64 now, .slice b n cb]] w fun e w' => e = .returned (.bool true) ∧ Since w w' := by
  have G : Since w ((w.alloc (.cells #[.int .i64 now, .slice a n ca] 29)).alloc (.cells #[.int .i64 now, .slice b n cb] 29)) := ((Since.refl _).alloc _).alloc _
  have he := eqTims a b n ca cb ts hn _ (R.since G) (Q.since G)
  clear R Q
  go_enter Try.func13, Try.ntmps13
  go_wp2_with (go_at_call 41; refine he.mono ?_; rintro _ w1 ⟨rfl, g1⟩)
  go_ret
  exact ⟨rfl, G.trans g1⟩

/-- Timer j is marked by k + 2 j and the number behind it. -/
def MarkedT (k : Int) (n : Nat) (ts : List (Int × Int)) : Prop := ∀ j, j < n → tAt ts j = (k + 2 * (j : Int), k + 2 * (j : Int) + 1)

theorem tAt_set_same (ts : List (Int × Int)) (i : Nat) (x : Int × Int) (h : i < ts.length) : tAt (ts.set i x) i = x := by
  simp [tAt, List.getD, h]

theorem tAt_set_other (ts : List (Int × Int)) (i j : Nat) (x : Int × Int) (h : i ≠ j) : tAt (ts.set i x) j = tAt ts j := by
  simp [tAt, List.getD, h]

theorem Own.cases {α : Type} {S : Shape α} {w : World} {B n : Nat} {v : Value} {xs : List α} (h : Own S w B v n xs) : (v = .slice none 0 0 ∧ n = 0 ∧ xs = []) ∨ ∃ g cap, v = .slice (some ⟨g, 0, none⟩) n cap ∧ Held S w B g n cap xs := by
  rcases h.2.2 with ⟨h1, h2⟩ | ⟨g, cap, cur, h1, _⟩
  · exact .inl ⟨h1, h2, List.eq_nil_of_length_eq_zero (h.1.trans h2)⟩
  · subst h1
    exact .inr ⟨g, cap, rfl, h⟩

set_option maxHeartbeats 1000000 in
theorem markTimsH (B g n cap : Nat) (ts : List (Int × Int)) (k : Int) (hk0 : 1 ≤ k) (hk1 : k + 2 * n ≤ 1073741824) (w : World) (T : Held shT w B g n cap ts) :
    Calls Try.prog 48 #[.slice (some ⟨g, 0, none⟩) n cap, .int .i64 k] w fun e w' => e = .returned (.int .i64 (k + 2 * n)) ∧ Touch g w w' ∧ ∃ ms, MarkedT k n ms ∧ Held shT w' B g n cap ms := by
  go_enter Try.func48, Try.ntmps48
  go_wp2
  go_loopw [1, 5] (fun q i wr => ∃ (j : Nat) (ms : List (Int × Int)), j ≤ n ∧ i = .int .i64 j ∧ q = .int .i64 (k + 2 * j) ∧ Hid (MarkedT k j ms) ∧ Held shT wr B g n cap ms ∧ Touch g w wr) (fun _ i _ => n - (intOf i).toNat)
  case atStart => exact ⟨0, ts, by omega, rfl, by simp, fun j hj => by omega, T, Touch.refl _ _⟩
  case round =>
    obtain ⟨j, ms, hj, rfl, rfl, hM, Tr, S⟩ := hrel
    by_cases hlt : j < n
    · have hlt' : (j : Int) < (n : Int) := by omega
      clear T
      obtain ⟨c0, c1⟩ := Tr.tim j hlt
      have f0 := Tr.free (j * 2)
      have f1 := Tr.free (j * 2 + 1)
      have hw1 : IntKind.i64.wrap (k + 2 * j + 1) = k + 2 * j + 1 := by rw [IntWalk.i64_left]; exact IntWalk.wrap64_in _ ⟨by omega, by omega⟩
      have hT := Tr.setT j hlt (k + 2 * j) (k + 2 * j + 1)
      go_wp2
      go_roundw
      case rel =>
        refine ⟨j + 1, ms.set j (k + 2 * j, k + 2 * j + 1), by omega, by go_num, ?_, ?_, hT, (S.put _ _).put _ _⟩
        · go_num
        · intro i hi
          by_cases e : i = j
          · subst e
            exact tAt_set_same _ _ _ (by rw [Tr.1]; exact hlt)
          · rw [tAt_set_other _ _ _ _ (Ne.symm e)]
            exact hM.out i (by omega)
      case measure => simp [intOf]; omega
    · have hjn : j = n := by omega
      subst hjn
      go_wp2
      go_ret
      exact ⟨rfl, S, ms, hM.out, Tr⟩

theorem markTims (B n : Nat) (v : Value) (ts : List (Int × Int)) (k : Int) (hk0 : 1 ≤ k) (hk1 : k + 2 * n ≤ 1073741824) (w : World) (T : Own shT w B v n ts) :
    Calls Try.prog 48 #[v, .int .i64 k] w fun e w' => e = .returned (.int .i64 (k + 2 * n)) ∧ w.grownBy w' v.ownBlock ∧ ∃ ms, MarkedT k n ms ∧ Own shT w' B v n ms := by
  rcases T.cases with ⟨rfl, rfl, rfl⟩ | ⟨g, cap, rfl, H⟩
  · go_enter Try.func48, Try.ntmps48
    go_wp2
    refine wp_loop_rounds 1 ?_
    rw [rounds_succ]
    go_wp2
    go_ret
    exact ⟨by simp, World.grownBy.refl _ _, [], fun j hj => by omega, T⟩
  · exact (markTimsH B g n cap ts k hk0 hk1 w H).mono fun e w' ⟨h1, h2, ms, h3, h4⟩ => ⟨h1, grown_of_touch h2, ms, h3, h4⟩

set_option maxHeartbeats 1000000 in
theorem heldTims (a : Option Addr) (n cap : Nat) (ms : List (Int × Int)) (k : Int) (hk0 : 1 ≤ k) (hk1 : k + 2 * n ≤ 1073741824) (w : World) (R : Rd shT w a n ms) (hM : MarkedT k n ms) :
    Calls Try.prog 49 #[.slice a n cap, .int .i64 k] w fun e w' => e = .returned (.int .i64 (k + 2 * n)) ∧ Since w w' := by
  go_enter Try.func49, Try.ntmps49
  go_wp2
  go_loopw [1, 5] (fun q i wr => ∃ (j : Nat), j ≤ n ∧ i = .int .i64 j ∧ q = .int .i64 (k + 2 * j) ∧ w = wr) (fun _ i _ => n - (intOf i).toNat)
  case atStart => exact ⟨0, by omega, rfl, by simp, rfl⟩
  case round =>
    obtain ⟨j, hj, rfl, rfl, rfl⟩ := hrel
    by_cases hlt : j < n
    · obtain ⟨x, rfl, hb, c0, c1⟩ := R.tim j hlt
      rw [hM j hlt] at c0 c1
      have hlt' : (j : Int) < (n : Int) := by omega
      have hw1 : IntKind.i64.wrap (k + 2 * j + 1) = k + 2 * j + 1 := by rw [IntWalk.i64_left]; exact IntWalk.wrap64_in _ ⟨by omega, by omega⟩
      clear R hM
      go_wp2
      go_roundw
      case rel => exact ⟨j + 1, by omega, by go_num, by go_num, by trivial⟩
      case measure => simp [intOf]; omega
    · have hjn : j = n := by omega
      subst hjn
      clear R
      go_wp2
      go_ret
      exact ⟨rfl, Since.refl _⟩

theorem markClock (now : Int) (B n : Nat) (a : Option Addr) (cap : Nat) (ts : List (Int × Int)) (k : Int) (hk0 : 1 ≤ k) (hk1 : k + 2 * n ≤ 1073741824) (w : World) (T : Own shT w B (.slice a n cap) n ts) :
    Calls Try.prog 16 #[.agg #[.int .i64 now, .slice a n cap], .int .i64 k] w fun e w' => e = .returned (.int .i64 (k + 2 * n)) ∧ w.grownBy w' (Value.slice a n cap).ownBlock ∧ ∃ ms, MarkedT k n ms ∧ Own shT w' B (.slice a n cap) n ms := by
  have G : Since w (w.alloc (.cells #[.int .i64 now, .slice a n cap] 29)) := (Since.refl _).alloc _
  have hm := markTims B n _ ts k hk0 hk1 _ (T.since G)
  clear T
  go_enter Try.func16, Try.ntmps16
  go_wp2_with (go_at_call 48; refine hm.mono ?_; rintro _ w1 ⟨rfl, t1, hx⟩; replace hx : Hid _ := hx; replace t1 : Hid _ := t1)
  go_ret
  exact ⟨rfl, ((grown_of_since G).but _).andThen t1.out (fun j hj => .inr hj), hx.out⟩

theorem heldClock (now : Int) (a : Option Addr) (n cap : Nat) (ms : List (Int × Int)) (k : Int) (hk0 : 1 ≤ k) (hk1 : k + 2 * n ≤ 1073741824) (w : World) (R : Rd shT w a n ms) (hM : MarkedT k n ms) :
    Calls Try.prog 17 #[.agg #[.int .i64 now, .slice a n cap], .int .i64 k] w fun e w' => e = .returned (.int .i64 (k + 2 * n)) ∧ Since w w' := by
  have G : Since w (w.alloc (.cells #[.int .i64 now, .slice a n cap] 29)) := (Since.refl _).alloc _
  have hh := heldTims a n cap ms k hk0 hk1 _ (R.since G) hM
  have hpos : ¬ k + 2 * (n : Int) < 0 := by omega
  clear R hM
  go_enter Try.func17, Try.ntmps17
  go_wp2_with (go_at_call 49; refine hh.mono ?_; rintro _ w1 ⟨rfl, g1⟩)
  go_ret
  exact ⟨rfl, G.trans g1⟩

set_option maxHeartbeats 1000000 in
theorem eqInts (a b : Option Addr) (n ca cb : Nat) (ns : List Int) (hn : n ≤ 1048576) (w : World) (T : Rd shI w a n ns) (T' : Rd shI w b n ns) :
    Calls Try.prog 22 #[.slice a n ca, .slice b n cb] w fun e w' => e = .returned (.bool true) ∧ Since w w' := by
  go_enter Try.func22, Try.ntmps22
  go_wp2
  go_loopw [5] (fun i wr => ∃ (k : Nat), k ≤ n ∧ i = .int .i64 k ∧ Since w wr) (fun i _ => n - (intOf i).toNat)
  case atStart => exact ⟨0, by omega, rfl, Since.refl _⟩
  case round =>
    obtain ⟨k, hk, rfl, S⟩ := hrel
    by_cases hlt : k < n
    · obtain ⟨x, rfl, hb, q0⟩ := (T.since S).num k hlt
      obtain ⟨y, rfl, hb', r0⟩ := (T'.since S).num k hlt
      have hlt' : (k : Int) < (n : Int) := by omega
      generalize iAt ns k = O at q0 r0
      clear T T'
      go_wp2
      go_quiet (fail)
      go_wp2
      go_roundw
      case rel => exact ⟨k + 1, by omega, by go_num, since_drews S _⟩
      case measure => simp [intOf]; omega
    · have hkn : k = n := by omega
      subst hkn
      clear T T'
      go_wp2
      go_ret
      exact ⟨rfl, S⟩

/-- Number j is k + j. -/
def MarkedI (k : Int) (n : Nat) (ns : List Int) : Prop := ∀ j, j < n → iAt ns j = k + (j : Int)

theorem iAt_set_same (ns : List Int) (i : Nat) (x : Int) (h : i < ns.length) : iAt (ns.set i x) i = x := by
  simp [iAt, List.getD, h]

theorem iAt_set_other (ns : List Int) (i j : Nat) (x : Int) (h : i ≠ j) : iAt (ns.set i x) j = iAt ns j := by
  simp [iAt, List.getD, h]

set_option maxHeartbeats 1000000 in
theorem markIntsH (B g n cap : Nat) (ns : List Int) (k : Int) (hk0 : 1 ≤ k) (hk1 : k + n ≤ 1073741824) (w : World) (T : Held shI w B g n cap ns) :
    Calls Try.prog 23 #[.slice (some ⟨g, 0, none⟩) n cap, .int .i64 k] w fun e w' => e = .returned (.int .i64 (k + n)) ∧ Touch g w w' ∧ ∃ ms, MarkedI k n ms ∧ Held shI w' B g n cap ms := by
  go_enter Try.func23, Try.ntmps23
  go_wp2
  go_loopw [1, 5] (fun q i wr => ∃ (j : Nat) (ms : List Int), j ≤ n ∧ i = .int .i64 j ∧ q = .int .i64 (k + j) ∧ Hid (MarkedI k j ms) ∧ Held shI wr B g n cap ms ∧ Touch g w wr) (fun _ i _ => n - (intOf i).toNat)
  case atStart => exact ⟨0, ns, by omega, rfl, by simp, fun j hj => by omega, T, Touch.refl _ _⟩
  case round =>
    obtain ⟨j, ms, hj, rfl, rfl, hM, Tr, S⟩ := hrel
    by_cases hlt : j < n
    · have hlt' : (j : Int) < (n : Int) := by omega
      clear T
      have c0 := Tr.num j hlt
      have f0 := Tr.free j
      have hT := Tr.setI j hlt (k + j)
      go_wp2
      go_roundw
      case rel =>
        refine ⟨j + 1, ms.set j (k + j), by omega, by go_num, ?_, ?_, hT, S.put _ _⟩
        · go_num
        · intro i hi
          by_cases e : i = j
          · subst e
            exact iAt_set_same _ _ _ (by rw [Tr.1]; exact hlt)
          · rw [iAt_set_other _ _ _ _ (Ne.symm e)]
            exact hM.out i (by omega)
      case measure => simp [intOf]; omega
    · have hjn : j = n := by omega
      subst hjn
      go_wp2
      go_ret
      exact ⟨rfl, S, ms, hM.out, Tr⟩

theorem markInts (B n : Nat) (v : Value) (ns : List Int) (k : Int) (hk0 : 1 ≤ k) (hk1 : k + n ≤ 1073741824) (w : World) (T : Own shI w B v n ns) :
    Calls Try.prog 23 #[v, .int .i64 k] w fun e w' => e = .returned (.int .i64 (k + n)) ∧ w.grownBy w' v.ownBlock ∧ ∃ ms, MarkedI k n ms ∧ Own shI w' B v n ms := by
  rcases T.cases with ⟨rfl, rfl, rfl⟩ | ⟨g, cap, rfl, H⟩
  · go_enter Try.func23, Try.ntmps23
    go_wp2
    refine wp_loop_rounds 1 ?_
    rw [rounds_succ]
    go_wp2
    go_ret
    exact ⟨by simp, World.grownBy.refl _ _, [], fun j hj => by omega, T⟩
  · exact (markIntsH B g n cap ns k hk0 hk1 w H).mono fun e w' ⟨h1, h2, ms, h3, h4⟩ => ⟨h1, grown_of_touch h2, ms, h3, h4⟩

set_option maxHeartbeats 1000000 in
theorem heldInts (a : Option Addr) (n cap : Nat) (ms : List Int) (k : Int) (hk0 : 1 ≤ k) (hk1 : k + n ≤ 1073741824) (w : World) (R : Rd shI w a n ms) (hM : MarkedI k n ms) :
    Calls Try.prog 24 #[.slice a n cap, .int .i64 k] w fun e w' => e = .returned (.int .i64 (k + n)) ∧ Since w w' := by
  go_enter Try.func24, Try.ntmps24
  go_wp2
  go_loopw [1, 5] (fun q i wr => ∃ (j : Nat), j ≤ n ∧ i = .int .i64 j ∧ q = .int .i64 (k + j) ∧ w = wr) (fun _ i _ => n - (intOf i).toNat)
  case atStart => exact ⟨0, by omega, rfl, by simp, rfl⟩
  case round =>
    obtain ⟨j, hj, rfl, rfl, rfl⟩ := hrel
    by_cases hlt : j < n
    · obtain ⟨x, rfl, hb, c0⟩ := R.num j hlt
      rw [hM j hlt] at c0
      have hlt' : (j : Int) < (n : Int) := by omega
      clear R hM
      go_wp2
      go_roundw
      case rel => exact ⟨j + 1, by omega, by go_num, by go_num, by trivial⟩
      case measure => simp [intOf]; omega
    · have hjn : j = n := by omega
      subst hjn
      clear R
      go_wp2
      go_ret
      exact ⟨rfl, Since.refl _⟩
end Go.Proofs.Ytcclgcdghnmdfaa
