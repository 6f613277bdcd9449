/-
  Contracts of the laws' functions over buffers of bytes that came: their lists of parts measured, copied, held against another, marked, the marks looked for.
-/
import Derived.Test.YtjilpicpfddbfabDoorTab
import Derived.Test.YtjilpicpfddbfabDoorCalm
import Derived.Test.YtjilpicpfddbfabDoorMark
import Derived.Laws.ByValue
import Derived.Maps.RangeWalk
namespace Go.Proofs.YtjilpicpfddbfabDoor
open Go.ChangeShapes Go.WideShapes Go.ChangeAt Go.RowKit Go.Deep
set_option linter.unusedVariables false
set_option maxRecDepth 10000

/-- A part: its place, its bytes. -/
def shP : Shape (Int × ByteArray) := ⟨107, 2, fun x => [.int .u32 x.1, .string x.2], fun _ => rfl, fun x v hv => by simp at hv; rcases hv with rfl | rfl <;> rfl, (0, ByteArray.empty), by decide⟩

/-- Part i. -/
def pAt (ps : List (Int × ByteArray)) (i : Nat) : Int × ByteArray := ps.getD i (0, ByteArray.empty)

theorem info_P : (Tryd.prog.info? 107).map (fun i => (i.zero, i.size, i.bytes)) = some (some (.agg #[.int .u32 0, .string ByteArray.empty]), 2, 24) := by kernel_rfl

theorem Rd.prt {w : World} {a : Option Addr} {n : Nat} {ps : List (Int × ByteArray)} (h : Rd shP w a n ps) (i : Nat) (hi : i < n) : ∃ x, a = some x ∧ x.block < w.heap.size ∧ w.cell? (x.add (i * 2)) = some (.int .u32 (pAt ps i).1) ∧ w.cell? ⟨(x.add (i * 2)).block, (x.add (i * 2)).off + 1, none⟩ = some (.string (pAt ps i).2) := by
  obtain ⟨x, e, hb, hc⟩ := h.cell i hi
  refine ⟨x, e, hb, hc 0 (by decide), ?_⟩
  rw [addr_step x (i * 2) 1 (by omega)]
  exact hc 1 (by decide)

theorem Held.prt {w : World} {B g n cap : Nat} {ps : List (Int × ByteArray)} (h : Held shP w B g n cap ps) (i : Nat) (hi : i < n) : w.cell? ⟨g, i * 2, none⟩ = some (.int .u32 (pAt ps i).1) ∧ w.cell? ⟨g, i * 2 + 1, none⟩ = some (.string (pAt ps i).2) := ⟨h.cell i hi 0 (by decide), h.cell i hi 1 (by decide)⟩

theorem Held.setP {w : World} {B g n cap : Nat} {ps : List (Int × ByteArray)} (h : Held shP w B g n cap ps) (i : Nat) (hi : i < n) (x : Int) (y : ByteArray) : Held shP ((w.setCell ⟨g, i * 2, none⟩ (.int .u32 x)).setCell ⟨g, i * 2 + 1, none⟩ (.string y)) B g n cap (ps.set i (x, y)) := h.set i hi (x, y)

theorem pcells_zero : ∀ n : Nat, shP.cells (List.replicate n (0, ByteArray.empty)) = (List.range (n * 2)).map (fun j => if j % 2 = 0 then .int .u32 0 else .string ByteArray.empty)
  | 0 => rfl
  | n + 1 => by
    rw [List.replicate_succ', show (n + 1) * 2 = n * 2 + 1 + 1 by omega, List.range_succ, List.range_succ, List.map_append, List.map_append, ← pcells_zero n, Shape.cells_append]
    simp [Shape.cells, shP]

theorem made_prt {w : World} {B g n : Nat} (h : w.ownsRow B 107 2 (.slice (some ⟨g, 0, none⟩) n n) n (madeCells #[.int .u32 0, .string ByteArray.empty] (n * 2)).toList) : Held shP w B g n n (List.replicate n (0, ByteArray.empty)) := by
  refine Held.of_owns (by simp) ?_ h
  rw [pcells_zero n]
  apply List.ext_getElem?
  intro j
  by_cases hj : j < n * 2
  · simp only [madeCells, Array.getElem?_toList]
    have hm : j % 2 = 0 ∨ j % 2 = 1 := by omega
    rcases hm with h | h <;> simp [hj, h]
  · simp [madeCells, hj]

/-- A buffer of bytes that came, as a value. -/
def inVal (q : Int) (d : ByteArray) (v : Value) (r : Int) : Value := .agg #[.int .u32 q, .string d, v, .int .i64 r]

theorem eqPart (x : Int) (y : ByteArray) (w : World) :
    Calls Tryd.prog 65 #[.agg #[.int .u32 x, .string y], .agg #[.int .u32 x, .string y]] w fun e w' => e = .returned (.bool true) ∧ Since w w' := by
  go_enter Tryd.func65, Tryd.ntmps65
  go_wp2
  go_ret
  exact ⟨rfl, ((Since.refl _).alloc _).alloc _⟩

set_option maxHeartbeats 1000000 in
theorem eqParts (a b : Option Addr) (n ca cb : Nat) (ps : List (Int × ByteArray)) (hn : n ≤ 1048576) (w : World) (T : Rd shP w a n ps) (T' : Rd shP w b n ps) :
    Calls Tryd.prog 54 #[.slice a n ca, .slice b n cb] w fun e w' => e = .returned (.bool true) ∧ Since w w' := by
  go_enter Tryd.func54, Tryd.ntmps54
  go_wp2
  go_loopw [5] (fun i wr => ∃ (k : Nat), k ≤ n ∧ i = .int .i64 k ∧ Since w wr) (fun i _ => n - (intOf i).toNat)
  case atStart => exact ⟨0, by omega, rfl, Since.refl _⟩
  case round =>
    obtain ⟨k, hk, rfl, S⟩ := hrel
    by_cases hlt : k < n
    · obtain ⟨x, rfl, hb, q0, q1⟩ := (T.since S).prt k hlt
      obtain ⟨y, rfl, hb', r0, r1⟩ := (T'.since S).prt k hlt
      have hlt' : (k : Int) < (n : Int) := by omega
      generalize pAt ps k = O at q0 q1 r0 r1
      clear T T'
      have xb : (x.add (k * 2)).block = x.block := add_block _ _
      have yb : (y.add (k * 2)).block = y.block := add_block _ _
      go_wp2
      have c0 : ∀ z : Later wr, z.val.cell? (x.add (k * 2)) = some (.int .u32 O.1) := fun z => (Below.cell z.ok (p := x.add (k * 2)) (by rw [xb]; exact hb)).trans q0
      have c1 : ∀ z : Later wr, z.val.cell? ⟨(x.add (k * 2)).block, (x.add (k * 2)).off + 1, none⟩ = some (.string O.2) := fun z => (Below.cell z.ok (p := ⟨(x.add (k * 2)).block, (x.add (k * 2)).off + 1, none⟩) (by show (x.add (k * 2)).block < _; rw [xb]; exact hb)).trans q1
      have d0 : ∀ z : Later wr, z.val.cell? (y.add (k * 2)) = some (.int .u32 O.1) := fun z => (Below.cell z.ok (p := y.add (k * 2)) (by rw [yb]; exact hb')).trans r0
      have d1 : ∀ z : Later wr, z.val.cell? ⟨(y.add (k * 2)).block, (y.add (k * 2)).off + 1, none⟩ = some (.string O.2) := fun z => (Below.cell z.ok (p := ⟨(y.add (k * 2)).block, (y.add (k * 2)).off + 1, none⟩) (by show (y.add (k * 2)).block < _; rw [yb]; exact hb')).trans r1
      have he : ∀ z : Later wr, Calls Tryd.prog 65 #[.agg #[.int .u32 O.1, .string O.2], .agg #[.int .u32 O.1, .string O.2]] z.val fun e w'' => e = .returned (.bool true) ∧ ∃ z : Later wr, w'' = z.val := fun z => calm_call (eqPart O.1 O.2 z.val)
      have hne : Nonempty (Later wr) := ⟨⟨wr, Since.refl _⟩⟩
      clear q0 q1 r0 r1 xb yb
      refine wp_region_calm (wb := wr) (by kernel_rfl) (by kernel_rfl) (Since.refl _) ?_
      repeat (go_big_quiet_step (exact he _))
      refine wpQuiet_nil ?_
      rintro _ ⟨y, rfl⟩
      go_wp2
      have S2 := S.trans y.ok
      go_roundw
      case rel => exact ⟨k + 1, by omega, by go_num, S2⟩
      case measure => simp [intOf]; omega
    · have hkn : k = n := by omega
      subst hkn
      clear T T'
      go_wp2
      go_ret
      exact ⟨rfl, S⟩

theorem eqIn (q : Int) (d : ByteArray) (r : Int) (a b : Option Addr) (n ca cb : Nat) (ps : List (Int × ByteArray)) (hn : n ≤ 1048576) (w : World) (R : Rd shP w a n ps) (Q : Rd shP w b n ps) :
    Calls Tryd.prog 31 #[inVal q d (.slice a n ca) r, inVal q d (.slice b n cb) r] w fun e w' => e = .returned (.bool true) ∧ Since w w' := by
  unfold inVal
  have G : Since w ((w.alloc (.cells #[.int .u32 q, .string d, .slice a n ca, .int .i64 r] 40)).alloc (.cells #[.int .u32 q, .string d, .slice b n cb, .int .i64 r] 40)) := ((Since.refl _).alloc _).alloc _
  have A := (Blk.new w #[.int .u32 q, .string d, .slice a n ca, .int .i64 r] 40).since ((Since.refl _).alloc (.cells #[.int .u32 q, .string d, .slice b n cb, .int .i64 r] 40))
  have B := Blk.new (w.alloc (.cells #[.int .u32 q, .string d, .slice a n ca, .int .i64 r] 40)) #[.int .u32 q, .string d, .slice b n cb, .int .i64 r] 40
  simp only [World.size_alloc] at A B
  have he := eqParts a b n ca cb ps hn _ (R.since G) (Q.since G)
  clear R Q
  go_enter Tryd.func31, Tryd.ntmps31
  go_wp2_with (go_at_call 54; refine he.mono ?_; rintro _ w1 ⟨rfl, g1⟩; replace A := A.since g1; replace B := B.since g1; have cA3 := A.cell 3; have cB3 := B.cell 3; simp at cA3 cB3)
  go_ret
  exact ⟨rfl, G.trans g1⟩

/-- Part j is marked by k + 2 j and the number behind it. -/
def MarkedP (k : Int) (n : Nat) (ps : List (Int × ByteArray)) : Prop := ∀ j, j < n → pAt ps j = (k + 2 * (j : Int), markOf (k + 2 * (j : Int) + 1))

theorem pAt_set_same (ps : List (Int × ByteArray)) (i : Nat) (x : Int × ByteArray) (h : i < ps.length) : pAt (ps.set i x) i = x := by
  simp [pAt, List.getD, h]

theorem pAt_set_other (ps : List (Int × ByteArray)) (i j : Nat) (x : Int × ByteArray) (h : i ≠ j) : pAt (ps.set i x) j = pAt ps j := by
  simp [pAt, List.getD, h]

set_option maxHeartbeats 1000000 in
theorem markPartsH (B g n cap : Nat) (ps : List (Int × ByteArray)) (k : Int) (hk0 : 1 ≤ k) (hk1 : k + 2 * n ≤ 1073741824) (w : World) (T : Held shP w B g n cap ps) :
    Calls Tryd.prog 55 #[.slice (some ⟨g, 0, none⟩) n cap, .int .i64 k] w fun e w' => e = .returned (.int .i64 (k + 2 * n)) ∧ Touch g w w' ∧ ∃ ms, MarkedP k n ms ∧ Held shP w' B g n cap ms := by
  go_enter Tryd.func55, Tryd.ntmps55
  go_wp2
  go_loopw [1, 5] (fun q i wr => ∃ (j : Nat) (ms : List (Int × ByteArray)), j ≤ n ∧ i = .int .i64 j ∧ q = .int .i64 (k + 2 * j) ∧ Hid (MarkedP k j ms) ∧ Held shP wr B g n cap ms ∧ Touch g w wr) (fun _ i _ => n - (intOf i).toNat)
  case atStart => exact ⟨0, ps, by omega, rfl, by simp, fun j hj => by omega, T, Touch.refl _ _⟩
  case round =>
    obtain ⟨j, ms, hj, rfl, rfl, hM, Tr, S⟩ := hrel
    by_cases hlt : j < n
    · have hm := fun wx => markText (k + 2 * j + 1) (by omega) (by omega) wx
      have hlt' : (j : Int) < (n : Int) := by omega
      clear T
      obtain ⟨c0, c1⟩ := Tr.prt j hlt
      have f0 := Tr.free (j * 2)
      have f1 := Tr.free (j * 2 + 1)
      have hw1 : IntKind.i64.wrap (k + 2 * j + 1) = k + 2 * j + 1 := by rw [IntWalk.i64_left]; exact IntWalk.wrap64_in _ ⟨by omega, by omega⟩
      have hw2 : IntKind.u32.wrap (k + 2 * j) = k + 2 * j := by simp [IntKind.wrap, IntKind.bits, IntKind.signed]; omega
      have T1 := Tr.put1 j hlt 0 (by decide) (.int .u32 (k + 2 * j)) (k + 2 * j, (pAt ms j).2) rfl
      rw [show j * shP.k + 0 = j * 2 from rfl] at T1
      have hl1 : j < (ms.set j (k + 2 * j, (pAt ms j).2)).length := by rw [List.length_set, Tr.1]; exact hlt
      go_wp2_with (go_at_call 66; refine (hm _).mono ?_; rintro _ w1 ⟨rfl, g1⟩; have T2 := T1.since g1; obtain ⟨d0, d1⟩ := T2.prt j hlt; have e1 := T2.free (j * 2 + 1))
      have T3 := T2.put1 j hlt 1 (by decide) (.string (markOf (k + 2 * j + 1))) (k + 2 * j, markOf (k + 2 * j + 1)) (by rw [show shP.get (ms.set j (k + 2 * j, (pAt ms j).2)) j = (k + 2 * j, (pAt ms j).2) from pAt_set_same ms j _ (by rw [Tr.1]; exact hlt)]; rfl)
      rw [show j * shP.k + 1 = j * 2 + 1 from rfl, List.set_set] at T3
      have hw3 : IntKind.i64.wrap (k + 2 * j + 1 + 1) = k + 2 * j + 1 + 1 := by rw [IntWalk.i64_left]; exact IntWalk.wrap64_in _ ⟨by omega, by omega⟩
      go_roundw
      case rel =>
        refine ⟨j + 1, _, by omega, by go_num, ?_, ?_, T3, ((S.put _ _).trans (Touch.of_since g1 g)).put _ _⟩
        · go_num
        · intro i hi
          by_cases e : i = j
          · subst e
            exact pAt_set_same _ _ _ (by rw [Tr.1]; exact hlt)
          · rw [pAt_set_other _ _ _ _ (Ne.symm e)]
            exact hM.out i (by omega)
      case measure => simp [intOf]; omega
    · have hjn : j = n := by omega
      subst hjn
      go_wp2
      go_ret
      exact ⟨rfl, S, ms, hM.out, Tr⟩

theorem markParts (B n : Nat) (v : Value) (ps : List (Int × ByteArray)) (k : Int) (hk0 : 1 ≤ k) (hk1 : k + 2 * n ≤ 1073741824) (w : World) (T : Own shP w B v n ps) :
    Calls Tryd.prog 55 #[v, .int .i64 k] w fun e w' => e = .returned (.int .i64 (k + 2 * n)) ∧ w.grownBy w' v.ownBlock ∧ ∃ ms, MarkedP k n ms ∧ Own shP w' B v n ms := by
  rcases T.cases with ⟨rfl, rfl, rfl⟩ | ⟨g, cap, rfl, H⟩
  · go_enter Tryd.func55, Tryd.ntmps55
    go_wp2
    refine wp_loop_rounds 1 ?_
    rw [rounds_succ]
    go_wp2
    go_ret
    exact ⟨by simp, World.grownBy.refl _ _, [], fun j hj => by omega, T⟩
  · exact (markPartsH B g n cap ps k hk0 hk1 w H).mono fun e w' ⟨h1, h2, ms, h3, h4⟩ => ⟨h1, grown_of_touch h2, ms, h3, h4⟩

set_option maxHeartbeats 1000000 in
theorem heldParts (a : Option Addr) (n cap : Nat) (ms : List (Int × ByteArray)) (k : Int) (hk0 : 1 ≤ k) (hk1 : k + 2 * n ≤ 1073741824) (w : World) (R : Rd shP w a n ms) (hM : MarkedP k n ms) :
    Calls Tryd.prog 56 #[.slice a n cap, .int .i64 k] w fun e w' => e = .returned (.int .i64 (k + 2 * n)) ∧ Since w w' := by
  go_enter Tryd.func56, Tryd.ntmps56
  go_wp2
  go_loopw [1, 5] (fun q i wr => ∃ (j : Nat), j ≤ n ∧ i = .int .i64 j ∧ q = .int .i64 (k + 2 * j) ∧ Since w wr) (fun _ i _ => n - (intOf i).toNat)
  case atStart => exact ⟨0, by omega, rfl, by simp, Since.refl _⟩
  case round =>
    obtain ⟨j, hj, rfl, rfl, S⟩ := hrel
    by_cases hlt : j < n
    · obtain ⟨x, rfl, hb, c0, c1⟩ := (R.since S).prt j hlt
      rw [hM j hlt] at c0 c1
      have hm0 := fun wx => markText (k + 2 * j + 1) (by omega) (by omega) wx
      have hlt' : (j : Int) < (n : Int) := by omega
      have hw1 : IntKind.i64.wrap (k + 2 * j + 1) = k + 2 * j + 1 := by rw [IntWalk.i64_left]; exact IntWalk.wrap64_in _ ⟨by omega, by omega⟩
      have hw3 : IntKind.i64.wrap (k + 2 * j + 1 + 1) = k + 2 * j + 1 + 1 := by rw [IntWalk.i64_left]; exact IntWalk.wrap64_in _ ⟨by omega, by omega⟩
      have hw2 : IntKind.u32.wrap (k + 2 * j) = k + 2 * j := by simp [IntKind.wrap, IntKind.bits, IntKind.signed]; omega
      have xb : (x.add (j * 2)).block = x.block := add_block _ _
      generalize markOf (k + 2 * j + 1) = t at c1 hm0
      clear R hM
      go_wp2
      have hc1 : ∀ y : Later wr, y.val.cell? ⟨(x.add (j * 2)).block, (x.add (j * 2)).off + 1, none⟩ = some (.string t) := fun y => (Below.cell y.ok (p := ⟨(x.add (j * 2)).block, (x.add (j * 2)).off + 1, none⟩) (by show (x.add (j * 2)).block < _; rw [xb]; exact hb)).trans c1
      have hm : ∀ y : Later wr, Calls Tryd.prog 66 #[.int .i64 (k + 2 * j + 1)] y.val fun e w'' => e = .returned (.string t) ∧ ∃ z : Later wr, w'' = z.val := fun y => calm_call (hm0 y.val)
      have hne : Nonempty (Later wr) := ⟨⟨wr, Since.refl _⟩⟩
      clear hm0 c0 c1 xb
      refine wp_region_calm (wb := wr) (by kernel_rfl) (by kernel_rfl) (Since.refl _) ?_
      repeat (go_big_quiet_step (exact hm _))
      refine wpQuiet_nil ?_
      rintro _ ⟨y, rfl⟩
      go_wp2
      have S2 := S.trans y.ok
      go_roundw
      case rel => exact ⟨j + 1, by omega, by go_num, by go_num, S2⟩
      case measure => simp [intOf]; omega
    · have hjn : j = n := by omega
      subst hjn
      clear R
      go_wp2
      go_ret
      exact ⟨rfl, S⟩

theorem markIn (q : Int) (d : ByteArray) (r : Int) (B n : Nat) (v : Value) (ps : List (Int × ByteArray)) (k : Int) (hk0 : 1 ≤ k) (hk1 : k + 2 * n ≤ 1073741824) (w : World) (T : Own shP w B v n ps) :
    Calls Tryd.prog 34 #[inVal q d v r, .int .i64 k] w fun e w' => e = .returned (.int .i64 (k + 2 * n)) ∧ w.grownBy w' v.ownBlock ∧ ∃ ms, MarkedP k n ms ∧ Own shP w' B v n ms := by
  obtain ⟨a, cap, rfl, _⟩ := T.form
  unfold inVal
  have G : Since w (w.alloc (.cells #[.int .u32 q, .string d, .slice a n cap, .int .i64 r] 40)) := (Since.refl _).alloc _
  have hm := markParts B n _ ps k hk0 hk1 _ (T.since G)
  clear T
  go_enter Tryd.func34, Tryd.ntmps34
  go_wp2_with (go_at_call 55; refine hm.mono ?_; rintro _ w1 ⟨rfl, t1, hx⟩; replace hx : Hid _ := hx; replace t1 : Hid _ := t1)
  go_ret
  exact ⟨rfl, ((grown_of_since G).but _).andThen t1.out (fun j hj => .inr hj), hx.out⟩

theorem heldIn (q : Int) (d : ByteArray) (r : Int) (a : Option Addr) (n cap : Nat) (ms : List (Int × ByteArray)) (k : Int) (hk0 : 1 ≤ k) (hk1 : k + 2 * n ≤ 1073741824) (w : World) (R : Rd shP w a n ms) (hM : MarkedP k n ms) :
    Calls Tryd.prog 35 #[inVal q d (.slice a n cap) r, .int .i64 k] w fun e w' => e = .returned (.int .i64 (k + 2 * n)) ∧ Since w w' := by
  unfold inVal
  have G : Since w (w.alloc (.cells #[.int .u32 q, .string d, .slice a n cap, .int .i64 r] 40)) := (Since.refl _).alloc _
  have hh := heldParts a n cap ms k hk0 hk1 _ (R.since G) hM
  have hpos : ¬ k + 2 * (n : Int) < 0 := by omega
  clear R hM
  go_enter Tryd.func35, Tryd.ntmps35
  go_wp2_with (go_at_call 56; refine hh.mono ?_; rintro _ w1 ⟨rfl, g1⟩)
  go_ret
  exact ⟨rfl, G.trans g1⟩
end Go.Proofs.YtjilpicpfddbfabDoor
