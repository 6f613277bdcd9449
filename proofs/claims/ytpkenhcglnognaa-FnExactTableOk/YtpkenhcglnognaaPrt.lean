/-
  Contracts of the laws' functions over buffers of bytes that came: their lists of parts measured, copied, held against another, marked, the marks looked for.
-/
import Derived.Test.YtpkenhcglnognaaM1
import Derived.Test.YtpkenhcglnognaaCalm
import Derived.Test.YtpkenhcglnognaaOnes
import Derived.Laws.IdiomStrings
import Derived.Laws.BytesArg
import Derived.Lib.LazyBuf
import Derived.WalkLawsBesides
import Derived.Laws.Concat
import Derived.LoopTactic
import Derived.Laws.ByValue
import Derived.Maps.RangeWalk
namespace Go.Proofs.Ytpkenhcglnognaa
open Go.ChangeShapes Go.WideShapes Go.ChangeAt Go.RowKit Go.Deep
set_option linter.unusedVariables false
set_option maxRecDepth 10000

/-- A part: its place, its bytes. -/
def shP : Shape (Int × ByteArray) := ⟨95, 2, fun x => [.int .u32 x.1, .string x.2], fun _ => rfl, fun x v hv => by simp at hv; rcases hv with rfl | rfl <;> rfl, (0, ByteArray.empty), by decide⟩

/-- Part i. -/
def pAt (ps : List (Int × ByteArray)) (i : Nat) : Int × ByteArray := ps.getD i (0, ByteArray.empty)

theorem info_P : (Try.prog.info? 95).map (fun i => (i.zero, i.size, i.bytes)) = some (some (.agg #[.int .u32 0, .string ByteArray.empty]), 2, 24) := by kernel_rfl

theorem Rd.prt {w : World} {a : Option Addr} {n : Nat} {ps : List (Int × ByteArray)} (h : Rd shP w a n ps) (i : Nat) (hi : i < n) : ∃ x, a = some x ∧ x.block < w.heap.size ∧ w.cell? (x.add (i * 2)) = some (.int .u32 (pAt ps i).1) ∧ w.cell? ⟨(x.add (i * 2)).block, (x.add (i * 2)).off + 1, none⟩ = some (.string (pAt ps i).2) := by
  obtain ⟨x, e, hb, hc⟩ := h.cell i hi
  refine ⟨x, e, hb, hc 0 (by decide), ?_⟩
  rw [addr_step x (i * 2) 1 (by omega)]
  exact hc 1 (by decide)

theorem Held.prt {w : World} {B g n cap : Nat} {ps : List (Int × ByteArray)} (h : Held shP w B g n cap ps) (i : Nat) (hi : i < n) : w.cell? ⟨g, i * 2, none⟩ = some (.int .u32 (pAt ps i).1) ∧ w.cell? ⟨g, i * 2 + 1, none⟩ = some (.string (pAt ps i).2) := ⟨h.cell i hi 0 (by decide), h.cell i hi 1 (by decide)⟩

theorem Held.setP {w : World} {B g n cap : Nat} {ps : List (Int × ByteArray)} (h : Held shP w B g n cap ps) (i : Nat) (hi : i < n) (x : Int) (y : ByteArray) : Held shP ((w.setCell ⟨g, i * 2, none⟩ (.int .u32 x)).setCell ⟨g, i * 2 + 1, none⟩ (.string y)) B g n cap (ps.set i (x, y)) := h.set i hi (x, y)

theorem pcells_zero : ∀ n : Nat, shP.cells (List.replicate n (0, ByteArray.empty)) = (List.range (n * 2)).map (fun j => if j % 2 = 0 then .int .u32 0 else .string ByteArray.empty)
  | 0 => rfl
  | n + 1 => by
    rw [List.replicate_succ', show (n + 1) * 2 = n * 2 + 1 + 1 by omega, List.range_succ, List.range_succ, List.map_append, List.map_append, ← pcells_zero n, Shape.cells_append]
    simp [Shape.cells, shP]

theorem made_prt {w : World} {B g n : Nat} (h : w.ownsRow B 95 2 (.slice (some ⟨g, 0, none⟩) n n) n (madeCells #[.int .u32 0, .string ByteArray.empty] (n * 2)).toList) : Held shP w B g n n (List.replicate n (0, ByteArray.empty)) := by
  refine Held.of_owns (by simp) ?_ h
  rw [pcells_zero n]
  apply List.ext_getElem?
  intro j
  by_cases hj : j < n * 2
  · simp only [madeCells, Array.getElem?_toList]
    have hm : j % 2 = 0 ∨ j % 2 = 1 := by omega
    rcases hm with h | h <;> simp [hj, h]
  · simp [madeCells, hj]

theorem szPart (q : Int) (d : ByteArray) (left : Int) (h0 : 0 ≤ left) (hl : left ≤ 1048576) (hd : d.size ≤ maxLen) (w : World) :
    Calls Try.prog 78 #[.agg #[.int .u32 q, .string d], .int .i64 left] w fun e w' => (∃ r : Int, e = .returned (.int .i64 r) ∧ r ≤ left ∧ (0 ≤ r → (d.size : Int) ≤ left)) ∧ Since w w' := by
  unfold maxLen at hd
  have hsub : IntKind.i64.wrap (left - (d.size : Int)) = left - (d.size : Int) := by rw [IntWalk.i64_left]; exact IntWalk.wrap64_in _ ⟨by omega, by omega⟩
  by_cases h : left - (d.size : Int) < 0
  · go_enter Try.func78, Try.ntmps78
    go_wp2
    go_ret
    exact ⟨⟨-1, rfl, by omega, by omega⟩, (Since.refl _).alloc _⟩
  · go_enter Try.func78, Try.ntmps78
    go_wp2
    go_ret
    exact ⟨⟨_, rfl, by omega, by omega⟩, (Since.refl _).alloc _⟩

set_option maxHeartbeats 1000000 in
theorem szParts (a : Option Addr) (n cap : Nat) (ps : List (Int × ByteArray)) (left : Int) (h0 : 0 ≤ left) (hl : left ≤ 1048576) (w : World) (R : Rd shP w a n ps) (hsm : ∀ i, i < n → (pAt ps i).2.size ≤ maxLen) :
    Calls Try.prog 70 #[.slice a n cap, .int .i64 left] w fun e w' => (∃ r : Int, e = .returned (.int .i64 r) ∧ r ≤ left ∧ (0 ≤ r → (n : Int) ≤ left ∧ ∀ i, i < n → ((pAt ps i).2.size : Int) ≤ left)) ∧ Since w w' := by
  have hmost := R.most
  unfold maxLen at hmost
  have hsub : IntKind.i64.wrap (left - (n : Int)) = left - (n : Int) := by rw [IntWalk.i64_left]; exact IntWalk.wrap64_in _ ⟨by omega, by omega⟩
  by_cases hn : (n : Int) ≤ left
  · have hn' : ¬ left - (n : Int) < 0 := by omega
    go_enter Try.func70, Try.ntmps70
    go_wp2
    go_loopw [1, 5] (fun l i wr => ∃ (k : Nat) (q : Int), k ≤ n ∧ i = .int .i64 k ∧ l = .int .i64 q ∧ 0 ≤ q ∧ q ≤ left ∧ Hid (∀ i, i < k → ((pAt ps i).2.size : Int) ≤ left) ∧ Since w wr) (fun _ i _ => n - (intOf i).toNat)
    case atStart => exact ⟨0, _, by omega, rfl, rfl, by omega, by omega, fun i hi => by omega, Since.refl _⟩
    case round =>
      obtain ⟨k, q, hk, rfl, rfl, hq0, hq1, hall, S⟩ := hrel
      by_cases hlt : k < n
      · obtain ⟨x, rfl, hb, c0, c1⟩ := (R.since S).prt k hlt
        have hs := fun wx => szPart (pAt ps k).1 (pAt ps k).2 q hq0 (by omega) (hsm k hlt) wx
        generalize hz : pAt ps k = t at c0 c1 hs
        clear R hsm
        go_wp2_with (go_at_call 78; refine (hs _).mono ?_; rintro _ w1 ⟨⟨r, rfl, hr1, hr2⟩, g1⟩; replace hr2 : Hid _ := hr2)
        · go_ret
          exact ⟨⟨-1, rfl, by omega, by omega⟩, S.trans g1⟩
        · go_roundw
          case rel =>
            refine ⟨k + 1, r, by omega, by go_num, rfl, by omega, by omega, fun i hi => ?_, S.trans g1⟩
            by_cases e : i = k
            · subst e
              rw [hz]
              have := hr2.out (by omega)
              omega
            · exact hall.out i (by omega)
          case measure => simp [intOf]; omega
      · have hkn : k = n := by omega
        subst hkn
        clear R hsm
        go_wp2
        go_ret
        exact ⟨⟨q, rfl, by omega, fun _ => ⟨by omega, hall.out⟩⟩, S⟩
  · have hn' : left - (n : Int) < 0 := by omega
    clear R hsm
    go_enter Try.func70, Try.ntmps70
    go_wp2
    go_ret
    exact ⟨⟨-1, rfl, by omega, by omega⟩, Since.refl _⟩

/-- A buffer of bytes that came, as a value. -/
def inVal (q : Int) (d : ByteArray) (v : Value) (r : Int) : Value := .agg #[.int .u32 q, .string d, v, .int .i64 r]

theorem toPart (x : Int) (y : ByteArray) (w : World) :
    Calls Try.prog 79 #[.agg #[.int .u32 x, .string y]] w fun e w' => e = .returned (.agg #[.int .u32 x, .string y]) ∧ Since w w' := by
  go_enter Try.func79, Try.ntmps79
  go_wp2
  refine bodyPost_ret (v := .agg #[.int .u32 x, .string y]) ?_ rfl ⟨rfl, ?_⟩
  · simp [results, go_sem]
  · repeat (first | exact Since.refl _ | refine since_put1 ?_ (by simp; try omega) _ _ | refine Since.alloc ?_ _)

set_option maxHeartbeats 1000000 in
theorem toParts (a : Option Addr) (n cap : Nat) (ps : List (Int × ByteArray)) (hn : n ≤ 1048576) (w : World) (R : Rd shP w a n ps) :
    Calls Try.prog 71 #[.slice a n cap] w fun e w' => ∃ g, e = .returned (.slice (some ⟨g, 0, none⟩) n n) ∧ Held shP w' w.heap.size g n n ps ∧ Since w w' := by
  obtain ⟨ii, hi, hz0, hz1, hz2⟩ := info_parts info_P
  go_enter Try.func71, Try.ntmps71
  go_wp2_with (refine wpList_make_full _ rfl _ _ 45 rfl w.heap.size 95 ii (.agg #[.int .u32 0, .string ByteArray.empty]) 2 Try.underlying45 hi hz0 hz1 .i64 .i64 _ _ n rfl rfl rfl rfl ?c1 ?c2 (Nat.le_refl _) ?_)
  case c1 => rw [hz2]; omega
  case c2 => unfold maxLen; omega
  intro w1 hown hgrow
  have T0 := made_prt hown
  have S0 : Since w w1 := ⟨hgrow.os, hgrow.tape, hgrow.output, hgrow.size, fun k hk => hgrow.block k hk (by simp)⟩
  generalize hg : w.heap.size = g at T0 hown ⊢
  go_wp2
  go_loopw [4] (fun i wr => ∃ (k : Nat), k ≤ n ∧ i = .int .i64 k ∧ Held shP wr g g n n (ps.take k ++ List.replicate (n - k) (0, ByteArray.empty)) ∧ Since w wr) (fun i _ => n - (intOf i).toNat)
  case atStart => exact ⟨0, by omega, rfl, by simpa using T0, S0⟩
  case round =>
    obtain ⟨k, hk, rfl, T, S⟩ := hrel
    have Rr := R.since S
    by_cases hlt : k < n
    · obtain ⟨x, rfl, hb, q0, q1⟩ := Rr.prt k hlt
      have hto := fun wx => toPart (pAt ps k).1 (pAt ps k).2 wx
      generalize hO : pAt ps k = O at q0 q1 hto
      go_wp2_with (go_at_call 79; refine (hto _).mono ?_; rintro _ w2 ⟨rfl, g2⟩; have T2 := T.since g2; obtain ⟨d0, d1⟩ := T2.prt k hlt; have f0 := T2.free (k * 2); have f1 := T2.free (k * 2 + 1))
      have hT := T2.setP k hlt O.1 O.2
      have e := shP.take_set ps n k R.len hlt
      rw [show shP.get ps k = (O.1, O.2) from hO, show shP.z = (0, ByteArray.empty) from rfl] at e
      rw [e] at hT
      go_roundw
      case rel => exact ⟨k + 1, by omega, by go_num, hT, since_put1 (since_put1 (S.trans g2) (by omega) _ _) (by omega) _ _⟩
      case measure => simp [intOf]; omega
    · have hkn : k = n := by omega
      subst hkn
      go_wp2
      go_ret
      refine ⟨g, rfl, ?_, S⟩
      have e : ps.take k ++ List.replicate (k - k) ((0, ByteArray.empty) : Int × ByteArray) = ps := by simp [List.take_of_length_le (Nat.le_of_eq R.len)]
      rw [e] at T
      exact T.raise (by omega)

theorem eqPart (x : Int) (y : ByteArray) (w : World) :
    Calls Try.prog 81 #[.agg #[.int .u32 x, .string y], .agg #[.int .u32 x, .string y]] w fun e w' => e = .returned (.bool true) ∧ Since w w' := by
  go_enter Try.func81, Try.ntmps81
  go_wp2
  go_ret
  exact ⟨rfl, ((Since.refl _).alloc _).alloc _⟩

set_option maxHeartbeats 1000000 in
theorem eqParts (a b : Option Addr) (n ca cb : Nat) (ps : List (Int × ByteArray)) (hn : n ≤ 1048576) (w : World) (T : Rd shP w a n ps) (T' : Rd shP w b n ps) :
    Calls Try.prog 77 #[.slice a n ca, .slice b n cb] w fun e w' => e = .returned (.bool true) ∧ Since w w' := by
  go_enter Try.func77, Try.ntmps77
  go_wp2
  go_loopw [5] (fun i wr => ∃ (k : Nat), k ≤ n ∧ i = .int .i64 k ∧ Since w wr) (fun i _ => n - (intOf i).toNat)
  case atStart => exact ⟨0, by omega, rfl, Since.refl _⟩
  case round =>
    obtain ⟨k, hk, rfl, S⟩ := hrel
    by_cases hlt : k < n
    · obtain ⟨x, rfl, hb, q0, q1⟩ := (T.since S).prt k hlt
      obtain ⟨y, rfl, hb', r0, r1⟩ := (T'.since S).prt k hlt
      have hlt' : (k : Int) < (n : Int) := by omega
      generalize pAt ps k = O at q0 q1 r0 r1
      clear T T'
      have xb : (x.add (k * 2)).block = x.block := add_block _ _
      have yb : (y.add (k * 2)).block = y.block := add_block _ _
      go_wp2
      have c0 : ∀ z : Later wr, z.val.cell? (x.add (k * 2)) = some (.int .u32 O.1) := fun z => (Below.cell z.ok (p := x.add (k * 2)) (by rw [xb]; exact hb)).trans q0
      have c1 : ∀ z : Later wr, z.val.cell? ⟨(x.add (k * 2)).block, (x.add (k * 2)).off + 1, none⟩ = some (.string O.2) := fun z => (Below.cell z.ok (p := ⟨(x.add (k * 2)).block, (x.add (k * 2)).off + 1, none⟩) (by show (x.add (k * 2)).block < _; rw [xb]; exact hb)).trans q1
      have d0 : ∀ z : Later wr, z.val.cell? (y.add (k * 2)) = some (.int .u32 O.1) := fun z => (Below.cell z.ok (p := y.add (k * 2)) (by rw [yb]; exact hb')).trans r0
      have d1 : ∀ z : Later wr, z.val.cell? ⟨(y.add (k * 2)).block, (y.add (k * 2)).off + 1, none⟩ = some (.string O.2) := fun z => (Below.cell z.ok (p := ⟨(y.add (k * 2)).block, (y.add (k * 2)).off + 1, none⟩) (by show (y.add (k * 2)).block < _; rw [yb]; exact hb')).trans r1
      have he : ∀ z : Later wr, Calls Try.prog 81 #[.agg #[.int .u32 O.1, .string O.2], .agg #[.int .u32 O.1, .string O.2]] z.val fun e w'' => e = .returned (.bool true) ∧ ∃ z : Later wr, w'' = z.val := fun z => calm_call (eqPart O.1 O.2 z.val)
      have hne : Nonempty (Later wr) := ⟨⟨wr, Since.refl _⟩⟩
      clear q0 q1 r0 r1 xb yb
      refine wp_region_calm (wb := wr) (by kernel_rfl) (by kernel_rfl) (Since.refl _) ?_
      repeat (go_big_quiet_step (exact he _))
      refine wpQuiet_nil ?_
      rintro _ ⟨y, rfl⟩
      go_wp2
      have S2 := S.trans y.ok
      go_roundw
      case rel => exact ⟨k + 1, by omega, by go_num, S2⟩
      case measure => simp [intOf]; omega
    · have hkn : k = n := by omega
      subst hkn
      clear T T'
      go_wp2
      go_ret
      exact ⟨rfl, S⟩

theorem eqIn (q : Int) (d : ByteArray) (r : Int) (a b : Option Addr) (n ca cb : Nat) (ps : List (Int × ByteArray)) (hn : n ≤ 1048576) (w : World) (R : Rd shP w a n ps) (Q : Rd shP w b n ps) :
    Calls Try.prog 67 #[inVal q d (.slice a n ca) r, inVal q d (.slice b n cb) r] w fun e w' => e = .returned (.bool true) ∧ Since w w' := by
  unfold inVal
  have G : Since w ((w.alloc (.cells #[.int .u32 q, .string d, .slice a n ca, .int .i64 r] 47)).alloc (.cells #[.int .u32 q, .string d, .slice b n cb, .int .i64 r] 47)) := ((Since.refl _).alloc _).alloc _
  have A := (Blk.new w #[.int .u32 q, .string d, .slice a n ca, .int .i64 r] 47).since ((Since.refl _).alloc (.cells #[.int .u32 q, .string d, .slice b n cb, .int .i64 r] 47))
  have B := Blk.new (w.alloc (.cells #[.int .u32 q, .string d, .slice a n ca, .int .i64 r] 47)) #[.int .u32 q, .string d, .slice b n cb, .int .i64 r] 47
  simp only [World.size_alloc] at A B
  have he := eqParts a b n ca cb ps hn _ (R.since G) (Q.since G)
  clear R Q
  go_enter Try.func67, Try.ntmps67
  go_wp2_with (go_at_call 77; refine he.mono ?_; rintro _ w1 ⟨rfl, g1⟩; replace A := A.since g1; replace B := B.since g1; have cA3 := A.cell 3; have cB3 := B.cell 3; simp at cA3 cB3)
  go_ret
  exact ⟨rfl, G.trans g1⟩

set_option maxRecDepth 10000 in
theorem toIn (q : Int) (d : ByteArray) (r : Int) (a : Option Addr) (n cap : Nat) (ps : List (Int × ByteArray)) (hn : n ≤ 1048576) (w : World) (R : Rd shP w a n ps) :
    Calls Try.prog 57 #[inVal q d (.slice a n cap) r] w fun e w' => ∃ g, e = .returned (inVal q d (.slice (some ⟨g, 0, none⟩) n n) r) ∧ Held shP w' w.heap.size g n n ps ∧ Since w w' := by
  unfold inVal
  have w0 : ∀ x, Since w x → Calls Try.prog 71 #[.slice a n cap] x fun e w' => ∃ g, e = .returned (.slice (some ⟨g, 0, none⟩) n n) ∧ Held shP w' x.heap.size g n n ps ∧ Since x w' := fun x hx => toParts a n cap ps hn x (R.since hx)
  clear R
  have G : Since w (((w.alloc (.cells #[.int .u32 q, .string d, .slice a n cap, .int .i64 r] 75)).alloc (.cells #[.int .u32 0, .string ⟨#[]⟩, .slice none 0 0, .int .i64 0] 47)).alloc (.cells #[.int .u32 q, .string d, .slice none 0 0, .int .i64 0] 47)) := (((Since.refl _).alloc _).alloc _).alloc _
  have L := (Blk.new w #[.int .u32 q, .string d, .slice a n cap, .int .i64 r] 75).since (((Since.refl _).alloc (.cells #[.int .u32 0, .string ⟨#[]⟩, .slice none 0 0, .int .i64 0] 47)).alloc (.cells #[.int .u32 q, .string d, .slice none 0 0, .int .i64 0] 47))
  have A := (Blk.new (w.alloc (.cells #[.int .u32 q, .string d, .slice a n cap, .int .i64 r] 75)) #[.int .u32 0, .string ⟨#[]⟩, .slice none 0 0, .int .i64 0] 47).since ((Since.refl _).alloc (.cells #[.int .u32 q, .string d, .slice none 0 0, .int .i64 0] 47))
  have B := Blk.new ((w.alloc (.cells #[.int .u32 q, .string d, .slice a n cap, .int .i64 r] 75)).alloc (.cells #[.int .u32 0, .string ⟨#[]⟩, .slice none 0 0, .int .i64 0] 47)) #[.int .u32 q, .string d, .slice none 0 0, .int .i64 0] 47
  simp only [World.size_alloc] at A B
  go_enter Try.func57, Try.ntmps57
  go_wp2_with (go_at_call 71; refine (w0 _ G).mono ?_; rintro _ w1 ⟨g, rfl, T, g1⟩; replace A := A.since g1; replace B := B.since g1; replace L := L.since g1; have cL3 := L.cell 3; have cA0 := A.cell 0; have cA1 := A.cell 1; have cA2 := A.cell 2; have cA3 := A.cell 3; have cB0 := B.cell 0; have cB1 := B.cell 1; have cB2 := B.cell 2; have cB3 := B.cell 3; simp at cA0 cA1 cA2 cA3 cB0 cB1 cB2 cB3 cL3; have fA0 := A.fz 0; have fA1 := A.fz 1; have fA2 := A.fz 2; have fA3 := A.fz 3; have fB2 := B.fz 2; have fB3 := B.fz 3)
  have hlow := T.low'
  simp at hlow
  have A1 := (A.other (show w.heap.size + 1 ≠ w.heap.size + 1 + 1 by omega) 2 (.slice (some ⟨g, 0, none⟩) n n)).other (show w.heap.size + 1 ≠ w.heap.size + 1 + 1 by omega) 3 (.int .i64 r)
  have A2 := (((A1.put 0 (.int .u32 q) (by simp)).put 1 (.string d) (by simp)).put 2 (.slice (some ⟨g, 0, none⟩) n n) (by simp)).put 3 (.int .i64 r) (by simp)
  have k0 := A2.cell 0
  have k1 := A2.cell 1
  have k2 := A2.cell 2
  have k3 := A2.cell 3
  simp at k0 k1 k2 k3
  refine bodyPost_ret (v := .agg #[.int .u32 q, .string d, .slice (some ⟨g, 0, none⟩) n n, .int .i64 r]) ?_ rfl ⟨g, rfl, ?_, ?_⟩
  · simp [results, go_sem, k0, k1, k2, k3]
  · exact ((((((T.other (by omega) _ _).other (by omega) _ _).other (by omega) _ _).other (by omega) _ _).other (by omega) _ _).other (by omega) _ _).raise (by omega)
  · exact since_put1 (since_put1 (since_put1 (since_put1 (since_put1 (since_put1 (G.trans g1) (by omega) _ _) (by omega) _ _) (by omega) _ _) (by omega) _ _) (by omega) _ _) (by omega) _ _
end Go.Proofs.Ytpkenhcglnognaa
