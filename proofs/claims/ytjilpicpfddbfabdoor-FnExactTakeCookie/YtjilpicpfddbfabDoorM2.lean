/-
  Contracts of impl's halves (a function that tells the halves of a text to a yield) and of its OnesSum, at every text.
  Contract of impl's OnesSum, at every text.
  Contracts of impl's and spec's Turned, at every text of at most 1048576 bytes, every place and every number.
  Contract of the laws' marks: markText answers a text that hangs on its number alone.
  Contracts of the laws' functions over buffers of bytes that came: their lists of parts measured, copied, held against another, marked, the marks looked for.
-/
import Derived.Test.YtjilpicpfddbfabDoorM1
import Derived.RangeFuncNested
import Derived.RangeFuncBound
import Derived.RangeFuncCalls
import Derived.RangeFuncLeaves
import Derived.Shelf.Abstract
import Derived.Shelf.RegionOpen
import Derived.OwnWalkIn
import Derived.TacticsInMore
import Derived.LoopNIn
import Derived.LoopIn
import Derived.Laws.IdiomStrings
import Derived.Laws.BytesArg
import Derived.Lib.LazyBuf
import Derived.WalkLawsBesides
import Derived.Laws.Concat
import Derived.LoopTactic
import Derived.Test.YtjilpicpfddbfabDoorCalm
import Derived.Laws.ByValue
import Derived.Maps.RangeWalk
namespace Go.Proofs.YtjilpicpfddbfabDoor
open Go.ChangeShapes Go.WideShapes Go.ChangeAt Go.RowKit Go.Shelf
attribute [local go_sem] Oper.semAt_some
set_option linter.unusedVariables false
set_option maxRecDepth 10000

/-- The sum of the first bytes, those at even places high. -/
def part (f : Nat → Int) : Nat → Int
  | 0 => 0
  | i + 1 => part f i + (if i % 2 = 0 then 256 * f i else f i)

/-- Byte i of a text; 0 behind its end. -/
def byteAt (s : ByteArray) (i : Nat) : Int := if h : i < s.size then (s[i].toNat : Int) else 0
end Go.Proofs.YtjilpicpfddbfabDoor

namespace Go.Proofs.YtjilpicpfddbfabDoor
open Go.ChangeShapes Go.WideShapes Go.ChangeAt Go.RowKit Go.Shelf
attribute [local go_sem] Oper.semAt_some
set_option linter.unusedVariables false
set_option maxRecDepth 10000

/-- What OnesSum answers. -/
def ones (s : ByteArray) : Int := if 2000 < s.size then -1 else foldOf (part (byteAt s) s.size)
end Go.Proofs.YtjilpicpfddbfabDoor

namespace Go.Proofs.YtjilpicpfddbfabDoor
open Go.ChangeShapes Go.WideShapes Go.ChangeAt Go.RowKit
set_option linter.unusedVariables false
set_option maxRecDepth 10000

/-- The text of the first n of the numbers f 0, f 1 .. -/
def textOf (f : Nat → Int) (n : Nat) : ByteArray := strOfNums ((List.range n).map f)

theorem textOf_size (f : Nat → Int) (n : Nat) : (textOf f n).size = n := by
  simp [textOf, strOfNums_size]

theorem bytesBack (f : Nat → Int) (n cap b : Nat) (w : World) (hc : ∀ i, i < n → w.cell? ⟨b, i, none⟩ = some (.int .u8 (f i))) :
    (convert 125 9 (.slice (some ⟨b, 0, none⟩) n cap)).run Tryd.prog w = .ok (.string (textOf f n)) w := by
  refine run_convert_bytes_arg _ 125 5 Tryd.underlying125 Tryd.underlying5 b 0 n cap _ (by simp) ?_ 9 Tryd.underlying9
  intro i hi
  rw [Nat.zero_add, hc i hi]
  simp [List.getD, hi]
end Go.Proofs.YtjilpicpfddbfabDoor

namespace Go.Proofs.YtjilpicpfddbfabDoor
open Go.ChangeShapes Go.WideShapes Go.ChangeAt Go.RowKit
set_option linter.unusedVariables false
set_option maxRecDepth 10000

/-- A digit's text. -/
def digOf (m : Nat) : ByteArray := textOf (fun _ => 48 + ((m % 10 : Nat) : Int)) 1

/-- The digits of m ahead of out. -/
def markGo : Nat → Nat → ByteArray → ByteArray
  | 0, _, out => out
  | f + 1, m, out => if m = 0 then out else markGo f (m / 10) (digOf m ++ out)

/-- The mark of a number. -/
def markOf (k : Int) : ByteArray := ⟨#[109]⟩ ++ markGo k.toNat k.toNat ⟨#[]⟩

theorem markGo_zero (f : Nat) (out : ByteArray) : markGo f 0 out = out := by
  cases f <;> simp [markGo]

theorem digOf_size (m : Nat) : (digOf m).size = 1 := textOf_size _ _

set_option maxHeartbeats 1000000 in
theorem markText (k : Int) (h0 : 1 ≤ k) (h1 : k ≤ 1073741824) (w : World) :
    Calls Tryd.prog 66 #[.int .i64 k] w fun e w' => e = .returned (.string (markOf k)) ∧ Since w w' := by
  obtain ⟨u, rfl⟩ := Int.eq_ofNat_of_zero_le (show 0 ≤ k by omega)
  have hpos : ¬ (u : Int) ≤ 0 := by omega
  have hmk : markOf (u : Int) = ⟨#[109]⟩ ++ markGo u u ⟨#[]⟩ := rfl
  rw [hmk]
  generalize hU : markGo u u ⟨#[]⟩ = U
  clear hmk
  go_enter Tryd.func66, Tryd.ntmps66
  go_wp2
  go_loopw [0, 3] (fun i o wr => ∃ (m f : Nat) (out : ByteArray), i = .int .i64 (m : Int) ∧ o = .string out ∧ m ≤ f ∧ out.size + m ≤ u ∧ Hid (markGo f m out = U) ∧ Since w wr) (fun i _ _ => (intOf i).toNat)
  case atStart => exact ⟨u, u, ⟨#[]⟩, rfl, rfl, Nat.le_refl _, by simp [ByteArray.size], hU, Since.refl _⟩
  case round =>
    obtain ⟨m, f, out, rfl, rfl, hmf, hsz, hgo, S⟩ := hrel
    by_cases hm : m = 0
    · subst hm
      have hgo' := hgo.out
      rw [markGo_zero] at hgo'
      subst hgo'
      have hadd := run_string_add_sum (P := Tryd.prog) wr ⟨#[109]⟩ out (by have : (ByteArray.mk #[109]).size = 1 := rfl; omega)
      go_wp2
      go_ret
      exact ⟨rfl, S⟩
    · have hm' : (0 : Int) < (m : Int) := by omega
      have hrem : (m : Int).tmod 10 = ((m % 10 : Nat) : Int) := by rw [Int.tmod_eq_emod_of_nonneg (by omega)]; omega
      have hq : (m : Int).tdiv 10 = ((m / 10 : Nat) : Int) := by rw [Int.tdiv_eq_ediv_of_nonneg (by omega)]; omega
      have hw1 : IntKind.i64.wrap (48 + ((m % 10 : Nat) : Int)) = 48 + ((m % 10 : Nat) : Int) := by rw [IntWalk.i64_left]; exact IntWalk.wrap64_in _ ⟨by omega, by omega⟩
      have hw2 : IntKind.u8.wrap (48 + ((m % 10 : Nat) : Int)) = 48 + ((m % 10 : Nat) : Int) := by simp [IntKind.wrap, IntKind.bits, IntKind.signed]; omega
      have hback := bytesBack (fun _ => 48 + ((m % 10 : Nat) : Int)) 1 1 wr.heap.size (wr.alloc (.cells #[.int .u8 (48 + ((m % 10 : Nat) : Int))] 5)) (by intro i hi; obtain rfl : i = 0 := (by omega); simp)
      have hadd := fun wx => run_string_add_sum (P := Tryd.prog) wx (digOf m) out (by rw [digOf_size]; omega)
      have hd : textOf (fun _ => 48 + ((m % 10 : Nat) : Int)) 1 = digOf m := rfl
      rw [hd] at hback
      clear hd
      have hx : Hid (markGo f m out = U) := hgo
      clear hgo
      generalize hg10 : m % 10 = d at *
      go_wp2
      go_roundw
      case rel =>
        obtain ⟨f', rfl⟩ : ∃ f', f = f' + 1 := ⟨f - 1, by omega⟩
        refine ⟨m / 10, f', digOf m ++ out, by simp, rfl, by omega, ?_, ?_, S.alloc _⟩
        · rw [ByteArray.size_append, digOf_size]; omega
        · have h2 := hx.out
          simp only [markGo, if_neg hm] at h2
          exact h2
      case measure => simp [intOf]; omega
end Go.Proofs.YtjilpicpfddbfabDoor

namespace Go.Proofs.YtjilpicpfddbfabDoor
open Go.ChangeShapes Go.WideShapes Go.ChangeAt Go.RowKit Go.Deep
set_option linter.unusedVariables false
set_option maxRecDepth 10000

/-- A part: its place, its bytes. -/
def shP : Shape (Int × ByteArray) := ⟨107, 2, fun x => [.int .u32 x.1, .string x.2], fun _ => rfl, fun x v hv => by simp at hv; rcases hv with rfl | rfl <;> rfl, (0, ByteArray.empty), by decide⟩

/-- Part i. -/
def pAt (ps : List (Int × ByteArray)) (i : Nat) : Int × ByteArray := ps.getD i (0, ByteArray.empty)

theorem Rd.prt {w : World} {a : Option Addr} {n : Nat} {ps : List (Int × ByteArray)} (h : Rd shP w a n ps) (i : Nat) (hi : i < n) : ∃ x, a = some x ∧ x.block < w.heap.size ∧ w.cell? (x.add (i * 2)) = some (.int .u32 (pAt ps i).1) ∧ w.cell? ⟨(x.add (i * 2)).block, (x.add (i * 2)).off + 1, none⟩ = some (.string (pAt ps i).2) := by
  obtain ⟨x, e, hb, hc⟩ := h.cell i hi
  refine ⟨x, e, hb, hc 0 (by decide), ?_⟩
  rw [addr_step x (i * 2) 1 (by omega)]
  exact hc 1 (by decide)

theorem Held.prt {w : World} {B g n cap : Nat} {ps : List (Int × ByteArray)} (h : Held shP w B g n cap ps) (i : Nat) (hi : i < n) : w.cell? ⟨g, i * 2, none⟩ = some (.int .u32 (pAt ps i).1) ∧ w.cell? ⟨g, i * 2 + 1, none⟩ = some (.string (pAt ps i).2) := ⟨h.cell i hi 0 (by decide), h.cell i hi 1 (by decide)⟩

/-- A buffer of bytes that came, as a value. -/
def inVal (q : Int) (d : ByteArray) (v : Value) (r : Int) : Value := .agg #[.int .u32 q, .string d, v, .int .i64 r]

theorem eqPart (x : Int) (y : ByteArray) (w : World) :
    Calls Tryd.prog 65 #[.agg #[.int .u32 x, .string y], .agg #[.int .u32 x, .string y]] w fun e w' => e = .returned (.bool true) ∧ Since w w' := by
  go_enter Tryd.func65, Tryd.ntmps65
  go_wp2
  go_ret
  exact ⟨rfl, ((Since.refl _).alloc _).alloc _⟩

set_option maxHeartbeats 1000000 in
theorem eqParts (a b : Option Addr) (n ca cb : Nat) (ps : List (Int × ByteArray)) (hn : n ≤ 1048576) (w : World) (T : Rd shP w a n ps) (T' : Rd shP w b n ps) :
    Calls Tryd.prog 54 #[.slice a n ca, .slice b n cb] w fun e w' => e = .returned (.bool true) ∧ Since w w' := by
  go_enter Tryd.func54, Tryd.ntmps54
  go_wp2
  go_loopw [5] (fun i wr => ∃ (k : Nat), k ≤ n ∧ i = .int .i64 k ∧ Since w wr) (fun i _ => n - (intOf i).toNat)
  case atStart => exact ⟨0, by omega, rfl, Since.refl _⟩
  case round =>
    obtain ⟨k, hk, rfl, S⟩ := hrel
    by_cases hlt : k < n
    · obtain ⟨x, rfl, hb, q0, q1⟩ := (T.since S).prt k hlt
      obtain ⟨y, rfl, hb', r0, r1⟩ := (T'.since S).prt k hlt
      have hlt' : (k : Int) < (n : Int) := by omega
      generalize pAt ps k = O at q0 q1 r0 r1
      clear T T'
      have xb : (x.add (k * 2)).block = x.block := add_block _ _
      have yb : (y.add (k * 2)).block = y.block := add_block _ _
      go_wp2
      have c0 : ∀ z : Later wr, z.val.cell? (x.add (k * 2)) = some (.int .u32 O.1) := fun z => (Below.cell z.ok (p := x.add (k * 2)) (by rw [xb]; exact hb)).trans q0
      have c1 : ∀ z : Later wr, z.val.cell? ⟨(x.add (k * 2)).block, (x.add (k * 2)).off + 1, none⟩ = some (.string O.2) := fun z => (Below.cell z.ok (p := ⟨(x.add (k * 2)).block, (x.add (k * 2)).off + 1, none⟩) (by show (x.add (k * 2)).block < _; rw [xb]; exact hb)).trans q1
      have d0 : ∀ z : Later wr, z.val.cell? (y.add (k * 2)) = some (.int .u32 O.1) := fun z => (Below.cell z.ok (p := y.add (k * 2)) (by rw [yb]; exact hb')).trans r0
      have d1 : ∀ z : Later wr, z.val.cell? ⟨(y.add (k * 2)).block, (y.add (k * 2)).off + 1, none⟩ = some (.string O.2) := fun z => (Below.cell z.ok (p := ⟨(y.add (k * 2)).block, (y.add (k * 2)).off + 1, none⟩) (by show (y.add (k * 2)).block < _; rw [yb]; exact hb')).trans r1
      have he : ∀ z : Later wr, Calls Tryd.prog 65 #[.agg #[.int .u32 O.1, .string O.2], .agg #[.int .u32 O.1, .string O.2]] z.val fun e w'' => e = .returned (.bool true) ∧ ∃ z : Later wr, w'' = z.val := fun z => calm_call (eqPart O.1 O.2 z.val)
      have hne : Nonempty (Later wr) := ⟨⟨wr, Since.refl _⟩⟩
      clear q0 q1 r0 r1 xb yb
      refine wp_region_calm (wb := wr) (by kernel_rfl) (by kernel_rfl) (Since.refl _) ?_
      repeat (go_big_quiet_step (exact he _))
      refine wpQuiet_nil ?_
      rintro _ ⟨y, rfl⟩
      go_wp2
      have S2 := S.trans y.ok
      go_roundw
      case rel => exact ⟨k + 1, by omega, by go_num, S2⟩
      case measure => simp [intOf]; omega
    · have hkn : k = n := by omega
      subst hkn
      clear T T'
      go_wp2
      go_ret
      exact ⟨rfl, S⟩

theorem eqIn (q : Int) (d : ByteArray) (r : Int) (a b : Option Addr) (n ca cb : Nat) (ps : List (Int × ByteArray)) (hn : n ≤ 1048576) (w : World) (R : Rd shP w a n ps) (Q : Rd shP w b n ps) :
    Calls Tryd.prog 31 #[inVal q d (.slice a n ca) r, inVal q d (.slice b n cb) r] w fun e w' => e = .returned (.bool true) ∧ Since w w' := by
  unfold inVal
  have G : Since w ((w.alloc (.cells #[.int .u32 q, .string d, .slice a n ca, .int .i64 r] 40)).alloc (.cells #[.int .u32 q, .string d, .slice b n cb, .int .i64 r] 40)) := ((Since.refl _).alloc _).alloc _
  have A := (Blk.new w #[.int .u32 q, .string d, .slice a n ca, .int .i64 r] 40).since ((Since.refl _).alloc (.cells #[.int .u32 q, .string d, .slice b n cb, .int .i64 r] 40))
  have B := Blk.new (w.alloc (.cells #[.int .u32 q, .string d, .slice a n ca, .int .i64 r] 40)) #[.int .u32 q, .string d, .slice b n cb, .int .i64 r] 40
  simp only [World.size_alloc] at A B
  have he := eqParts a b n ca cb ps hn _ (R.since G) (Q.since G)
  clear R Q
  go_enter Tryd.func31, Tryd.ntmps31
  go_wp2_with (go_at_call 54; refine he.mono ?_; rintro _ w1 ⟨rfl, g1⟩; replace A := A.since g1; replace B := B.since g1; have cA3 := A.cell 3; have cB3 := B.cell 3; simp at cA3 cB3)
  go_ret
  exact ⟨rfl, G.trans g1⟩

/-- Part j is marked by k + 2 j and the number behind it. -/
def MarkedP (k : Int) (n : Nat) (ps : List (Int × ByteArray)) : Prop := ∀ j, j < n → pAt ps j = (k + 2 * (j : Int), markOf (k + 2 * (j : Int) + 1))

theorem pAt_set_same (ps : List (Int × ByteArray)) (i : Nat) (x : Int × ByteArray) (h : i < ps.length) : pAt (ps.set i x) i = x := by
  simp [pAt, List.getD, h]

theorem pAt_set_other (ps : List (Int × ByteArray)) (i j : Nat) (x : Int × ByteArray) (h : i ≠ j) : pAt (ps.set i x) j = pAt ps j := by
  simp [pAt, List.getD, h]

set_option maxHeartbeats 1000000 in
theorem markPartsH (B g n cap : Nat) (ps : List (Int × ByteArray)) (k : Int) (hk0 : 1 ≤ k) (hk1 : k + 2 * n ≤ 1073741824) (w : World) (T : Held shP w B g n cap ps) :
    Calls Tryd.prog 55 #[.slice (some ⟨g, 0, none⟩) n cap, .int .i64 k] w fun e w' => e = .returned (.int .i64 (k + 2 * n)) ∧ Touch g w w' ∧ ∃ ms, MarkedP k n ms ∧ Held shP w' B g n cap ms := by
  go_enter Tryd.func55, Tryd.ntmps55
  go_wp2
  go_loopw [1, 5] (fun q i wr => ∃ (j : Nat) (ms : List (Int × ByteArray)), j ≤ n ∧ i = .int .i64 j ∧ q = .int .i64 (k + 2 * j) ∧ Hid (MarkedP k j ms) ∧ Held shP wr B g n cap ms ∧ Touch g w wr) (fun _ i _ => n - (intOf i).toNat)
  case atStart => exact ⟨0, ps, by omega, rfl, by simp, fun j hj => by omega, T, Touch.refl _ _⟩
  case round =>
    obtain ⟨j, ms, hj, rfl, rfl, hM, Tr, S⟩ := hrel
    by_cases hlt : j < n
    · have hm := fun wx => markText (k + 2 * j + 1) (by omega) (by omega) wx
      have hlt' : (j : Int) < (n : Int) := by omega
      clear T
      obtain ⟨c0, c1⟩ := Tr.prt j hlt
      have f0 := Tr.free (j * 2)
      have f1 := Tr.free (j * 2 + 1)
      have hw1 : IntKind.i64.wrap (k + 2 * j + 1) = k + 2 * j + 1 := by rw [IntWalk.i64_left]; exact IntWalk.wrap64_in _ ⟨by omega, by omega⟩
      have hw2 : IntKind.u32.wrap (k + 2 * j) = k + 2 * j := by simp [IntKind.wrap, IntKind.bits, IntKind.signed]; omega
      have T1 := Tr.put1 j hlt 0 (by decide) (.int .u32 (k + 2 * j)) (k + 2 * j, (pAt ms j).2) rfl
      rw [show j * shP.k + 0 = j * 2 from rfl] at T1
      have hl1 : j < (ms.set j (k + 2 * j, (pAt ms j).2)).length := by rw [List.length_set, Tr.1]; exact hlt
      go_wp2_with (go_at_call 66; refine (hm _).mono ?_; rintro _ w1 ⟨rfl, g1⟩; have T2 := T1.since g1; obtain ⟨d0, d1⟩ := T2.prt j hlt; have e1 := T2.free (j * 2 + 1))
      have T3 := T2.put1 j hlt 1 (by decide) (.string (markOf (k + 2 * j + 1))) (k + 2 * j, markOf (k + 2 * j + 1)) (by rw [show shP.get (ms.set j (k + 2 * j, (pAt ms j).2)) j = (k + 2 * j, (pAt ms j).2) from pAt_set_same ms j _ (by rw [Tr.1]; exact hlt)]; rfl)
      rw [show j * shP.k + 1 = j * 2 + 1 from rfl, List.set_set] at T3
      have hw3 : IntKind.i64.wrap (k + 2 * j + 1 + 1) = k + 2 * j + 1 + 1 := by rw [IntWalk.i64_left]; exact IntWalk.wrap64_in _ ⟨by omega, by omega⟩
      go_roundw
      case rel =>
        refine ⟨j + 1, _, by omega, by go_num, ?_, ?_, T3, ((S.put _ _).trans (Touch.of_since g1 g)).put _ _⟩
        · go_num
        · intro i hi
          by_cases e : i = j
          · subst e
            exact pAt_set_same _ _ _ (by rw [Tr.1]; exact hlt)
          · rw [pAt_set_other _ _ _ _ (Ne.symm e)]
            exact hM.out i (by omega)
      case measure => simp [intOf]; omega
    · have hjn : j = n := by omega
      subst hjn
      go_wp2
      go_ret
      exact ⟨rfl, S, ms, hM.out, Tr⟩

theorem markParts (B n : Nat) (v : Value) (ps : List (Int × ByteArray)) (k : Int) (hk0 : 1 ≤ k) (hk1 : k + 2 * n ≤ 1073741824) (w : World) (T : Own shP w B v n ps) :
    Calls Tryd.prog 55 #[v, .int .i64 k] w fun e w' => e = .returned (.int .i64 (k + 2 * n)) ∧ w.grownBy w' v.ownBlock ∧ ∃ ms, MarkedP k n ms ∧ Own shP w' B v n ms := by
  rcases T.cases with ⟨rfl, rfl, rfl⟩ | ⟨g, cap, rfl, H⟩
  · go_enter Tryd.func55, Tryd.ntmps55
    go_wp2
    refine wp_loop_rounds 1 ?_
    rw [rounds_succ]
    go_wp2
    go_ret
    exact ⟨by simp, World.grownBy.refl _ _, [], fun j hj => by omega, T⟩
  · exact (markPartsH B g n cap ps k hk0 hk1 w H).mono fun e w' ⟨h1, h2, ms, h3, h4⟩ => ⟨h1, grown_of_touch h2, ms, h3, h4⟩

set_option maxHeartbeats 1000000 in
theorem heldParts (a : Option Addr) (n cap : Nat) (ms : List (Int × ByteArray)) (k : Int) (hk0 : 1 ≤ k) (hk1 : k + 2 * n ≤ 1073741824) (w : World) (R : Rd shP w a n ms) (hM : MarkedP k n ms) :
    Calls Tryd.prog 56 #[.slice a n cap, .int .i64 k] w fun e w' => e = .returned (.int .i64 (k + 2 * n)) ∧ Since w w' := by
  go_enter Tryd.func56, Tryd.ntmps56
  go_wp2
  go_loopw [1, 5] (fun q i wr => ∃ (j : Nat), j ≤ n ∧ i = .int .i64 j ∧ q = .int .i64 (k + 2 * j) ∧ Since w wr) (fun _ i _ => n - (intOf i).toNat)
  case atStart => exact ⟨0, by omega, rfl, by simp, Since.refl _⟩
  case round =>
    obtain ⟨j, hj, rfl, rfl, S⟩ := hrel
    by_cases hlt : j < n
    · obtain ⟨x, rfl, hb, c0, c1⟩ := (R.since S).prt j hlt
      rw [hM j hlt] at c0 c1
      have hm0 := fun wx => markText (k + 2 * j + 1) (by omega) (by omega) wx
      have hlt' : (j : Int) < (n : Int) := by omega
      have hw1 : IntKind.i64.wrap (k + 2 * j + 1) = k + 2 * j + 1 := by rw [IntWalk.i64_left]; exact IntWalk.wrap64_in _ ⟨by omega, by omega⟩
      have hw3 : IntKind.i64.wrap (k + 2 * j + 1 + 1) = k + 2 * j + 1 + 1 := by rw [IntWalk.i64_left]; exact IntWalk.wrap64_in _ ⟨by omega, by omega⟩
      have hw2 : IntKind.u32.wrap (k + 2 * j) = k + 2 * j := by simp [IntKind.wrap, IntKind.bits, IntKind.signed]; omega
      have xb : (x.add (j * 2)).block = x.block := add_block _ _
      generalize markOf (k + 2 * j + 1) = t at c1 hm0
      clear R hM
      go_wp2
      have hc1 : ∀ y : Later wr, y.val.cell? ⟨(x.add (j * 2)).block, (x.add (j * 2)).off + 1, none⟩ = some (.string t) := fun y => (Below.cell y.ok (p := ⟨(x.add (j * 2)).block, (x.add (j * 2)).off + 1, none⟩) (by show (x.add (j * 2)).block < _; rw [xb]; exact hb)).trans c1
      have hm : ∀ y : Later wr, Calls Tryd.prog 66 #[.int .i64 (k + 2 * j + 1)] y.val fun e w'' => e = .returned (.string t) ∧ ∃ z : Later wr, w'' = z.val := fun y => calm_call (hm0 y.val)
      have hne : Nonempty (Later wr) := ⟨⟨wr, Since.refl _⟩⟩
      clear hm0 c0 c1 xb
      refine wp_region_calm (wb := wr) (by kernel_rfl) (by kernel_rfl) (Since.refl _) ?_
      repeat (go_big_quiet_step (exact hm _))
      refine wpQuiet_nil ?_
      rintro _ ⟨y, rfl⟩
      go_wp2
      have S2 := S.trans y.ok
      go_roundw
      case rel => exact ⟨j + 1, by omega, by go_num, by go_num, S2⟩
      case measure => simp [intOf]; omega
    · have hjn : j = n := by omega
      subst hjn
      clear R
      go_wp2
      go_ret
      exact ⟨rfl, S⟩

theorem markIn (q : Int) (d : ByteArray) (r : Int) (B n : Nat) (v : Value) (ps : List (Int × ByteArray)) (k : Int) (hk0 : 1 ≤ k) (hk1 : k + 2 * n ≤ 1073741824) (w : World) (T : Own shP w B v n ps) :
    Calls Tryd.prog 34 #[inVal q d v r, .int .i64 k] w fun e w' => e = .returned (.int .i64 (k + 2 * n)) ∧ w.grownBy w' v.ownBlock ∧ ∃ ms, MarkedP k n ms ∧ Own shP w' B v n ms := by
  obtain ⟨a, cap, rfl, _⟩ := T.form
  unfold inVal
  have G : Since w (w.alloc (.cells #[.int .u32 q, .string d, .slice a n cap, .int .i64 r] 40)) := (Since.refl _).alloc _
  have hm := markParts B n _ ps k hk0 hk1 _ (T.since G)
  clear T
  go_enter Tryd.func34, Tryd.ntmps34
  go_wp2_with (go_at_call 55; refine hm.mono ?_; rintro _ w1 ⟨rfl, t1, hx⟩; replace hx : Hid _ := hx; replace t1 : Hid _ := t1)
  go_ret
  exact ⟨rfl, ((grown_of_since G).but _).andThen t1.out (fun j hj => .inr hj), hx.out⟩

theorem heldIn (q : Int) (d : ByteArray) (r : Int) (a : Option Addr) (n cap : Nat) (ms : List (Int × ByteArray)) (k : Int) (hk0 : 1 ≤ k) (hk1 : k + 2 * n ≤ 1073741824) (w : World) (R : Rd shP w a n ms) (hM : MarkedP k n ms) :
    Calls Tryd.prog 35 #[inVal q d (.slice a n cap) r, .int .i64 k] w fun e w' => e = .returned (.int .i64 (k + 2 * n)) ∧ Since w w' := by
  unfold inVal
  have G : Since w (w.alloc (.cells #[.int .u32 q, .string d, .slice a n cap, .int .i64 r] 40)) := (Since.refl _).alloc _
  have hh := heldParts a n cap ms k hk0 hk1 _ (R.since G) hM
  have hpos : ¬ k + 2 * (n : Int) < 0 := by omega
  clear R hM
  go_enter Tryd.func35, Tryd.ntmps35
  go_wp2_with (go_at_call 56; refine hh.mono ?_; rintro _ w1 ⟨rfl, g1⟩)
  go_ret
  exact ⟨rfl, G.trans g1⟩
end Go.Proofs.YtjilpicpfddbfabDoor
