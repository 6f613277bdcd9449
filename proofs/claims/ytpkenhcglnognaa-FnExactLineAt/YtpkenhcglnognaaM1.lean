/-
  Contracts of the functions on places: what impl's and spec's SeqDist, SeqLess, SeqLessEq and SeqMax answer, at every two words; no condition but that the arguments are words.
  Contracts of the functions on windows: InWindow, Overlaps and Unwrap, impl's and spec's, at every argument; no condition but that words are words and ints are ints.
  Contracts of the ones sum of a number: impl's folded and spec's l02Fold at every number from 0 to 1099511627775; of isHalf; of impl's and spec's SumUpdate at every argument.
  Contracts of impl's and spec's PacketOk, and of the laws' copying of a packet, at every packet.
  Since a world nothing was written but one block and new blocks.
  Lists of texts in memory: one that came in and is read; one of our own, read, written into, carried along. A variable of one cell.
  Lists of structs of one-cell fields in memory, of any shape (K cells each; K = 1: a list of numbers): one that came in and is read; one of our own.
-/
import Derived.Test.YtpkenhcglnognaaRows
import Derived.WalkKit
import Derived.ProofKit
import Derived.OpenShut
import Derived.WalkSpells
import Derived.Below
import Derived.Laws.BitsAllLaws
import Derived.Laws.ByValue
import Derived.BigQuiet
import Derived.OwnWalk
import Derived.SliceStrings
import Derived.Deep.SlicePairs
import Derived.Deep.AppendLies
import Derived.Laws.OwnMore
import Derived.LoopTactic
namespace Go.Proofs.Ytpkenhcglnognaa
open Go.ChangeShapes Go.WideShapes Go.ChangeAt Go.RowKit
set_option linter.unusedVariables false
set_option maxRecDepth 10000

/-- What was there is as it was; there may be new blocks. -/
def Newer (w w' : World) : Prop := Grown w w' ∧ Below w.heap.size w w'

theorem Newer.refl (w : World) : Newer w w := ⟨Grown.refl _, Below.refl _ _⟩

theorem Newer.trans {a b c : World} (h : Newer a b) (k : Newer b c) : Newer a c :=
  ⟨⟨World.keptBut_trans h.1.1 k.1.1, fun x => (k.1.2.1 x).trans (h.1.2.1 x), Nat.le_trans h.1.2.2 k.1.2.2⟩, h.2.trans (k.2.mono h.1.2.2)⟩

theorem Newer.size {a b : World} (h : Newer a b) : a.heap.size ≤ b.heap.size := h.1.2.2

theorem Newer.alloc {a b : World} (h : Newer a b) (c : Array Value) (t : TypeId) : Newer a (b.alloc (.cells c t)) :=
  ⟨Grown.alloc h.1 c t, h.2.alloc h.1.2.2 _⟩

theorem Newer.drew {a b : World} (h : Newer a b) : Newer a b.drew := ⟨Grown.drew h.1, h.2.drew⟩

theorem Newer.setCell {a b : World} (h : Newer a b) {p : Addr} (hp : a.heap.size ≤ p.block) (v : Value) : Newer a (b.setCell p v) :=
  ⟨Grown.setCell h.1 hp v, h.2.setCell hp v⟩

theorem tmod_small (x m : Int) (h1 : -m < x) (h2 : x < m) : x.tmod m = x := by
  by_cases h : 0 ≤ x
  · rw [Int.tmod_eq_emod_of_nonneg h, Int.emod_eq_of_lt h h2]
  · have e : x = -(-x) := by omega
    rw [e, Int.neg_tmod, Int.tmod_eq_emod_of_nonneg (by omega), Int.emod_eq_of_lt (by omega) (by omega)]

/-- x is a word. -/
def IsWord (x : Int) : Prop := 0 ≤ x ∧ x < 4294967296

theorem isWord_wf {x : Int} (h : (Lit.int .u32 x).wf = true) : IsWord x := by
  have := bounds_u32 h
  unfold IsWord
  omega

/-- d is how far b is ahead of a, round the words. -/
def IsDist (a b d : Int) : Prop := -2147483648 ≤ d ∧ d < 2147483648 ∧ (b - a - d) % 4294967296 = 0

theorem distTo (a b d : Int) (ha : IsWord a) (hb : IsWord b) (hd : IsDist a b d) (w : World) :
    Calls Try.prog 75 #[.int .u32 a, .int .u32 b] w fun e w' => e = .returned (.int .i64 d) ∧ w = w' := by
  obtain ⟨ha, ha'⟩ := ha
  obtain ⟨hb, hb'⟩ := hb
  go_enter Try.func75, Try.ntmps75
  go_wp2
  go_ret
  refine ⟨?_, rfl⟩
  have e : wrap64 (wrap32 ((b - a) % 4294967296)) = d := by
    obtain ⟨h1, h2, h3⟩ := hd
    unfold wrap64 wrap32
    omega
  simp [e]

theorem specDist (a b d : Int) (ha : IsWord a) (hb : IsWord b) (hd : IsDist a b d) (w : World) :
    Calls Try.prog 32 #[.int .u32 a, .int .u32 b] w fun e w' => e = .returned (.int .i64 d) ∧ w = w' := by
  obtain ⟨ha, ha'⟩ := ha
  obtain ⟨hb, hb'⟩ := hb
  have ht := tmod_small (b - a) 4294967296 (by omega) (by omega)
  go_enter Try.func32, Try.ntmps32
  go_wp2
  all_goals go_ret
  all_goals refine ⟨?_, rfl⟩
  all_goals obtain ⟨h1, h2, h3⟩ := hd
  all_goals simp
  all_goals omega
end Go.Proofs.Ytpkenhcglnognaa

namespace Go.Proofs.Ytpkenhcglnognaa
open Go.ChangeShapes Go.WideShapes Go.ChangeAt Go.RowKit
set_option linter.unusedVariables false
set_option maxRecDepth 10000

/-- x is an int. -/
def IsInt (x : Int) : Prop := -9223372036854775808 ≤ x ∧ x ≤ 9223372036854775807

theorem specIn (x a b : Int) (w : World) :
    Calls Try.prog 15 #[.int .i64 x, .int .i64 a, .int .i64 b] w fun e w' => e = .returned (.bool (decide (a ≤ x ∧ x ≤ b))) ∧ w = w' := by
  by_cases h1 : a ≤ x
  · have e1 : decide (a ≤ x ∧ x ≤ b) = decide (x ≤ b) := by simp [h1]
    rw [e1]
    clear e1
    go_enter Try.func15, Try.ntmps15
    go_wp2
    go_ret
    exact ⟨rfl, rfl⟩
  · have e1 : decide (a ≤ x ∧ x ≤ b) = false := by simp [h1]
    rw [e1]
    clear e1
    go_enter Try.func15, Try.ntmps15
    go_wp2
    go_ret
    exact ⟨rfl, rfl⟩
end Go.Proofs.Ytpkenhcglnognaa

namespace Go.Proofs.Ytpkenhcglnognaa
open Go.ChangeShapes Go.WideShapes Go.ChangeAt Go.RowKit
set_option linter.unusedVariables false
set_option maxRecDepth 10000

/-- The ones sum that a sum stands for. -/
def foldOf (n : Int) : Int := if n = 0 then 0 else (n - 1) % 65535 + 1

theorem isHalf (n : Int) (w : World) :
    Calls Try.prog 48 #[.int .i64 n] w fun e w' => e = .returned (.bool (decide (0 ≤ n ∧ n ≤ 65535))) ∧ w = w' := by
  by_cases h1 : 0 ≤ n
  · have e1 : decide (0 ≤ n ∧ n ≤ 65535) = decide (n ≤ 65535) := by simp [h1]
    rw [e1]
    clear e1
    go_enter Try.func48, Try.ntmps48
    go_wp2
    go_ret
    exact ⟨rfl, rfl⟩
  · have e1 : decide (0 ≤ n ∧ n ≤ 65535) = false := by simp [h1]
    rw [e1]
    clear e1
    go_enter Try.func48, Try.ntmps48
    go_wp2
    go_ret
    exact ⟨rfl, rfl⟩
end Go.Proofs.Ytpkenhcglnognaa

namespace Go.Proofs.Ytpkenhcglnognaa
open Go.ChangeShapes Go.WideShapes Go.ChangeAt Go.RowKit
set_option linter.unusedVariables false
set_option maxRecDepth 10000

/-- Nothing of what was there has turned. -/
def Since (a b : World) : Prop := Below a.heap.size a b

theorem ret_bool {b c : Bool} (h : b = c) : Ending.returned (Value.bool b) = Ending.returned (Value.bool c) := by rw [h]

theorem Since.refl (w : World) : Since w w := Below.refl _ _

theorem Since.trans {a b c : World} (h : Since a b) (k : Since b c) : Since a c := Below.trans h (Below.mono k (Below.size h))

theorem Since.drew {a b : World} (h : Since a b) : Since a b.drew := Below.drew h

theorem Since.alloc {a b : World} (h : Since a b) (o : Obj) : Since a (b.alloc o) := Below.alloc h (Below.size h) o

theorem Since.of {a b : World} (h : Newer a b) : Since a b := h.2

theorem Since.le {a b : World} (h : Since a b) : a.heap.size ≤ b.heap.size := Below.size h
end Go.Proofs.Ytpkenhcglnognaa

namespace Go.Proofs.Ytpkenhcglnognaa
open Go.ChangeShapes Go.WideShapes Go.ChangeAt Go.RowKit
set_option linter.unusedVariables false
set_option maxRecDepth 10000

/-- Since w nothing was written but block g and new blocks. -/
structure Touch (g : Nat) (w w' : World) : Prop where
  os : w'.os = w.os
  tape : w'.tape = w.tape
  output : w'.output = w.output
  size : w.heap.size ≤ w'.heap.size
  block : ∀ k, k < w.heap.size → k ≠ g → w'.heap[k]? = w.heap[k]?

theorem Touch.refl (g : Nat) (w : World) : Touch g w w := ⟨rfl, rfl, rfl, Nat.le_refl _, fun _ _ _ => rfl⟩

theorem Touch.trans {g : Nat} {a b c : World} (h : Touch g a b) (k : Touch g b c) : Touch g a c :=
  ⟨k.os.trans h.os, k.tape.trans h.tape, k.output.trans h.output, Nat.le_trans h.size k.size, fun i hi hg => (k.block i (Nat.lt_of_lt_of_le hi h.size) hg).trans (h.block i hi hg)⟩

theorem Touch.of_below {g B : Nat} {w w' : World} (h : Below B w w') (hB : ∀ k, k < w.heap.size → k ≠ g → k < B) : Touch g w w' :=
  ⟨h.os, h.tape, h.output, h.size, fun k hk hg => h.block k (hB k hk hg)⟩

theorem Touch.setCell {g : Nat} {a w : World} (h : Touch g a w) {p : Addr} (hp : p.block = g) (v : Value) : Touch g a (w.setCell p v) := by
  have hb := (Below.refl 0 w).setCell (p := p) (Nat.zero_le _) v
  exact h.trans ⟨hb.os, hb.tape, hb.output, hb.size, fun k _ hk => Below.heap_setCell w p v k (by rw [hp]; exact hk)⟩

theorem Touch.put {g : Nat} {a w : World} (i : Nat) (v : Value) (h : Touch g a w) : Touch g a (w.setCell ⟨g, i, none⟩ v) := h.setCell (p := ⟨g, i, none⟩) rfl v

theorem Touch.drewN {g : Nat} {a w : World} (h : Touch g a w) (n : Nat) : Touch g a (w.drewN n) := h.trans ⟨rfl, rfl, rfl, Nat.le_refl _, fun _ _ _ => rfl⟩

theorem Touch.drew {g : Nat} {a w : World} (h : Touch g a w) : Touch g a w.drew := h.trans ⟨rfl, rfl, rfl, Nat.le_refl _, fun _ _ _ => rfl⟩

theorem Touch.alloc {g : Nat} {a w : World} (h : Touch g a w) (o : Obj) : Touch g a (w.alloc o) :=
  h.trans (Touch.of_below ((Below.refl w.heap.size w).alloc (Nat.le_refl _) o) fun k hk _ => hk)

theorem Touch.below {g B : Nat} {w0 w w' : World} (h : Touch g w w') (b : Below B w0 w) (hB : B ≤ g) (hs : B ≤ w.heap.size) : Below B w0 w' :=
  b.trans ⟨h.os, h.tape, h.output, h.size, fun k hk => h.block k (by omega) (by omega)⟩

theorem Touch.cell {g : Nat} {w w' : World} (h : Touch g w w') {p : Addr} (hp : p.block ≠ g) (hs : p.block < w.heap.size) : w'.cell? p = w.cell? p := World.cell?_of_block (w := w) (h.block p.block hs hp)

theorem Touch.frozen {g : Nat} {w w' : World} (h : Touch g w w') {p : Addr} (hp : p.block ≠ g) (hs : p.block < w.heap.size) : w'.frozen? p = w.frozen? p := World.frozen?_of_block (w := w) (h.block p.block hs hp)
end Go.Proofs.Ytpkenhcglnognaa

namespace Go.Proofs.Ytpkenhcglnognaa
open Go.ChangeShapes Go.WideShapes Go.ChangeAt Go.RowKit
set_option linter.unusedVariables false
set_option maxRecDepth 10000

theorem Touch.of_since {w w' : World} (h : Since w w') (g : Nat) : Touch g w w' := Touch.of_below h fun _ hk _ => hk

theorem Touch.le {g : Nat} {w w' : World} (h : Touch g w w') : w.heap.size ≤ w'.heap.size := h.size

theorem Since.touch {g : Nat} {a b c : World} (h : Since a b) (k : Touch g b c) (hg : a.heap.size ≤ g) : Since a c := Touch.below k h hg (Below.size h)

/-- Text i of a list. -/
def txt (ss : List ByteArray) (i : Nat) : ByteArray := ss.getD i ByteArray.empty

/-- A slice of texts that can be read: nil, or its cells hold the texts. -/
structure Reads (w : World) (a : Option Addr) (n : Nat) (ss : List ByteArray) : Prop where
  len : ss.length = n
  most : n ≤ maxLen
  cell : ∀ i, i < n → ∃ x, a = some x ∧ x.block < w.heap.size ∧ w.cell? (x.add i) = some (.string (txt ss i))

theorem Reads.touch {w w' : World} {a : Option Addr} {n g : Nat} {ss : List ByteArray} (h : Reads w a n ss) (k : Touch g w w') (hg : ∀ x, a = some x → x.block ≠ g) : Reads w' a n ss := by
  refine ⟨h.len, h.most, fun i hi => ?_⟩
  obtain ⟨x, rfl, hb, hc⟩ := h.cell i hi
  have hbl : (x.add i).block = x.block := by unfold Addr.add; split <;> rfl
  exact ⟨x, rfl, Nat.lt_of_lt_of_le hb k.size, (k.cell (p := x.add i) (by rw [hbl]; exact hg x rfl) (by rw [hbl]; exact hb)).trans hc⟩

theorem Reads.since {w w' : World} {a : Option Addr} {n : Nat} {ss : List ByteArray} (h : Reads w a n ss) (k : Since w w') : Reads w' a n ss := by
  refine ⟨h.len, h.most, fun i hi => ?_⟩
  obtain ⟨x, rfl, hb, hc⟩ := h.cell i hi
  have hbl : (x.add i).block = x.block := by unfold Addr.add; split <;> rfl
  exact ⟨x, rfl, Nat.lt_of_lt_of_le hb (Below.size k), (Below.cell k (p := x.add i) (by rw [hbl]; exact hb)).trans hc⟩

/-- A list of texts of our own: block g, n texts, room for cap. -/
def Texts (w : World) (B g n cap : Nat) (ss : List ByteArray) : Prop :=
  ss.length = n ∧ w.ownsRow B 9 1 (.slice (some ⟨g, 0, none⟩) n cap) n (ss.map Value.string)

theorem Texts.len {w : World} {B g n cap : Nat} {ss : List ByteArray} (h : Texts w B g n cap ss) : ss.length = n := h.1

theorem Texts.low {w : World} {B g n cap : Nat} {ss : List ByteArray} (h : Texts w B g n cap ss) : B ≤ g := (h.2.lt g rfl).1

theorem Texts.lt {w : World} {B g n cap : Nat} {ss : List ByteArray} (h : Texts w B g n cap ss) : g < w.heap.size := (h.2.lt g rfl).2

theorem Texts.parts {w : World} {B g n cap : Nat} {ss : List ByteArray} (h : Texts w B g n cap ss) : ∃ cur, B ≤ g ∧ w.heap[g]? = some (.cells cur 9 (0, 0)) ∧ n ≤ cap ∧ cap ≤ maxLen ∧ cur.size = cap ∧ cur.toList.take n = ss.map Value.string := by
  rcases h.2.2 with ⟨h1, _⟩ | ⟨g', cap', cur, h1, h2, h3, h4, h5, h6, h7⟩
  · cases h1
  · simp only [Value.slice.injEq, Option.some.injEq, Addr.mk.injEq] at h1
    obtain ⟨⟨rfl, _, _⟩, _, rfl⟩ := h1
    exact ⟨cur, h2, h3, h4, h5, by simpa using h6, by simpa using h7⟩

theorem Texts.mk' {w : World} {B g n cap : Nat} {ss : List ByteArray} {cur : Array Value} (hl : ss.length = n) (h2 : B ≤ g) (h3 : w.heap[g]? = some (.cells cur 9 (0, 0))) (h4 : n ≤ cap) (h5 : cap ≤ maxLen) (h6 : cur.size = cap) (h7 : cur.toList.take n = ss.map Value.string) : Texts w B g n cap ss :=
  ⟨hl, by simpa using hl, .inr ⟨g, cap, cur, rfl, h2, h3, h4, h5, by simpa using h6, by simpa using h7⟩⟩

theorem Texts.room {w : World} {B g n cap : Nat} {ss : List ByteArray} (h : Texts w B g n cap ss) : n ≤ cap ∧ cap ≤ maxLen := by
  obtain ⟨cur, _, _, h4, h5, _⟩ := h.parts
  exact ⟨h4, h5⟩

theorem Texts.mono {w : World} {B B' g n cap : Nat} {ss : List ByteArray} (h : Texts w B g n cap ss) (hB : B' ≤ B) : Texts w B' g n cap ss := by
  obtain ⟨cur, h2, h3, h4, h5, h6, h7⟩ := h.parts
  exact Texts.mk' h.1 (Nat.le_trans hB h2) h3 h4 h5 h6 h7

theorem Texts.raise {w : World} {B B' g n cap : Nat} {ss : List ByteArray} (h : Texts w B g n cap ss) (hB : B' ≤ g) : Texts w B' g n cap ss := by
  obtain ⟨cur, h2, h3, h4, h5, h6, h7⟩ := h.parts
  exact Texts.mk' h.1 hB h3 h4 h5 h6 h7

theorem Texts.block {w w' : World} {B g n cap : Nat} {ss : List ByteArray} (h : Texts w B g n cap ss) (hb : w'.heap[g]? = w.heap[g]?) : Texts w' B g n cap ss := by
  obtain ⟨cur, h2, h3, h4, h5, h6, h7⟩ := h.parts
  exact Texts.mk' h.1 h2 (hb.trans h3) h4 h5 h6 h7

theorem Texts.since {w w' : World} {B g n cap : Nat} {ss : List ByteArray} (h : Texts w B g n cap ss) (k : Since w w') : Texts w' B g n cap ss := h.block (Below.block k g h.lt)

theorem Texts.touch {w w' : World} {B g n cap g' : Nat} {ss : List ByteArray} (h : Texts w B g n cap ss) (k : Touch g' w w') (hne : g ≠ g') : Texts w' B g n cap ss := h.block (k.block g h.lt hne)

theorem Texts.cell {w : World} {B g n cap : Nat} {ss : List ByteArray} (h : Texts w B g n cap ss) (i : Nat) (hi : i < n) : w.cell? ⟨g, i, none⟩ = some (.string (txt ss i)) := by
  have hl : i < ss.length := by rw [h.1]; exact hi
  have hc := h.2.cells (g := g) rfl i (.string (txt ss i)) (by simp [txt, List.getD, List.getElem?_eq_getElem hl])
  rwa [show (⟨g, 0, none⟩ : Addr).add i = ⟨g, i, none⟩ by simp [Addr.add]; omega] at hc

theorem Texts.free {w : World} {B g n cap : Nat} {ss : List ByteArray} (h : Texts w B g n cap ss) (i : Nat) : w.frozen? ⟨g, i, none⟩ = false := by
  obtain ⟨cur, h2, h3, h4, h5, h6, h7⟩ := h.parts
  exact frozen_of_row w g i cur _ h3

theorem Texts.set {w : World} {B g n cap : Nat} {ss : List ByteArray} (h : Texts w B g n cap ss) (i : Nat) (hi : i < n) (s : ByteArray) : Texts (w.setCell ⟨g, i, none⟩ (.string s)) B g n cap (ss.set i s) := by
  obtain ⟨cur, h2, h3, h4, h5, h6, h7⟩ := h.parts
  have hs := heap_setCell_same w g i cur _ (.string s) h3
  refine Texts.mk' (by rw [List.length_set]; exact h.1) h2 hs h4 h5 (by simpa using h6) ?_
  rw [List.map_set, ← h7, Array.toList_setIfInBounds, List.take_set]

theorem Texts.other {w : World} {B g n cap : Nat} {ss : List ByteArray} (h : Texts w B g n cap ss) {b : Nat} (hne : g ≠ b) (i : Nat) (v : Value) : Texts (w.setCell ⟨b, i, none⟩ v) B g n cap ss := h.block (Below.heap_setCell w ⟨b, i, none⟩ v g hne)

theorem Reads.other {w : World} {a : Option Addr} {n : Nat} {ss : List ByteArray} (h : Reads w a n ss) {b : Nat} (hne : ∀ x, a = some x → x.block ≠ b) (i : Nat) (v : Value) : Reads (w.setCell ⟨b, i, none⟩ v) a n ss := h.touch ((Touch.refl b w).put i v) hne

theorem Texts.reads {w : World} {B g n cap : Nat} {ss : List ByteArray} (h : Texts w B g n cap ss) : Reads w (some ⟨g, 0, none⟩) n ss := by
  refine ⟨h.1, Nat.le_trans h.room.1 h.room.2, fun i hi => ⟨_, rfl, h.lt, ?_⟩⟩
  rw [show (⟨g, 0, none⟩ : Addr).add i = ⟨g, i, none⟩ by simp [Addr.add]; omega]
  exact h.cell i hi

/-- Block b holds this one cell, and may be written. -/
structure Rec1 (b : Nat) (x : World) (c0 : Value) : Prop where
  lt : b < x.heap.size
  fz : ∀ i, x.frozen? ⟨b, i, none⟩ = false
  c0 : x.cell? ⟨b, 0, none⟩ = some c0

theorem Rec1.since {b : Nat} {x x' : World} {c0 : Value} (k : Rec1 b x c0) (h : Since x x') : Rec1 b x' c0 :=
  ⟨Nat.lt_of_lt_of_le k.lt h.le, fun i => (Below.frozen h (p := ⟨b, i, none⟩) k.lt).trans (k.fz i), (Below.cell h (p := ⟨b, 0, none⟩) k.lt).trans k.c0⟩

theorem Rec1.touch {b g : Nat} {x x' : World} {c0 : Value} (k : Rec1 b x c0) (h : Touch g x x') (hne : b ≠ g) : Rec1 b x' c0 :=
  ⟨Nat.lt_of_lt_of_le k.lt h.size, fun i => (h.frozen (p := ⟨b, i, none⟩) hne k.lt).trans (k.fz i), (h.cell (p := ⟨b, 0, none⟩) hne k.lt).trans k.c0⟩

theorem Rec1.new (x : World) (c0 : Value) (t : TypeId) : Rec1 x.heap.size (x.alloc (.cells #[c0] t)) c0 := ⟨by simp, fun i => by simp, by simp⟩

theorem Rec1.put {b : Nat} {x : World} {c0 : Value} (k : Rec1 b x c0) (v : Value) : Rec1 b (x.setCell ⟨b, 0, none⟩ v) v :=
  ⟨by have := k.lt; simpa [World.setCell] using this, fun j => (World.frozen?_setCell _ _ _ _).trans (k.fz j), World.cell?_setCell_same' _ _ _ (by rw [k.c0]; rfl)⟩

theorem Rec1.other {a b : Nat} {x : World} {c0 : Value} (k : Rec1 b x c0) (hne : b ≠ a) (i : Nat) (v : Value) : Rec1 b (x.setCell ⟨a, i, none⟩ v) c0 :=
  ⟨by have := k.lt; simpa [World.setCell] using this, fun j => (World.frozen?_setCell _ _ _ _).trans (k.fz j), (World.cell?_setCell_other x _ _ v (fun h => hne (congrArg Addr.block h).symm)).trans k.c0⟩

/-- Block b holds these cells, and may be written. -/
structure Blk (b : Nat) (x : World) (cs : Array Value) : Prop where
  lt : b < x.heap.size
  fz : ∀ i, x.frozen? ⟨b, i, none⟩ = false
  cell : ∀ i : Nat, x.cell? ⟨b, i, none⟩ = cs[i]?

theorem Blk.since {b : Nat} {x x' : World} {cs : Array Value} (k : Blk b x cs) (h : Since x x') : Blk b x' cs :=
  ⟨Nat.lt_of_lt_of_le k.lt h.le, fun i => (Below.frozen h (p := ⟨b, i, none⟩) k.lt).trans (k.fz i), fun i => (Below.cell h (p := ⟨b, i, none⟩) k.lt).trans (k.cell i)⟩

theorem Blk.touch {b g : Nat} {x x' : World} {cs : Array Value} (k : Blk b x cs) (h : Touch g x x') (hne : b ≠ g) : Blk b x' cs :=
  ⟨Nat.lt_of_lt_of_le k.lt h.size, fun i => (h.frozen (p := ⟨b, i, none⟩) hne k.lt).trans (k.fz i), fun i => (h.cell (p := ⟨b, i, none⟩) hne k.lt).trans (k.cell i)⟩

theorem Blk.new (x : World) (cs : Array Value) (t : TypeId) : Blk x.heap.size (x.alloc (.cells cs t)) cs := ⟨by simp, fun i => by simp, fun i => World.cell?_alloc_mark x _ _ _ i⟩

theorem Blk.other {a b : Nat} {x : World} {cs : Array Value} (k : Blk b x cs) (hne : b ≠ a) (i : Nat) (v : Value) : Blk b (x.setCell ⟨a, i, none⟩ v) cs :=
  k.touch ((Touch.refl a x).put i v) hne

theorem since_put1 {w x : World} {b : Nat} (h : Since w x) (hb : w.heap.size ≤ b) (i : Nat) (v : Value) : Since w (x.setCell ⟨b, i, none⟩ v) := Below.setCell h (p := ⟨b, i, none⟩) hb v

theorem since_drews {w x : World} (h : Since w x) (n : Nat) : Since w (x.drewN n) := ⟨h.os, h.tape, h.output, h.size, h.block⟩
end Go.Proofs.Ytpkenhcglnognaa

namespace Go.Proofs.Ytpkenhcglnognaa
open Go.ChangeShapes Go.WideShapes Go.ChangeAt Go.RowKit Go.Deep
set_option linter.unusedVariables false
set_option maxRecDepth 10000

/-- A shape of elements: their type's number, how many cells each has, and which. -/
structure Shape (α : Type) where
  ty : TypeId
  k : Nat
  enc : α → List Value
  len : ∀ x, (enc x).length = k
  one : ∀ x, ∀ v ∈ enc x, v.oneCell' = true
  z : α
  pos : 0 < k

section
variable {α : Type} (S : Shape α)

/-- The cells of a list. -/
def Shape.cells (xs : List α) : List Value := xs.flatMap S.enc

/-- Element i. -/
def Shape.get (xs : List α) (i : Nat) : α := xs.getD i S.z

theorem Shape.cells_len (xs : List α) : (S.cells xs).length = xs.length * S.k := by
  induction xs with
  | nil => simp [Shape.cells]
  | cons x r ih =>
    simp only [Shape.cells, List.flatMap_cons, List.length_append, S.len] at ih ⊢
    rw [ih, List.length_cons, Nat.add_mul]
    omega

theorem Shape.cells_append (xs ys : List α) : S.cells (xs ++ ys) = S.cells xs ++ S.cells ys := by simp [Shape.cells]

theorem Shape.cells_at (xs : List α) : ∀ (i j : Nat), i < xs.length → j < S.k → (S.cells xs)[i * S.k + j]? = (S.enc (S.get xs i))[j]? := by
  induction xs with
  | nil => intro i j h; simp at h
  | cons x r ih =>
    intro i j hi hj
    have e : S.cells (x :: r) = S.enc x ++ S.cells r := by simp [Shape.cells]
    rw [e]
    cases i with
    | zero =>
      rw [Nat.zero_mul, Nat.zero_add, List.getElem?_append_left (by rw [S.len]; exact hj)]
      simp [Shape.get]
    | succ i =>
      rw [List.getElem?_append_right (by rw [S.len, Nat.add_mul]; omega), S.len, show (i + 1) * S.k + j - S.k = i * S.k + j by rw [Nat.add_mul]; omega, ih i j (by simpa using hi) hj]
      simp [Shape.get]

theorem Shape.get_lt {xs : List α} {i : Nat} (h : i < xs.length) : S.get xs i = xs[i] := by simp [Shape.get, List.getD, List.getElem?_eq_getElem h]

theorem Shape.take_set (xs : List α) (n k : Nat) (hl : xs.length = n) (hk : k < n) : (xs.take k ++ List.replicate (n - k) S.z).set k (S.get xs k) = xs.take (k + 1) ++ List.replicate (n - (k + 1)) S.z := by
  have hk' : k < xs.length := by omega
  have e : S.get xs k = xs[k] := S.get_lt hk'
  have h1 : List.replicate (n - k) S.z = S.z :: List.replicate (n - (k + 1)) S.z := by
    rw [show n - k = (n - (k + 1)) + 1 by omega, List.replicate_succ]
  have hlen : (xs.take k).length = k := by rw [List.length_take]; omega
  have h2 : xs.take (k + 1) = xs.take k ++ [xs[k]] := by rw [List.take_succ_eq_append_getElem hk']
  rw [h1, h2, e]
  generalize xs.take k = l at hlen ⊢
  subst hlen
  simp

/-- A slice that can be read: nil, or its cells hold the elements. -/
structure Rd (w : World) (a : Option Addr) (n : Nat) (xs : List α) : Prop where
  len : xs.length = n
  most : n ≤ maxLen
  cell : ∀ i, i < n → ∃ x, a = some x ∧ x.block < w.heap.size ∧ ∀ j, j < S.k → w.cell? (x.add (i * S.k + j)) = (S.enc (S.get xs i))[j]?

variable {S} {w w' : World} {a : Option Addr} {n : Nat} {xs : List α}

theorem add_block (x : Addr) (j : Nat) : (x.add j).block = x.block := by unfold Addr.add; split <;> rfl

theorem Rd.since (h : Rd S w a n xs) (k : Since w w') : Rd S w' a n xs := by
  refine ⟨h.len, h.most, fun i hi => ?_⟩
  obtain ⟨x, rfl, hb, hc⟩ := h.cell i hi
  exact ⟨x, rfl, Nat.lt_of_lt_of_le hb (Below.size k), fun j hj => (Below.cell k (p := x.add _) (by rw [add_block]; exact hb)).trans (hc j hj)⟩

theorem Rd.touch {g : Nat} (h : Rd S w a n xs) (k : Touch g w w') (hg : ∀ x, a = some x → x.block ≠ g) : Rd S w' a n xs := by
  refine ⟨h.len, h.most, fun i hi => ?_⟩
  obtain ⟨x, rfl, hb, hc⟩ := h.cell i hi
  exact ⟨x, rfl, Nat.lt_of_lt_of_le hb k.size, fun j hj => (k.cell (p := x.add _) (by rw [add_block]; exact hg x rfl) (by rw [add_block]; exact hb)).trans (hc j hj)⟩

theorem Rd.other (h : Rd S w a n xs) {b : Nat} (hne : ∀ x, a = some x → x.block ≠ b) (i : Nat) (v : Value) : Rd S (w.setCell ⟨b, i, none⟩ v) a n xs := h.touch ((Touch.refl b w).put i v) hne

theorem addr_step (x : Addr) (m j : Nat) (hj : 0 < j) : (⟨(x.add m).block, (x.add m).off + j, none⟩ : Addr) = x.add (m + j) := by
  unfold Addr.add
  by_cases hm : m = 0
  · subst hm
    simp [show j ≠ 0 by omega]
  · simp [hm]
    omega

/-- A list of our own, as a slice's value v (nil, or a block of ours from B on). -/
def Own (S : Shape α) (w : World) (B : Nat) (v : Value) (n : Nat) (xs : List α) : Prop := xs.length = n ∧ w.ownsRow B S.ty S.k v n (S.cells xs)

/-- .. in block g. -/
def Held (S : Shape α) (w : World) (B g n cap : Nat) (xs : List α) : Prop := Own S w B (.slice (some ⟨g, 0, none⟩) n cap) n xs

theorem Own.len {B : Nat} {v : Value} (h : Own S w B v n xs) : xs.length = n := h.1

theorem Own.nil (w : World) (B : Nat) : Own S w B (.slice none 0 0) 0 [] := ⟨rfl, by simpa [Shape.cells] using World.ownsRow_nil w B S.ty S.k⟩

theorem Own.kept {B : Nat} {v : Value} {row : Option Nat} (h : Own S w B v n xs) (hg : w.grownBy w' row) (hne : v.ownBlock = none ∨ v.ownBlock ≠ row) : Own S w' B v n xs := ⟨h.1, h.2.kept hg hne⟩

theorem grown_of_since {w w' : World} (k : Since w w') : w.grownBy w' none := ⟨Below.os k, Below.tape k, Below.output k, Below.size k, fun j hj _ => Below.block k j hj⟩

theorem grown_of_touch {g : Nat} {w w' : World} (k : Touch g w w') : w.grownBy w' (some g) := ⟨k.os, k.tape, k.output, k.size, fun j hj hne => k.block j hj (fun e => hne (by rw [e]))⟩

theorem Own.since {B : Nat} {v : Value} (h : Own S w B v n xs) (k : Since w w') : Own S w' B v n xs := h.kept (grown_of_since k) (by cases hv : v.ownBlock <;> simp)

theorem Own.touch {B g : Nat} {v : Value} (h : Own S w B v n xs) (k : Touch g w w') (hne : v.ownBlock ≠ some g) : Own S w' B v n xs := h.kept (grown_of_touch k) (.inr hne)

theorem Own.lt {B g : Nat} {v : Value} (h : Own S w B v n xs) (hg : v.ownBlock = some g) : B ≤ g ∧ g < w.heap.size := h.2.lt g hg

theorem Own.low {B B' : Nat} {v : Value} (h : Own S w B v n xs) (hB : B' ≤ B) : Own S w B' v n xs := by
  refine ⟨h.1, h.2.1, ?_⟩
  rcases h.2.2 with h1 | ⟨g, cap, cur, h1, h2, h3⟩
  · exact .inl h1
  · exact .inr ⟨g, cap, cur, h1, Nat.le_trans hB h2, h3⟩

theorem Own.raise {B B' : Nat} {v : Value} (h : Own S w B v n xs) (hB : ∀ g, v.ownBlock = some g → B' ≤ g) : Own S w B' v n xs := by
  refine ⟨h.1, h.2.1, ?_⟩
  rcases h.2.2 with h1 | ⟨g, cap, cur, h1, h2, h3⟩
  · exact .inl h1
  · exact .inr ⟨g, cap, cur, h1, hB g (by rw [h1]; rfl), h3⟩

/-- Its value. -/
theorem Own.form {B : Nat} {v : Value} (h : Own S w B v n xs) : ∃ a cap, v = .slice a n cap ∧ (a = none → n = 0 ∧ cap = 0) ∧ ∀ x, a = some x → x = ⟨x.block, 0, none⟩ ∧ v.ownBlock = some x.block := by
  rcases h.2.2 with ⟨rfl, rfl⟩ | ⟨g, cap, cur, rfl, _⟩
  · exact ⟨none, 0, rfl, fun _ => ⟨rfl, rfl⟩, fun x hx => by cases hx⟩
  · exact ⟨_, cap, rfl, fun h => (by cases h), fun x hx => by cases hx; exact ⟨rfl, rfl⟩⟩

theorem Own.most {B : Nat} {v : Value} (h : Own S w B v n xs) : n ≤ maxLen := by
  rcases h.2.2 with ⟨_, rfl⟩ | ⟨g, cap, cur, _, _, _, h4, h5, _⟩
  · exact Nat.zero_le _
  · omega

theorem Own.reads {B : Nat} {a : Option Addr} {cap : Nat} (h : Own S w B (.slice a n cap) n xs) : Rd S w a n xs := by
  refine ⟨h.1, h.most, fun i hi => ?_⟩
  obtain ⟨g, cap', hv, _, hlt⟩ := h.2.form (by omega)
  injection hv with hv _ _
  subst hv
  refine ⟨_, rfl, hlt, fun j hj => ?_⟩
  have hil : i < xs.length := by rw [h.1]; exact hi
  rw [← S.cells_at xs i j hil hj]
  have hlen : i * S.k + j < (S.cells xs).length := by
    rw [S.cells_len]
    have : (i + 1) * S.k ≤ xs.length * S.k := Nat.mul_le_mul_right _ hil
    rw [Nat.add_mul] at this
    omega
  rw [List.getElem?_eq_getElem hlen]
  exact h.2.cells (g := g) rfl _ _ (List.getElem?_eq_getElem hlen)

theorem Held.lt {B g cap : Nat} (h : Held S w B g n cap xs) : g < w.heap.size := (Own.lt h (g := g) rfl).2

theorem Held.low' {B g cap : Nat} (h : Held S w B g n cap xs) : B ≤ g := (Own.lt h (g := g) rfl).1

theorem Held.reads {B g cap : Nat} (h : Held S w B g n cap xs) : Rd S w (some ⟨g, 0, none⟩) n xs := Own.reads h

theorem Held.since {B g cap : Nat} (h : Held S w B g n cap xs) (k : Since w w') : Held S w' B g n cap xs := Own.since h k

theorem Held.touch {B g g' cap : Nat} (h : Held S w B g n cap xs) (k : Touch g' w w') (hne : g ≠ g') : Held S w' B g n cap xs := Own.touch h k (by simpa [Value.ownBlock] using hne)

theorem Held.other {B g b cap : Nat} (h : Held S w B g n cap xs) (hne : g ≠ b) (i : Nat) (v : Value) : Held S (w.setCell ⟨b, i, none⟩ v) B g n cap xs := h.touch ((Touch.refl b w).put i v) hne

theorem Held.raise {B B' g cap : Nat} (h : Held S w B g n cap xs) (hB : B' ≤ g) : Held S w B' g n cap xs := Own.raise h (fun g' e => by simp [Value.ownBlock] at e; omega)

theorem Held.cell {B g cap : Nat} (h : Held S w B g n cap xs) (i : Nat) (hi : i < n) (j : Nat) (hj : j < S.k) : w.cell? ⟨g, i * S.k + j, none⟩ = (S.enc (S.get xs i))[j]? := by
  obtain ⟨x, hx, _, hc⟩ := h.reads.cell i hi
  cases hx
  have := hc j hj
  rwa [show (⟨g, 0, none⟩ : Addr).add (i * S.k + j) = ⟨g, i * S.k + j, none⟩ by unfold Addr.add; split <;> simp_all] at this

theorem Held.free {B g cap : Nat} (h : Held S w B g n cap xs) (i : Nat) : w.frozen? ⟨g, i, none⟩ = false := World.ownsRow.frozenAt h.2 i

theorem Held.heap {B g cap : Nat} (h : Held S w B g n cap xs) : ∃ cur, w.heap[g]? = some (.cells cur S.ty (0, 0)) ∧ cur.size = cap * S.k ∧ n ≤ cap ∧ cap ≤ maxLen ∧ cur.toList.take (n * S.k) = S.cells xs := by
  rcases h.2.2 with ⟨h1, _⟩ | ⟨g', cap', cur, h1, h2, h3, h4, h5, h6, h7⟩
  · cases h1
  · simp only [Value.slice.injEq, Option.some.injEq, Addr.mk.injEq] at h1
    obtain ⟨⟨rfl, _, _⟩, _, rfl⟩ := h1
    exact ⟨cur, h3, h6, h4, h5, h7⟩

theorem Held.mk' {B g cap : Nat} {cur : Array Value} (hl : xs.length = n) (h2 : B ≤ g) (h3 : w.heap[g]? = some (.cells cur S.ty (0, 0))) (h4 : n ≤ cap) (h5 : cap ≤ maxLen) (h6 : cur.size = cap * S.k) (h7 : cur.toList.take (n * S.k) = S.cells xs) : Held S w B g n cap xs :=
  ⟨hl, by rw [S.cells_len, hl], .inr ⟨g, cap, cur, rfl, h2, h3, h4, h5, h6, h7⟩⟩

/-- Several stores into one block, one behind another. -/
def putCells (w : World) (g m : Nat) : List Value → World
  | [] => w
  | v :: r => putCells (w.setCell ⟨g, m, none⟩ v) g (m + 1) r

theorem putCells_heap (g : Nat) (t : TypeId) : ∀ (vs : List Value) (w : World) (m : Nat) (cur : Array Value), w.heap[g]? = some (.cells cur t (0, 0)) → ∃ cur', (putCells w g m vs).heap[g]? = some (.cells cur' t (0, 0)) ∧ cur'.size = cur.size ∧ ∀ i : Nat, cur'[i]? = if m ≤ i ∧ i < m + vs.length ∧ i < cur.size then vs[i - m]? else cur[i]?
  | [], w, m, cur, h => ⟨cur, h, rfl, fun i => by simp; omega⟩
  | v :: r, w, m, cur, h => by
    have h1 := heap_setCell_same w g m cur t v h
    obtain ⟨cur', h2, h3, h4⟩ := putCells_heap g t r _ (m + 1) _ h1
    refine ⟨cur', h2, by simpa using h3, fun i => ?_⟩
    rw [h4 i]
    simp only [Array.size_setIfInBounds, List.length_cons]
    by_cases e : i = m
    · subst e
      by_cases hl : i < cur.size
      · rw [if_neg (by omega), if_pos (by omega)]
        simp [hl]
      · rw [if_neg (by omega), if_neg (by omega)]
        simp [hl]
    · by_cases hc : m + 1 ≤ i ∧ i < m + 1 + r.length ∧ i < cur.size
      · rw [if_pos hc, if_pos (by omega), show i - m = (i - (m + 1)) + 1 by omega]
        simp
      · rw [if_neg hc, if_neg (by omega)]
        simp [Ne.symm e]

theorem Held.set {B g cap : Nat} (h : Held S w B g n cap xs) (i : Nat) (hi : i < n) (x : α) : Held S (putCells w g (i * S.k) (S.enc x)) B g n cap (xs.set i x) := by
  obtain ⟨cur, h3, h6, h4, h5, h7⟩ := h.heap
  obtain ⟨cur', c1, c2, c3⟩ := putCells_heap g S.ty (S.enc x) w (i * S.k) cur h3
  have hl := h.1
  refine Held.mk' (by rw [List.length_set]; exact hl) h.low' c1 h4 h5 (by rw [c2]; exact h6) ?_
  have hpos := S.pos
  have hmul : ∀ a b : Nat, a < b → a * S.k + S.k ≤ b * S.k := fun a b hab => by
    have : (a + 1) * S.k ≤ b * S.k := Nat.mul_le_mul_right _ hab
    rwa [Nat.add_mul, Nat.one_mul] at this
  have hcap : n * S.k ≤ cap * S.k := Nat.mul_le_mul_right _ h4
  apply List.ext_getElem?
  intro t
  by_cases ht : t < n * S.k
  · obtain ⟨i', j', hj', rfl⟩ : ∃ i' j', j' < S.k ∧ t = i' * S.k + j' := ⟨t / S.k, t % S.k, Nat.mod_lt _ hpos, by rw [Nat.mul_comm]; exact (Nat.div_add_mod t S.k).symm⟩
    have hi' : i' < n := by
      rcases Nat.lt_or_ge i' n with h1 | h1
      · exact h1
      · have : n * S.k ≤ i' * S.k := Nat.mul_le_mul_right _ h1
        omega
    rw [S.cells_at _ i' j' (by rw [List.length_set, hl]; exact hi') hj', List.getElem?_take_of_lt ht]
    rw [Array.getElem?_toList, c3, S.len]
    by_cases e : i' = i
    · subst e
      rw [if_pos (by omega), show i' * S.k + j' - i' * S.k = j' by omega]
      rw [S.get_lt (by rw [List.length_set, hl]; exact hi')]
      simp
    · have hne : ¬ (i * S.k ≤ i' * S.k + j' ∧ i' * S.k + j' < i * S.k + S.k ∧ i' * S.k + j' < cur.size) := by
        rintro ⟨a1, a2, _⟩
        rcases Nat.lt_or_ge i' i with h1 | h1
        · have := hmul i' i h1
          omega
        · have := hmul i i' (by omega)
          omega
      rw [if_neg hne]
      have e1 : S.get (xs.set i x) i' = S.get xs i' := by simp [Shape.get, List.getD, Ne.symm e]
      rw [e1, ← S.cells_at xs i' j' (by rw [hl]; exact hi') hj', ← h7, List.getElem?_take_of_lt ht, Array.getElem?_toList]
  · rw [List.getElem?_eq_none (by rw [List.length_take]; omega), List.getElem?_eq_none (by rw [S.cells_len, List.length_set, hl]; omega)]

theorem Held.of_owns {B : Nat} {g cap : Nat} {ys : List Value} (hl : xs.length = n) (e : ys = S.cells xs) (h : w.ownsRow B S.ty S.k (.slice (some ⟨g, 0, none⟩) n cap) n ys) : Held S w B g n cap xs := ⟨hl, e ▸ h⟩

/-- Block g has room for n elements, whatever lies there. -/
def RawT (S : Shape α) (w : World) (g m : Nat) : Prop := ∃ cur, w.heap[g]? = some (.cells cur S.ty (0, 0)) ∧ m ≤ cur.size

theorem Held.raw {B g cap : Nat} (h : Held S w B g n cap xs) : RawT S w g (n * S.k) := by
  obtain ⟨cur, h3, h6, h4, h5, h7⟩ := h.heap
  exact ⟨cur, h3, by rw [h6]; exact Nat.mul_le_mul_right _ h4⟩

theorem RawT.put {g m : Nat} (h : RawT S w g m) (i : Nat) (v : Value) : RawT S (w.setCell ⟨g, i, none⟩ v) g m := by
  obtain ⟨cur, h1, h2⟩ := h
  exact ⟨_, heap_setCell_same w g i cur _ v h1, by simpa using h2⟩

theorem RawT.cell {g m : Nat} (h : RawT S w g m) (i : Nat) (hi : i < m) : ∃ u, w.cell? ⟨g, i, none⟩ = some u := by
  obtain ⟨cur, h1, h2⟩ := h
  exact ⟨cur[i], by rw [cell_of_row w g i cur _ _ h1]; simp⟩

theorem RawT.free {g m : Nat} (h : RawT S w g m) (i : Nat) : w.frozen? ⟨g, i, none⟩ = false := by
  obtain ⟨cur, h1, h2⟩ := h
  exact frozen_of_row w g i cur _ h1

theorem RawT.since {g m : Nat} (h : RawT S w g m) (k : Since w w') : RawT S w' g m := by
  obtain ⟨cur, h1, h2⟩ := h
  have hlt : g < w.heap.size := by
    rcases Nat.lt_or_ge g w.heap.size with h3 | h3
    · exact h3
    · rw [Array.getElem?_eq_none h3] at h1
      cases h1
  exact ⟨cur, (Below.block k g hlt).trans h1, h2⟩

end

theorem Blk.put {b : Nat} {x : World} {cs : Array Value} (k : Blk b x cs) (i : Nat) (v : Value) (hi : i < cs.size) : Blk b (x.setCell ⟨b, i, none⟩ v) (cs.setIfInBounds i v) := by
  refine ⟨by have := k.lt; simpa [World.setCell] using this, fun j => (World.frozen?_setCell _ _ _ _).trans (k.fz j), fun j => ?_⟩
  by_cases e : j = i
  · subst e
    have hc := k.cell j
    rw [Array.getElem?_eq_getElem hi] at hc
    rw [World.cell?_setCell_same' _ _ _ (by rw [hc]; rfl)]
    simp [hi]
  · rw [World.cell?_setCell_other x _ _ v (fun h => e (congrArg Addr.off h).symm), k.cell j]
    simp [Ne.symm e]

theorem Own.cases {α : Type} {S : Shape α} {w : World} {B n : Nat} {v : Value} {xs : List α} (h : Own S w B v n xs) : (v = .slice none 0 0 ∧ n = 0 ∧ xs = []) ∨ ∃ g cap, v = .slice (some ⟨g, 0, none⟩) n cap ∧ Held S w B g n cap xs := by
  rcases h.2.2 with ⟨h1, h2⟩ | ⟨g, cap, cur, h1, _⟩
  · exact .inl ⟨h1, h2, List.eq_nil_of_length_eq_zero (h.1.trans h2)⟩
  · subst h1
    exact .inr ⟨g, cap, rfl, h⟩

theorem since_touch {w x y : World} {b : Nat} (h : Since w x) (k : Touch b x y) (hb : w.heap.size ≤ b) : Since w y := Touch.below k h hb h.le

end Go.Proofs.Ytpkenhcglnognaa
