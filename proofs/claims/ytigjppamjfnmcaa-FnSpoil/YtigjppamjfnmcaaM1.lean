/-
  Contracts of the functions on places: what impl's and spec's SeqDist, SeqLess, SeqLessEq and SeqMax answer, at every two words; no condition but that the arguments are words.
  Since a world nothing was written but one block and new blocks.
  The cursor of a draw: what the drawing functions of the specification answer, as far as the laws need it: a byte is a byte, a number below n is below n, and nothing is written but the cursor's own block and new blocks.
  The numbers that a draw mixes in run through every number of 64 bits: so the draw of a text comes to its end, whatever the bytes.
  The cursor of a draw, number by number: what l01Byte and l01Below leave of it.
  The draw of a text: l01Text comes to its end with a text of just the length asked for, whatever the bytes.
-/
import Derived.Test.YtigjppamjfnmcaaRows
import Derived.WalkKit
import Derived.ProofKit
import Derived.OpenShut
import Derived.WalkSpells
import Derived.Below
import Derived.BigQuiet
import Derived.WalkLawsBesides
import Derived.WalkSmall
import Derived.Deep.QuietTactic
import Derived.LoopTactic
import Derived.Laws.BytesArg
import Derived.OwnWalk
import Derived.RangeFuncBox
namespace Go.Proofs.Ytigjppamjfnmcaa
open Go.ChangeShapes Go.WideShapes Go.ChangeAt Go.RowKit
set_option linter.unusedVariables false

/-- What was there is as it was; there may be new blocks. -/
def Newer (w w' : World) : Prop := Grown w w' ∧ Below w.heap.size w w'

theorem Newer.refl (w : World) : Newer w w := ⟨Grown.refl _, Below.refl _ _⟩

theorem Newer.trans {a b c : World} (h : Newer a b) (k : Newer b c) : Newer a c :=
  ⟨⟨World.keptBut_trans h.1.1 k.1.1, fun x => (k.1.2.1 x).trans (h.1.2.1 x), Nat.le_trans h.1.2.2 k.1.2.2⟩, h.2.trans (k.2.mono h.1.2.2)⟩

theorem Newer.size {a b : World} (h : Newer a b) : a.heap.size ≤ b.heap.size := h.1.2.2

theorem Newer.alloc {a b : World} (h : Newer a b) (c : Array Value) (t : TypeId) : Newer a (b.alloc (.cells c t)) :=
  ⟨Grown.alloc h.1 c t, h.2.alloc h.1.2.2 _⟩

theorem Newer.drew {a b : World} (h : Newer a b) : Newer a b.drew := ⟨Grown.drew h.1, h.2.drew⟩

theorem Newer.setCell {a b : World} (h : Newer a b) {p : Addr} (hp : a.heap.size ≤ p.block) (v : Value) : Newer a (b.setCell p v) :=
  ⟨Grown.setCell h.1 hp v, h.2.setCell hp v⟩

theorem tmod_small (x m : Int) (h1 : -m < x) (h2 : x < m) : x.tmod m = x := by
  by_cases h : 0 ≤ x
  · rw [Int.tmod_eq_emod_of_nonneg h, Int.emod_eq_of_lt h h2]
  · have e : x = -(-x) := by omega
    rw [e, Int.neg_tmod, Int.tmod_eq_emod_of_nonneg (by omega), Int.emod_eq_of_lt (by omega) (by omega)]

/-- x is a word. -/
def IsWord (x : Int) : Prop := 0 ≤ x ∧ x < 4294967296

theorem isWord_wf {x : Int} (h : (Lit.int .u32 x).wf = true) : IsWord x := by
  have := bounds_u32 h
  unfold IsWord
  omega

/-- d is how far b is ahead of a, round the words. -/
def IsDist (a b d : Int) : Prop := -2147483648 ≤ d ∧ d < 2147483648 ∧ (b - a - d) % 4294967296 = 0

theorem isDist_ex (a b : Int) : ∃ d, IsDist a b d := by
  by_cases h : (b - a) % 4294967296 < 2147483648
  · exact ⟨(b - a) % 4294967296, by unfold IsDist; omega⟩
  · exact ⟨(b - a) % 4294967296 - 4294967296, by unfold IsDist; omega⟩
end Go.Proofs.Ytigjppamjfnmcaa

namespace Go.Proofs.Ytigjppamjfnmcaa
open Go.ChangeShapes Go.WideShapes Go.ChangeAt Go.RowKit
set_option linter.unusedVariables false

/-- Since w nothing was written but block g and new blocks. -/
structure Touch (g : Nat) (w w' : World) : Prop where
  os : w'.os = w.os
  tape : w'.tape = w.tape
  output : w'.output = w.output
  size : w.heap.size ≤ w'.heap.size
  block : ∀ k, k < w.heap.size → k ≠ g → w'.heap[k]? = w.heap[k]?

theorem Touch.refl (g : Nat) (w : World) : Touch g w w := ⟨rfl, rfl, rfl, Nat.le_refl _, fun _ _ _ => rfl⟩

theorem Touch.trans {g : Nat} {a b c : World} (h : Touch g a b) (k : Touch g b c) : Touch g a c :=
  ⟨k.os.trans h.os, k.tape.trans h.tape, k.output.trans h.output, Nat.le_trans h.size k.size, fun i hi hg => (k.block i (Nat.lt_of_lt_of_le hi h.size) hg).trans (h.block i hi hg)⟩

theorem Touch.of_below {g B : Nat} {w w' : World} (h : Below B w w') (hB : ∀ k, k < w.heap.size → k ≠ g → k < B) : Touch g w w' :=
  ⟨h.os, h.tape, h.output, h.size, fun k hk hg => h.block k (hB k hk hg)⟩

theorem Touch.setCell {g : Nat} {a w : World} (h : Touch g a w) {p : Addr} (hp : p.block = g) (v : Value) : Touch g a (w.setCell p v) := by
  have hb := (Below.refl 0 w).setCell (p := p) (Nat.zero_le _) v
  exact h.trans ⟨hb.os, hb.tape, hb.output, hb.size, fun k _ hk => Below.heap_setCell w p v k (by rw [hp]; exact hk)⟩

theorem Touch.put {g : Nat} {a w : World} (i : Nat) (v : Value) (h : Touch g a w) : Touch g a (w.setCell ⟨g, i, none⟩ v) := h.setCell (p := ⟨g, i, none⟩) rfl v

theorem Touch.drewN {g : Nat} {a w : World} (h : Touch g a w) (n : Nat) : Touch g a (w.drewN n) := h.trans ⟨rfl, rfl, rfl, Nat.le_refl _, fun _ _ _ => rfl⟩

theorem Touch.drew {g : Nat} {a w : World} (h : Touch g a w) : Touch g a w.drew := h.trans ⟨rfl, rfl, rfl, Nat.le_refl _, fun _ _ _ => rfl⟩

theorem Touch.alloc {g : Nat} {a w : World} (h : Touch g a w) (o : Obj) : Touch g a (w.alloc o) :=
  h.trans (Touch.of_below ((Below.refl w.heap.size w).alloc (Nat.le_refl _) o) fun k hk _ => hk)

theorem Touch.below {g B : Nat} {w0 w w' : World} (h : Touch g w w') (b : Below B w0 w) (hB : B ≤ g) (hs : B ≤ w.heap.size) : Below B w0 w' :=
  b.trans ⟨h.os, h.tape, h.output, h.size, fun k hk => h.block k (by omega) (by omega)⟩

theorem Touch.cell {g : Nat} {w w' : World} (h : Touch g w w') {p : Addr} (hp : p.block ≠ g) (hs : p.block < w.heap.size) : w'.cell? p = w.cell? p := World.cell?_of_block (w := w) (h.block p.block hs hp)

theorem Touch.frozen {g : Nat} {w w' : World} (h : Touch g w w') {p : Addr} (hp : p.block ≠ g) (hs : p.block < w.heap.size) : w'.frozen? p = w.frozen? p := World.frozen?_of_block (w := w) (h.block p.block hs hp)
end Go.Proofs.Ytigjppamjfnmcaa

namespace Go.Proofs.Ytigjppamjfnmcaa
open Go.ChangeShapes Go.WideShapes Go.ChangeAt Go.RowKit
set_option linter.unusedVariables false

theorem and255 (x : Int) : 0 ≤ bits .and .i64 x 255 ∧ bits .and .i64 x 255 < 256 := by
  have h : (BitVec.ofInt 64 x &&& BitVec.ofInt 64 255).toNat ≤ 255 := by
    rw [BitVec.toNat_and]
    have : (BitVec.ofInt 64 255).toNat = 255 := by decide
    rw [this]
    exact Nat.and_le_right
  have e : bits .and .i64 x 255 = wrap64 ((BitVec.ofInt 64 x &&& BitVec.ofInt 64 255).toNat : Int) := by
    rw [← IntWalk.i64_left]
    rfl
  rw [e, IntWalk.wrap64_in _ ⟨by omega, by omega⟩]
  omega

/-- The bytes that came in: the slice has none; or cell i of it holds the number i of zs, a byte. -/
def Bytes (w : World) (a : Option Addr) (len : Nat) (zs : List Int) : Prop :=
  len = 0 ∨ ∃ b off, a = some ⟨b, off, none⟩ ∧ len ≤ zs.length ∧ ∀ i, i < len → w.cell? ⟨b, off + i, none⟩ = some (.int .u8 (zs.getD i 0)) ∧ 0 ≤ zs.getD i 0 ∧ zs.getD i 0 ≤ 255

theorem block_lt {w : World} {p : Addr} {v : Value} (h : w.cell? p = some v) : p.block < w.heap.size := by
  rcases Nat.lt_or_ge p.block w.heap.size with hl | hl
  · exact hl
  · have e : w.heap[p.block]? = none := by simp [hl]
    unfold World.cell? at h
    simp [e] at h

/-- The cursor in block g over the bytes that came in at w0; since wb nothing else was written. -/
structure Cur (w0 wb : World) (g : Nat) (a : Option Addr) (len cap : Nat) (zs : List Int) (w : World) : Prop where
  bytes : Bytes w0 a len zs
  most : len ≤ 1048576
  bel : Below w0.heap.size w0 w
  low : w0.heap.size ≤ g
  here : g < w.heap.size
  touch : Touch g wb w
  cells : ∃ (i : Nat) (h : Int), i ≤ len ∧ w.cell? ⟨g, 0, none⟩ = some (.slice a len cap) ∧ w.cell? ⟨g, 1, none⟩ = some (.int .i64 (i : Int)) ∧ w.cell? ⟨g, 2, none⟩ = some (.int .i64 h) ∧ w.frozen? ⟨g, 1, none⟩ = false ∧ w.frozen? ⟨g, 2, none⟩ = false

theorem Cur.rebase {w0 wb : World} {g : Nat} {a : Option Addr} {len cap : Nat} {zs : List Int} {w : World} (h : Cur w0 wb g a len cap zs w) : Cur w0 w g a len cap zs w :=
  ⟨h.bytes, h.most, h.bel, h.low, h.here, Touch.refl _ _, h.cells⟩

theorem Cur.since {w0 wb w w' : World} {g : Nat} {a : Option Addr} {len cap : Nat} {zs : List Int} (h : Touch g wb w) (k : Cur w0 w g a len cap zs w') : Cur w0 wb g a len cap zs w' :=
  ⟨k.bytes, k.most, k.bel, k.low, k.here, h.trans k.touch, k.cells⟩

theorem Cur.moved {w0 wb w w' : World} {g g' : Nat} {a : Option Addr} {len cap : Nat} {zs : List Int} (h : Cur w0 wb g a len cap zs w) (b : Below w.heap.size w w') : Cur w0 wb g a len cap zs w' := by
  obtain ⟨i, x, hi, c0, c1, c2, f1, f2⟩ := h.cells
  refine ⟨h.bytes, h.most, h.bel.trans (b.mono h.bel.size), h.low, Nat.lt_of_lt_of_le h.here b.size, h.touch.trans (Touch.of_below b fun k hk _ => hk), i, x, hi, ?_, ?_, ?_, ?_, ?_⟩
  · rw [b.cell (p := ⟨g, 0, none⟩) h.here]; exact c0
  · rw [b.cell (p := ⟨g, 1, none⟩) h.here]; exact c1
  · rw [b.cell (p := ⟨g, 2, none⟩) h.here]; exact c2
  · rw [b.frozen (p := ⟨g, 1, none⟩) h.here]; exact f1
  · rw [b.frozen (p := ⟨g, 2, none⟩) h.here]; exact f2

theorem Cur.alloc {w0 wb w : World} {g : Nat} {a : Option Addr} {len cap : Nat} {zs : List Int} (h : Cur w0 wb g a len cap zs w) (o : Obj) : Cur w0 wb g a len cap zs (w.alloc o) :=
  h.moved (g' := g) ((Below.refl w.heap.size w).alloc (Nat.le_refl _) o)

/-- The cells of a cursor. -/
def Cells (w : World) (g : Nat) (a : Option Addr) (len cap : Nat) : Prop :=
  ∃ (i : Nat) (h : Int), i ≤ len ∧ w.cell? ⟨g, 0, none⟩ = some (.slice a len cap) ∧ w.cell? ⟨g, 1, none⟩ = some (.int .i64 (i : Int)) ∧ w.cell? ⟨g, 2, none⟩ = some (.int .i64 h) ∧ w.frozen? ⟨g, 1, none⟩ = false ∧ w.frozen? ⟨g, 2, none⟩ = false

theorem byteHere (g : Nat) (len cap : Nat) (i : Nat) (h : Int) (w : World) (b off : Nat) (z : Int)
    (c0 : w.cell? ⟨g, 0, none⟩ = some (.slice (some ⟨b, off, none⟩) len cap)) (c1 : w.cell? ⟨g, 1, none⟩ = some (.int .i64 (i : Int))) (c2 : w.cell? ⟨g, 2, none⟩ = some (.int .i64 h))
    (f1 : w.frozen? ⟨g, 1, none⟩ = false) (f2 : w.frozen? ⟨g, 2, none⟩ = false) (hi : i < len) (hl : len ≤ 1048576)
    (hz : w.cell? ⟨b, off + i, none⟩ = some (.int .u8 z)) (hz0 : 0 ≤ z) (hz1 : z ≤ 255) (hbg : b ≠ g) :
    Calls Try.prog 29 #[.pointer (some ⟨g, 0, none⟩)] w fun e w' => ∃ x : Int, e = .returned (.int .i64 x) ∧ 0 ≤ x ∧ x < 256 ∧ Touch g w w' ∧ Cells w' g (some ⟨b, off, none⟩) len cap := by
  have hlt : (i : Int) < (len : Int) := by omega
  have hlm : (len : Int) ≤ 9223372036854775807 := by omega
  go_enter Try.func29, Try.ntmps29
  go_wp2
  go_quiet (fail)
  go_wp2
  go_quiet (fail)
  go_wp2
  go_quiet (fail)
  go_wp2
  go_ret
  refine ⟨_, rfl, (and255 _).1, (and255 _).2, ?_, i + 1, wrap64 (wrap64 (h * 6364136223846793005) + 1442695040888963407), hi, ?_, ?_, ?_, ?_, ?_⟩
  · repeat (first | exact Touch.refl _ _ | apply Touch.drewN | apply Touch.put)
  · go_simp
  · go_simp
  · go_simp
  · go_simp
  · go_simp

theorem byteEnd (g : Nat) (a : Option Addr) (len cap : Nat) (h : Int) (w : World)
    (c0 : w.cell? ⟨g, 0, none⟩ = some (.slice a len cap)) (c1 : w.cell? ⟨g, 1, none⟩ = some (.int .i64 (len : Int))) (c2 : w.cell? ⟨g, 2, none⟩ = some (.int .i64 h))
    (f1 : w.frozen? ⟨g, 1, none⟩ = false) (f2 : w.frozen? ⟨g, 2, none⟩ = false) (hl : len ≤ 1048576) :
    Calls Try.prog 29 #[.pointer (some ⟨g, 0, none⟩)] w fun e w' => ∃ x : Int, e = .returned (.int .i64 x) ∧ 0 ≤ x ∧ x < 256 ∧ Touch g w w' ∧ Cells w' g a len cap := by
  have hlm : (len : Int) ≤ 9223372036854775807 := by omega
  go_enter Try.func29, Try.ntmps29
  go_wp2
  go_quiet (fail)
  go_wp2
  go_quiet (fail)
  go_wp2
  go_ret
  refine ⟨_, rfl, (and255 _).1, (and255 _).2, ?_, len, wrap64 (wrap64 (h * 6364136223846793005) + 1442695040888963407), Nat.le_refl _, ?_, ?_, ?_, ?_, ?_⟩
  · repeat (first | exact Touch.refl _ _ | apply Touch.drewN | apply Touch.put)
  · go_simp
  · go_simp
  · go_simp
  · go_simp
  · go_simp

theorem byte {w0 wb : World} {g : Nat} {a : Option Addr} {len cap : Nat} {zs : List Int} (w : World) (hc : Cur w0 wb g a len cap zs w) :
    Calls Try.prog 29 #[.pointer (some ⟨g, 0, none⟩)] w fun e w' => ∃ x : Int, e = .returned (.int .i64 x) ∧ 0 ≤ x ∧ x < 256 ∧ Cur w0 wb g a len cap zs w' := by
  obtain ⟨hby, hmost, hbel, hlow, hhere, htouch, i, h, hi, c0, c1, c2, f1, f2⟩ := hc
  have hK : ∀ w', Touch g w w' → Cells w' g a len cap → Cur w0 wb g a len cap zs w' :=
    fun w' ht hcs => ⟨hby, hmost, ht.below hbel hlow hbel.size, hlow, Nat.lt_of_lt_of_le hhere ht.size, htouch.trans ht, hcs⟩
  by_cases hlt : i < len
  · obtain ⟨b, off, rfl, hzl, hzs⟩ : ∃ b off, a = some ⟨b, off, none⟩ ∧ len ≤ zs.length ∧ ∀ i, i < len → w0.cell? ⟨b, off + i, none⟩ = some (.int .u8 (zs.getD i 0)) ∧ 0 ≤ zs.getD i 0 ∧ zs.getD i 0 ≤ 255 := by
      rcases hby with h0 | h0
      · omega
      · exact h0
    obtain ⟨hz0, hzlo, hzhi⟩ := hzs i hlt
    have hb := block_lt hz0
    refine (byteHere g len cap i h w b off _ c0 c1 c2 f1 f2 hlt hmost (cell_later hbel hz0) hzlo hzhi (by simp at hb; omega)).mono ?_
    rintro e w' ⟨x, rfl, h0, h1, ht, hcs⟩
    exact ⟨x, rfl, h0, h1, hK w' ht hcs⟩
  · obtain rfl : i = len := by omega
    refine (byteEnd g a i cap h w c0 c1 c2 f1 f2 hmost).mono ?_
    rintro e w' ⟨x, rfl, h0, h1, ht, hcs⟩
    exact ⟨x, rfl, h0, h1, hK w' ht hcs⟩

theorem below {w0 wb : World} {g : Nat} {a : Option Addr} {len cap : Nat} {zs : List Int} (n : Int) (w : World) (hc : Cur w0 wb g a len cap zs w) :
    Calls Try.prog 14 #[.pointer (some ⟨g, 0, none⟩), .int .i64 n] w fun e w' => ∃ r : Int, e = .returned (.int .i64 r) ∧ 0 ≤ r ∧ (0 < n → r < n) ∧ Cur w0 wb g a len cap zs w' := by
  by_cases h0 : n ≤ 0
  · go_enter Try.func14, Try.ntmps14
    go_wp2
    go_ret
    exact ⟨0, rfl, by omega, by omega, hc⟩
  · by_cases h1 : n ≤ 256
    · have hn0 : (n == 0) = false := by simp; omega
      have hn1 : 0 < n := by omega
      go_enter Try.func14, Try.ntmps14
      go_wp2_with (go_at_call 29; refine (byte _ (by assumption)).mono ?_; rintro _ w1 ⟨x, rfl, hx0, hx1, hc1⟩)
      go_ret
      exact ⟨x % n, rfl, Int.emod_nonneg _ (by omega), fun h => Int.emod_lt_of_pos _ h, by assumption⟩
    · have hn0 : (n == 0) = false := by simp; omega
      have hn1 : 0 < n := by omega
      go_enter Try.func14, Try.ntmps14
      go_wp2_with (go_at_call 29; refine (byte _ (by assumption)).mono ?_; rintro _ w1 ⟨x, rfl, hx0, hx1, hc1⟩)
      go_ret
      exact ⟨_, rfl, Int.emod_nonneg _ (by omega), fun h => Int.emod_lt_of_pos _ h, hc1⟩

theorem once {w0 wb : World} {g : Nat} {a : Option Addr} {len cap : Nat} {zs : List Int} (n : Int) (w : World) (hc : Cur w0 wb g a len cap zs w) :
    Calls Try.prog 15 #[.pointer (some ⟨g, 0, none⟩), .int .i64 n] w fun e w' => ∃ r : Bool, e = .returned (.bool r) ∧ Cur w0 wb g a len cap zs w' := by
  go_enter Try.func15, Try.ntmps15
  go_wp2_with (go_at_call 14; refine (below n _ (by assumption)).mono ?_; rintro _ w1 ⟨x, rfl, hx0, hx1, hc1⟩)
  go_ret
  exact ⟨_, rfl, hc1⟩

/-- A list of whole numbers in a block of its own. -/
def Ints (w : World) (gl : Nat) (vs : List Int) : Prop := ∀ k, k < vs.length → w.cell? ⟨gl, k, none⟩ = some (.int .i64 (vs.getD k 0))

theorem pickInt {w0 wb : World} {g : Nat} {a : Option Addr} {len cap : Nat} {zs : List Int} (gl n : Nat) (vs : List Int) (hn : vs.length = n) (hpos : 0 < n) (hn2 : n ≤ 1000) (w : World) (hc : Cur w0 wb g a len cap zs w) (hne : gl ≠ g) (hl : Ints w gl vs) :
    Calls Try.prog 28 #[.pointer (some ⟨g, 0, none⟩), .slice (some ⟨gl, 0, none⟩) n n] w fun e w' => ∃ k : Nat, k < vs.length ∧ e = .returned (.int .i64 (vs.getD k 0)) ∧ Cur w0 wb g a len cap zs w' := by
  have hr := hc.rebase
  have hb := fun wx => below (w0 := w0) (wb := w) (g := g) (a := a) (len := len) (cap := cap) (zs := zs) (n : Int) wx
  have hin : gl < w.heap.size := by
    have := block_lt (hl 0 (by omega))
    simpa using this
  have fin : ∀ (r : Int) (w1 : World), 0 ≤ r → (0 < (n : Int) → r < (n : Int)) → Cur w0 w g a len cap zs w1 → ∃ (k : Nat) (v : Int), r = (k : Int) ∧ k < n ∧ w1.cell? ⟨gl, k, none⟩ = some (.int .i64 v) ∧ Hid (v = vs.getD k 0) := by
    intro r w1 h0 h1 hc1
    obtain ⟨k, rfl⟩ := Int.eq_ofNat_of_zero_le h0
    have hk : k < n := by
      have := h1 (by omega)
      omega
    exact ⟨k, _, rfl, hk, by rw [hc1.touch.cell (p := ⟨gl, k, none⟩) hne hin]; exact hl k (by omega), rfl⟩
  have hout : ∀ w1, Cur w0 w g a len cap zs w1 → Cur w0 wb g a len cap zs w1 := fun w1 h => Cur.since hc.touch h
  clear hc hl
  go_enter Try.func28, Try.ntmps28
  go_wp2_with (go_at_call 14; refine (hb _ (by assumption)).mono ?_; rintro _ w1 ⟨x, rfl, hx0, hx1, hc1⟩; obtain ⟨k, v, rfl, hk, hcell, hv⟩ := fin x w1 hx0 hx1 hc1)
  go_ret
  exact ⟨k, by omega, by rw [← hv.out]; rfl, hout _ hc1⟩
end Go.Proofs.Ytigjppamjfnmcaa

namespace Go.Proofs.Ytigjppamjfnmcaa
open Go.ChangeShapes Go.WideShapes Go.ChangeAt Go.RowKit
set_option linter.unusedVariables false

/-- The next of the numbers that a draw mixes in. -/
def nextH (h : Int) : Int := wrap64 (wrap64 (h * 6364136223846793005) + 1442695040888963407)

def lin (h : Int) : Int := h * 6364136223846793005 + 1442695040888963407

def iter (f : Int → Int) : Nat → Int → Int
  | 0, h => h
  | n + 1, h => iter f n (f h)

theorem iter_add (f : Int → Int) (m n : Nat) (h : Int) : iter f (m + n) h = iter f n (iter f m h) := by
  induction m generalizing h with
  | zero => simp [iter]
  | succ m ih =>
    rw [show m + 1 + n = (m + n) + 1 by omega]
    simp only [iter]
    exact ih (f h)

theorem lin_pow (k : Nat) : ∃ A C m o : Int, (∀ h, iter lin (2 ^ k) h = A * h + C) ∧ A = 1 + 4 * (2 : Int) ^ k * m ∧ C = (2 : Int) ^ k * (2 * o + 1) := by
  induction k with
  | zero => exact ⟨6364136223846793005, 1442695040888963407, 1591034055961698251, 721347520444481703, fun h => by simp only [Nat.pow_zero, iter, lin]; omega, by decide, by decide⟩
  | succ k ih =>
    obtain ⟨A, C, m, o, h1, h2, h3⟩ := ih
    refine ⟨A * A, A * C + C, m + 2 * (2 : Int) ^ k * (m * m), 2 * o * (2 : Int) ^ k * m + (2 : Int) ^ k * m + o, ?_, ?_, ?_⟩
    · intro h
      rw [show 2 ^ (k + 1) = 2 ^ k + 2 ^ k by omega, iter_add, h1, h1]
      grind
    · rw [h2, Int.pow_succ]
      grind
    · rw [h2, h3, Int.pow_succ]
      grind

theorem lin_reach (k : Nat) (h t : Int) : ∃ n, n < 2 ^ k ∧ ∃ q, iter lin n h - t = (2 : Int) ^ k * q := by
  induction k with
  | zero => exact ⟨0, by decide, h - t, by simp [iter]⟩
  | succ k ih =>
    obtain ⟨n, hn, q, hq⟩ := ih
    rcases Int.emod_two_eq q with he | he
    · obtain ⟨r, rfl⟩ : ∃ r, q = 2 * r := ⟨q / 2, by omega⟩
      exact ⟨n, by omega, r, by rw [hq, Int.pow_succ]; grind⟩
    · obtain ⟨r, rfl⟩ : ∃ r, q = 2 * r + 1 := ⟨q / 2, by omega⟩
      obtain ⟨A, C, m, o, h1, h2, h3⟩ := lin_pow k
      refine ⟨n + 2 ^ k, by omega, r + 2 * m * iter lin n h + o + 1, ?_⟩
      rw [iter_add, h1, h2, h3, Int.pow_succ]
      grind

theorem nextH_range (h : Int) : -9223372036854775808 ≤ nextH h ∧ nextH h ≤ 9223372036854775807 := by
  unfold nextH wrap64
  omega

theorem nextH_mod (h g : Int) (e : (h - g) % 18446744073709551616 = 0) : (nextH h - lin g) % 18446744073709551616 = 0 := by
  unfold nextH lin wrap64
  omega

theorem iter_mod (n : Nat) (h g : Int) (e : (h - g) % 18446744073709551616 = 0) : (iter nextH n h - iter lin n g) % 18446744073709551616 = 0 := by
  induction n generalizing h g with
  | zero => exact e
  | succ n ih => exact ih _ _ (nextH_mod h g e)

theorem iter_range (n : Nat) (h : Int) (hr : -9223372036854775808 ≤ h ∧ h ≤ 9223372036854775807) : -9223372036854775808 ≤ iter nextH n h ∧ iter nextH n h ≤ 9223372036854775807 := by
  induction n generalizing h with
  | zero => exact hr
  | succ n ih => exact ih _ (nextH_range h)

theorem reach (h t : Int) (hr : -9223372036854775808 ≤ t ∧ t ≤ 9223372036854775807) : ∃ n, n < 18446744073709551616 ∧ iter nextH n (nextH h) = t := by
  obtain ⟨n, hn, q, hq⟩ := lin_reach 64 (nextH h) t
  refine ⟨n, hn, ?_⟩
  have h1 := iter_mod n (nextH h) (nextH h) (by omega)
  have h2 := iter_range n (nextH h) (nextH_range h)
  have hq' : iter lin n (nextH h) - t = 18446744073709551616 * q := hq
  omega

theorem inv_mul (d q a b n m : Int) (hab : a * b = 1 + n * m) (h : d * a = n * q) : d = n * (q * b - d * m) := by
  have e : d * (a * b) = n * (q * b) := by
    rw [← Int.mul_assoc, h, Int.mul_assoc]
  rw [hab] at e
  grind

theorem lin_inj (a b n m c x y z q1 q2 : Int) (hab : a * b = 1 + n * m) (h1 : z - (x * a + c) = n * q1) (h2 : z - (y * a + c) = n * q2) : ∃ r, x - y = n * r :=
  ⟨_, inv_mul (x - y) (q2 - q1) a b n m hab (by grind)⟩

theorem dvd_of_mod (x n : Int) (h : x % n = 0) : ∃ q, x = n * q := ⟨x / n, (Int.mul_ediv_cancel' (Int.dvd_of_emod_eq_zero h)).symm⟩

theorem apart (x y r : Int) (hx : -9223372036854775808 ≤ x ∧ x ≤ 9223372036854775807) (hy : -9223372036854775808 ≤ y ∧ y ≤ 9223372036854775807) (h : x - y = 18446744073709551616 * r) : x = y := by
  omega

theorem nextH_inj (x y : Int) (hx : -9223372036854775808 ≤ x ∧ x ≤ 9223372036854775807) (hy : -9223372036854775808 ≤ y ∧ y ≤ 9223372036854775807) (e : nextH x = nextH y) : x = y := by
  obtain ⟨q1, h1⟩ := dvd_of_mod _ _ (nextH_mod x x (by simp))
  obtain ⟨q2, h2⟩ := dvd_of_mod _ _ (nextH_mod y y (by simp))
  rw [e] at h1
  obtain ⟨r, hr⟩ := lin_inj 6364136223846793005 13877824140714322085 18446744073709551616 4787856489426250814 1442695040888963407 x y (nextH y) q1 q2 (by decide +kernel) h1 h2
  exact apart x y r hx hy hr

theorem left_ex (h : Int) : ∃ m : Nat, 1 ≤ m ∧ m ≤ 18446744073709551616 ∧ iter nextH m h = -8537515843615347374 := by
  obtain ⟨n, hn, he⟩ := reach h (-8537515843615347374) (by omega)
  exact ⟨n + 1, by omega, by omega, he⟩

/-- How many numbers, of at most f, are mixed in till a fixed one comes. -/
def leftFrom : Nat → Int → Nat
  | 0, _ => 0
  | f + 1, h => if nextH h = -8537515843615347374 then 1 else leftFrom f (nextH h) + 1

theorem leftFrom_spec (f : Nat) (h : Int) (hex : ∃ m : Nat, 1 ≤ m ∧ m ≤ f ∧ iter nextH m h = -8537515843615347374) :
    1 ≤ leftFrom f h ∧ leftFrom f h ≤ f ∧ iter nextH (leftFrom f h) h = -8537515843615347374 ∧ ∀ k, 1 ≤ k → k < leftFrom f h → iter nextH k h ≠ -8537515843615347374 := by
  induction f generalizing h with
  | zero =>
    obtain ⟨m, h1, h2, _⟩ := hex
    omega
  | succ f ih =>
    unfold leftFrom
    by_cases he : nextH h = -8537515843615347374
    · rw [if_pos he]
      exact ⟨by omega, by omega, he, fun k h1 h2 => by omega⟩
    · rw [if_neg he]
      obtain ⟨m, h1, h2, h3⟩ := hex
      obtain ⟨j, rfl⟩ : ∃ j, m = j + 1 := ⟨m - 1, by omega⟩
      have hj : 1 ≤ j := by
        rcases Nat.eq_zero_or_pos j with h0 | h0
        · subst h0
          exact absurd h3 he
        · exact h0
      obtain ⟨a1, a2, a3, a4⟩ := ih (nextH h) ⟨j, hj, by omega, h3⟩
      refine ⟨by omega, by omega, a3, ?_⟩
      intro k k1 k2 k3
      obtain ⟨i, rfl⟩ : ∃ i, k = i + 1 := ⟨k - 1, by omega⟩
      rcases Nat.eq_zero_or_pos i with h0 | h0
      · subst h0
        exact he k3
      · exact a4 i h0 (by omega) k3

/-- How many numbers are still mixed in till a fixed one comes. -/
def left (h : Int) : Nat := leftFrom 18446744073709551616 h

theorem left_spec (h : Int) : 1 ≤ left h ∧ left h ≤ 18446744073709551616 ∧ iter nextH (left h) h = -8537515843615347374 ∧ ∀ k, 1 ≤ k → k < left h → iter nextH k h ≠ -8537515843615347374 := leftFrom_spec 18446744073709551616 h (left_ex h)

theorem left_iter (h : Int) (c : Nat) (hc : c < left h) : left (iter nextH c h) + c = left h := by
  obtain ⟨a1, a2, a3, a4⟩ := left_spec h
  obtain ⟨b1, b2, b3, b4⟩ := left_spec (iter nextH c h)
  rcases Nat.lt_trichotomy (left (iter nextH c h) + c) (left h) with hl | hl | hl
  · rw [← iter_add] at b3
    exact absurd b3 (by rw [Nat.add_comm] at hl; exact a4 _ (by omega) hl)
  · exact hl
  · have e : iter nextH (left h - c) (iter nextH c h) = -8537515843615347374 := by
      rw [← iter_add, show c + (left h - c) = left h by omega]
      exact a3
    exact absurd e (b4 _ (by omega) (by omega))

/-- The byte that a number mixes in. -/
def byteOf (h : Int) : Int := bits .and .i64 (bits .xor .i64 (h / 8589934592) (h / 35184372088832)) 255

theorem back (n : Nat) (x y : Int) (hx : -9223372036854775808 ≤ x ∧ x ≤ 9223372036854775807) (hy : -9223372036854775808 ≤ y ∧ y ≤ 9223372036854775807) (e : iter nextH n x = iter nextH n y) : x = y := by
  induction n generalizing x y with
  | zero => exact e
  | succ n ih => exact nextH_inj x y hx hy (ih _ _ (nextH_range x) (nextH_range y) e)

/-- Near the fixed number the bytes are such that a round of the draw of a text brings a byte. -/
theorem good (h : Int) (hl : left h ≤ 6) : byteOf (nextH h) % 5 = 0 ∨ byteOf (nextH h) % 5 = 3 ∨ byteOf (nextH h) % 5 = 4 := by
  obtain ⟨a1, a2, a3, a4⟩ := left_spec h
  clear a4 a2
  have hr := nextH_range h
  generalize left h = d at hl a1 a3
  match d, a1, hl, a3 with
  | 1, _, _, a3 =>
    rw [show nextH h = -8537515843615347374 from a3]
    decide +kernel
  | 2, _, _, a3 =>
    rw [back 1 (nextH h) 4277904539438339567 hr (by omega) (a3.trans (by decide +kernel))]
    decide +kernel
  | 3, _, _, a3 =>
    rw [back 2 (nextH h) 823944911895956256 hr (by omega) (a3.trans (by decide +kernel))]
    decide +kernel
  | 4, _, _, a3 =>
    rw [back 3 (nextH h) (-1374857760899466315) hr (by omega) (a3.trans (by decide +kernel))]
    decide +kernel
  | 5, _, _, a3 =>
    rw [back 4 (nextH h) (-67214209605643330) hr (by omega) (a3.trans (by decide +kernel))]
    decide +kernel
  | 6, _, _, a3 =>
    rw [back 5 (nextH h) (-7048745253176772213) hr (by omega) (a3.trans (by decide +kernel))]
    decide +kernel
end Go.Proofs.Ytigjppamjfnmcaa

namespace Go.Proofs.Ytigjppamjfnmcaa
open Go.ChangeShapes Go.WideShapes Go.ChangeAt Go.RowKit
set_option linter.unusedVariables false

/-- The cursor's cells: i bytes are read, h was mixed in last. -/
structure CellsAt (w : World) (g : Nat) (a : Option Addr) (len cap i : Nat) (h : Int) : Prop where
  le : i ≤ len
  c0 : w.cell? ⟨g, 0, none⟩ = some (.slice a len cap)
  c1 : w.cell? ⟨g, 1, none⟩ = some (.int .i64 (i : Int))
  c2 : w.cell? ⟨g, 2, none⟩ = some (.int .i64 h)
  f1 : w.frozen? ⟨g, 1, none⟩ = false
  f2 : w.frozen? ⟨g, 2, none⟩ = false

theorem byteHereAt (g : Nat) (len cap : Nat) (i : Nat) (h : Int) (w : World) (b off : Nat) (z : Int) (hc : CellsAt w g (some ⟨b, off, none⟩) len cap i h) (hi : i < len) (hl : len ≤ 1048576)
    (hz : w.cell? ⟨b, off + i, none⟩ = some (.int .u8 z)) (hz0 : 0 ≤ z) (hz1 : z ≤ 255) (hbg : b ≠ g) :
    Calls Try.prog 29 #[.pointer (some ⟨g, 0, none⟩)] w fun e w' => ∃ x : Int, e = .returned (.int .i64 x) ∧ 0 ≤ x ∧ x < 256 ∧ Touch g w w' ∧ CellsAt w' g (some ⟨b, off, none⟩) len cap (i + 1) (nextH h) := by
  obtain ⟨hle, c0, c1, c2, f1, f2⟩ := hc
  have hlt : (i : Int) < (len : Int) := by omega
  have hlm : (len : Int) ≤ 9223372036854775807 := by omega
  go_enter Try.func29, Try.ntmps29
  go_wp2
  go_quiet (fail)
  go_wp2
  go_quiet (fail)
  go_wp2
  go_quiet (fail)
  go_wp2
  go_ret
  refine ⟨_, rfl, (and255 _).1, (and255 _).2, ?_, hi, ?_, ?_, ?_, ?_, ?_⟩
  · repeat (first | exact Touch.refl _ _ | apply Touch.drewN | apply Touch.put)
  · go_simp
  · go_simp
  · unfold nextH
    go_simp
  · go_simp
  · go_simp

theorem byteEndAt (g : Nat) (a : Option Addr) (len cap : Nat) (h : Int) (w : World) (hc : CellsAt w g a len cap len h) (hl : len ≤ 1048576) :
    Calls Try.prog 29 #[.pointer (some ⟨g, 0, none⟩)] w fun e w' => e = .returned (.int .i64 (byteOf (nextH h))) ∧ Touch g w w' ∧ CellsAt w' g a len cap len (nextH h) := by
  obtain ⟨hle, c0, c1, c2, f1, f2⟩ := hc
  have hlm : (len : Int) ≤ 9223372036854775807 := by omega
  go_enter Try.func29, Try.ntmps29
  go_wp2
  go_quiet (fail)
  go_wp2
  go_quiet (fail)
  go_wp2
  go_ret
  refine ⟨?_, ?_, Nat.le_refl _, ?_, ?_, ?_, ?_, ?_⟩
  · unfold byteOf nextH
    go_simp
  · repeat (first | exact Touch.refl _ _ | apply Touch.drewN | apply Touch.put)
  · go_simp
  · go_simp
  · unfold nextH
    go_simp
  · go_simp
  · go_simp

theorem byteOf_range (h : Int) : 0 ≤ byteOf h ∧ byteOf h < 256 := and255 _

/-- The cursor in block g over the bytes that came in at w0; since wb nothing else was written; i bytes are read, h was mixed in last. -/
structure CurAt (w0 wb : World) (g : Nat) (a : Option Addr) (len cap : Nat) (zs : List Int) (i : Nat) (h : Int) (w : World) : Prop where
  bytes : Bytes w0 a len zs
  most : len ≤ 1048576
  bel : Below w0.heap.size w0 w
  low : w0.heap.size ≤ g
  here : g < w.heap.size
  touch : Touch g wb w
  cells : CellsAt w g a len cap i h

theorem Cur.at_ {w0 wb : World} {g : Nat} {a : Option Addr} {len cap : Nat} {zs : List Int} {w : World} (hc : Cur w0 wb g a len cap zs w) : ∃ i h, CurAt w0 wb g a len cap zs i h w := by
  obtain ⟨h1, h2, h3, h4, h5, h6, i, h, hi, c0, c1, c2, f1, f2⟩ := hc
  exact ⟨i, h, h1, h2, h3, h4, h5, h6, hi, c0, c1, c2, f1, f2⟩

theorem CurAt.cur {w0 wb : World} {g : Nat} {a : Option Addr} {len cap : Nat} {zs : List Int} {i : Nat} {h : Int} {w : World} (hc : CurAt w0 wb g a len cap zs i h w) : Cur w0 wb g a len cap zs w :=
  ⟨hc.bytes, hc.most, hc.bel, hc.low, hc.here, hc.touch, i, h, hc.cells.le, hc.cells.c0, hc.cells.c1, hc.cells.c2, hc.cells.f1, hc.cells.f2⟩

theorem CurAt.on {w0 wb : World} {g : Nat} {a : Option Addr} {len cap : Nat} {zs : List Int} {i i' : Nat} {h h' : Int} {w w' : World} (hc : CurAt w0 wb g a len cap zs i h w) (ht : Touch g w w') (hcs : CellsAt w' g a len cap i' h') : CurAt w0 wb g a len cap zs i' h' w' :=
  ⟨hc.bytes, hc.most, ht.below hc.bel hc.low hc.bel.size, hc.low, Nat.lt_of_lt_of_le hc.here ht.size, hc.touch.trans ht, hcs⟩

theorem byteNow {w0 wb : World} {g : Nat} {a : Option Addr} {len cap : Nat} {zs : List Int} (i : Nat) (h : Int) (w : World) (hc : CurAt w0 wb g a len cap zs i h w) :
    Calls Try.prog 29 #[.pointer (some ⟨g, 0, none⟩)] w fun e w' => ∃ (x : Int) (i' : Nat), e = .returned (.int .i64 x) ∧ 0 ≤ x ∧ x < 256 ∧ (i = len → x = byteOf (nextH h)) ∧ i ≤ i' ∧ (i < len → i < i') ∧ CurAt w0 wb g a len cap zs i' (nextH h) w' ∧ Touch g w w' := by
  by_cases hlt : i < len
  · obtain ⟨b, off, rfl, hzl, hzs⟩ : ∃ b off, a = some ⟨b, off, none⟩ ∧ len ≤ zs.length ∧ ∀ i, i < len → w0.cell? ⟨b, off + i, none⟩ = some (.int .u8 (zs.getD i 0)) ∧ 0 ≤ zs.getD i 0 ∧ zs.getD i 0 ≤ 255 := by
      rcases hc.bytes with h0 | h0
      · omega
      · exact h0
    obtain ⟨hz0, hzlo, hzhi⟩ := hzs i hlt
    have hb := block_lt hz0
    have hlow := hc.low
    refine (byteHereAt g len cap i h w b off _ hc.cells hlt hc.most (cell_later hc.bel hz0) hzlo hzhi (by simp at hb; omega)).mono ?_
    rintro e w' ⟨x, rfl, h0, h1, ht, hcs⟩
    exact ⟨x, i + 1, rfl, h0, h1, by omega, by omega, by omega, hc.on ht hcs, ht⟩
  · have hle := hc.cells.le
    obtain rfl : i = len := by omega
    refine (byteEndAt g a i cap h w hc.cells hc.most).mono ?_
    rintro e w' ⟨rfl, ht, hcs⟩
    exact ⟨_, i, rfl, (byteOf_range _).1, (byteOf_range _).2, fun _ => rfl, Nat.le_refl _, by omega, hc.on ht hcs, ht⟩

/-- Since (i0, h0) c numbers were mixed in. -/
def Ran (len i0 : Nat) (h0 : Int) (c i : Nat) (h : Int) : Prop := i0 ≤ i ∧ h = iter nextH c h0 ∧ (1 ≤ c → i0 < len → i0 < i)

theorem Ran.next {len i0 : Nat} {h0 : Int} {c i i' : Nat} {h : Int} (r : Ran len i0 h0 c i h) (h1 : i ≤ i') (h2 : i < len → i < i') : Ran len i0 h0 (c + 1) i' (nextH h) := by
  obtain ⟨r1, rfl, r3⟩ := r
  refine ⟨by omega, ?_, by omega⟩
  rw [iter_add]
  rfl

theorem below256 {w0 wb : World} {g : Nat} {a : Option Addr} {len cap : Nat} {zs : List Int} (n : Int) (hn : 0 < n) (hn2 : n ≤ 256) (i : Nat) (h : Int) (w : World) (hc : CurAt w0 wb g a len cap zs i h w) :
    Calls Try.prog 14 #[.pointer (some ⟨g, 0, none⟩), .int .i64 n] w fun e w' => ∃ (r : Int) (i' : Nat), e = .returned (.int .i64 r) ∧ 0 ≤ r ∧ r < n ∧ (i = len → r = byteOf (nextH h) % n) ∧ i ≤ i' ∧ (i < len → i < i') ∧ CurAt w0 wb g a len cap zs i' (nextH h) w' ∧ Touch g w w' := by
  have hn0 : (n == 0) = false := by simp; omega
  have hb := byteNow i h w hc
  clear hc
  go_enter Try.func14, Try.ntmps14
  go_wp2_with (go_at_call 29; refine hb.mono ?_; rintro _ w1 ⟨x, i', rfl, hx0, hx1, hx2, hx3, hx4, hc1, ht1⟩)
  go_ret
  exact ⟨x % n, i', rfl, Int.emod_nonneg _ (by omega), Int.emod_lt_of_pos _ hn, fun e => by rw [hx2 e], hx3, hx4, hc1, ht1⟩

theorem belowGreat {w0 wb : World} {g : Nat} {a : Option Addr} {len cap : Nat} {zs : List Int} (n : Int) (hn2 : 256 < n) (i : Nat) (h : Int) (w : World) (hc : CurAt w0 wb g a len cap zs i h w) :
    Calls Try.prog 14 #[.pointer (some ⟨g, 0, none⟩), .int .i64 n] w fun e w' => ∃ (r : Int) (i' : Nat), e = .returned (.int .i64 r) ∧ 0 ≤ r ∧ r < n ∧ i ≤ i' ∧ (i < len → i < i') ∧ CurAt w0 wb g a len cap zs i' (iter nextH 4 h) w' ∧ Touch g w w' := by
  have hn0 : (n == 0) = false := by simp; omega
  have hn1 : 0 < n := by omega
  go_enter Try.func14, Try.ntmps14
  go_wp2_with (go_at_call 29; refine (byteNow _ _ _ (by assumption)).mono ?_; rintro _ w1 ⟨x, i', rfl, hx0, hx1, hx2, hx3, hx4, hc1, ht1⟩; clear hx2)
  go_ret
  rename_i wA xA iA a0 a1 a3 a4 cA tA wB xB iB b0 b1 b3 b4 cB tB wC xC iC c0 c1 c3 c4 cC tC
  exact ⟨_, i', rfl, Int.emod_nonneg _ (by omega), Int.emod_lt_of_pos _ hn1, by omega, by omega, hc1, ((tA.trans tB).trans tC).trans ht1⟩
end Go.Proofs.Ytigjppamjfnmcaa

namespace Go.Proofs.Ytigjppamjfnmcaa
open Go.ChangeShapes Go.WideShapes Go.ChangeAt Go.RowKit
set_option linter.unusedVariables false

theorem info_u8 : (Try.prog.info? 5).map (fun i => (i.zero, i.size, i.bytes)) = some (some (.int .u8 0), 1, 1) := by kernel_rfl

/-- A text under way: c numbers were mixed in since (i0, h0); the slice owns m bytes. -/
structure TS (w0 wT : World) (g : Nat) (a : Option Addr) (len cap : Nat) (zs : List Int) (i0 : Nat) (h0 : Int) (c gb cb m : Nat) (w : World) : Prop where
  cur : ∃ i h, CurAt w0 wT g a len cap zs i h w ∧ Ran len i0 h0 c i h
  early : g < wT.heap.size
  row : ∃ xs : List Int, (∀ x ∈ xs, 0 ≤ x ∧ x < 256) ∧ w.ownsRow wT.heap.size 5 1 (.slice (some ⟨gb, 0, none⟩) m cb) m (xs.map (Value.int .u8))

theorem Touch.grownBy {g : Nat} {w w' : World} (h : Touch g w w') : w.grownBy w' (some g) :=
  ⟨h.os, h.tape, h.output, h.size, fun k hk hne => h.block k hk (fun e => hne (by rw [e]))⟩

theorem row_touch {wT w w' : World} {g gb cb m : Nat} (he : g < wT.heap.size) (ht : Touch g w w') (h : ∃ xs : List Int, (∀ x ∈ xs, 0 ≤ x ∧ x < 256) ∧ w.ownsRow wT.heap.size 5 1 (.slice (some ⟨gb, 0, none⟩) m cb) m (xs.map (Value.int .u8))) :
    ∃ xs : List Int, (∀ x ∈ xs, 0 ≤ x ∧ x < 256) ∧ w'.ownsRow wT.heap.size 5 1 (.slice (some ⟨gb, 0, none⟩) m cb) m (xs.map (Value.int .u8)) := by
  obtain ⟨xs, h1, h2⟩ := h
  refine ⟨xs, h1, h2.kept ht.grownBy (.inr ?_)⟩
  have := h2.lt gb rfl
  simp [Value.ownBlock]
  omega

section
variable {w0 wT : World} {g : Nat} {a : Option Addr} {len cap : Nat} {zs : List Int} {i0 : Nat} {h0 : Int} {c gb cb m : Nat}

theorem TS.below (n : Int) (hn : 0 < n) (hn2 : n ≤ 256) (w : World) (h : TS w0 wT g a len cap zs i0 h0 c gb cb m w) :
    Calls Try.prog 14 #[.pointer (some ⟨g, 0, none⟩), .int .i64 n] w fun e w' => ∃ r : Int, e = .returned (.int .i64 r) ∧ 0 ≤ r ∧ r < n ∧ (c = 0 → i0 = len → r = byteOf (nextH h0) % n) ∧ TS w0 wT g a len cap zs i0 h0 (c + 1) gb cb m w' := by
  obtain ⟨⟨i, hh, hc, hr⟩, he, hrow⟩ := h
  refine (below256 n hn hn2 i hh w hc).mono ?_
  rintro e w' ⟨r, i', rfl, h1, h2, h3, h4, h5, hc', ht⟩
  refine ⟨r, rfl, h1, h2, ?_, ⟨i', _, hc', hr.next h4 h5⟩, he, row_touch he ht hrow⟩
  rintro rfl rfl
  obtain ⟨r1, r2, r3⟩ := hr
  have hle := hc.cells.le
  have e1 : hh = h0 := r2
  subst e1
  exact h3 (by omega)

theorem notGood {len i : Nat} {h r : Int} (hr : i = len → r = byteOf (nextH h) % 5) : (r = 1 ∨ r = 2) → i = len → 6 < left h := by
  intro h12 hi
  have e := hr hi
  rcases Nat.lt_or_ge 6 (left h) with hl | hl
  · exact hl
  · have := good h hl
    omega

theorem TS.draw (n : Int) (hn : 0 < n) (hn2 : n ≤ 256) (w : World) (h : TS w0 wT g a len cap zs i0 h0 c gb cb m w) :
    Calls Try.prog 14 #[.pointer (some ⟨g, 0, none⟩), .int .i64 n] w fun e w' => ∃ r : Int, e = .returned (.int .i64 r) ∧ 0 ≤ r ∧ r < n ∧ Hid (c = 0 → n = 5 → (r = 1 ∨ r = 2) → i0 = len → 6 < left h0) ∧ TS w0 wT g a len cap zs i0 h0 (c + 1) gb cb m w' := by
  refine (TS.below n hn hn2 w h).mono ?_
  rintro e w' ⟨r, rfl, h1, h2, h3, h4⟩
  refine ⟨r, rfl, h1, h2, ?_, h4⟩
  rintro rfl rfl
  exact notGood (h3 rfl)

theorem TS.great (n : Int) (hn2 : 256 < n) (w : World) (h : TS w0 wT g a len cap zs i0 h0 c gb cb m w) :
    Calls Try.prog 14 #[.pointer (some ⟨g, 0, none⟩), .int .i64 n] w fun e w' => ∃ r : Int, e = .returned (.int .i64 r) ∧ 0 ≤ r ∧ r < n ∧ TS w0 wT g a len cap zs i0 h0 (c + 4) gb cb m w' := by
  obtain ⟨⟨i, hh, hc, hr⟩, he, hrow⟩ := h
  refine (belowGreat n hn2 i hh w hc).mono ?_
  rintro e w' ⟨r, i', rfl, h1, h2, h4, h5, hc', ht⟩
  refine ⟨r, rfl, h1, h2, ⟨i', _, hc', ?_⟩, he, row_touch he ht hrow⟩
  obtain ⟨r1, rfl, r3⟩ := hr
  refine ⟨by omega, ?_, by omega⟩
  rw [iter_add]

theorem TS.any (n : Int) (hn : 0 < n) (w : World) (h : TS w0 wT g a len cap zs i0 h0 c gb cb m w) :
    Calls Try.prog 14 #[.pointer (some ⟨g, 0, none⟩), .int .i64 n] w fun e w' => ∃ (r : Int) (d : Nat), e = .returned (.int .i64 r) ∧ 0 ≤ r ∧ r < n ∧ 1 ≤ d ∧ d ≤ 4 ∧ TS w0 wT g a len cap zs i0 h0 (c + d) gb cb m w' := by
  by_cases hn2 : n ≤ 256
  · refine (TS.below n hn hn2 w h).mono ?_
    rintro e w' ⟨r, rfl, h1, h2, h3, h4⟩
    exact ⟨r, 1, rfl, h1, h2, by omega, by omega, h4⟩
  · refine (TS.great n (by omega) w h).mono ?_
    rintro e w' ⟨r, rfl, h1, h2, h4⟩
    exact ⟨r, 4, rfl, h1, h2, by omega, by omega, h4⟩

theorem TS.byte (w : World) (h : TS w0 wT g a len cap zs i0 h0 c gb cb m w) :
    Calls Try.prog 29 #[.pointer (some ⟨g, 0, none⟩)] w fun e w' => ∃ r : Int, e = .returned (.int .i64 r) ∧ 0 ≤ r ∧ r < 256 ∧ TS w0 wT g a len cap zs i0 h0 (c + 1) gb cb m w' := by
  obtain ⟨⟨i, hh, hc, hr⟩, he, hrow⟩ := h
  refine (byteNow i hh w hc).mono ?_
  rintro e w' ⟨r, i', rfl, h1, h2, h3, h4, h5, hc', ht⟩
  exact ⟨r, rfl, h1, h2, ⟨i', _, hc', hr.next h4 h5⟩, he, row_touch he ht hrow⟩

theorem cur_grown {w w' : World} {i : Nat} {h : Int} {row : Option Nat} (he : g < wT.heap.size) (hc : CurAt w0 wT g a len cap zs i h w) (hg : w.grownBy w' row) (hr : ∀ k, row = some k → wT.heap.size ≤ k) : CurAt w0 wT g a len cap zs i h w' := by
  have hsz := hc.touch.size
  have hb : ∀ k, k < wT.heap.size → w'.heap[k]? = w.heap[k]? := fun k hk => hg.block k (by omega) (fun e => by have := hr k e.symm; omega)
  have hlow := hc.low
  have hcc : ∀ j, w'.cell? ⟨g, j, none⟩ = w.cell? ⟨g, j, none⟩ := fun j => World.cell?_of_block (hb g he)
  have hff : ∀ j, w'.frozen? ⟨g, j, none⟩ = w.frozen? ⟨g, j, none⟩ := fun j => World.frozen?_of_block (hb g he)
  refine ⟨hc.bytes, hc.most, ⟨hg.os.trans hc.bel.os, hg.tape.trans hc.bel.tape, hg.output.trans hc.bel.output, Nat.le_trans hc.bel.size hg.size, fun k hk => (hb k (by omega)).trans (hc.bel.block k hk)⟩, hc.low, Nat.lt_of_lt_of_le hc.here hg.size,
    ⟨hg.os.trans hc.touch.os, hg.tape.trans hc.touch.tape, hg.output.trans hc.touch.output, Nat.le_trans hsz hg.size, fun k hk hkg => (hb k hk).trans (hc.touch.block k hk hkg)⟩, hc.cells.le, ?_, ?_, ?_, ?_, ?_⟩
  · rw [hcc]; exact hc.cells.c0
  · rw [hcc]; exact hc.cells.c1
  · rw [hcc]; exact hc.cells.c2
  · rw [hff]; exact hc.cells.f1
  · rw [hff]; exact hc.cells.f2

theorem TS.append {ops : Array Oper} {rest : List Oper} {o : Oper} {act : Act} {Q : Exit → Act → World → Prop} (hgd : o.guard = none) (s x : Operand)
    (ho : o.op = .call { callee := .builtin .append, args := #[s, x], argTypes := #[22, 22] }) (w : World) (hs : act.eval s = .slice (some ⟨gb, 0, none⟩) m cb) (y : Int) (hy : 0 ≤ y ∧ y < 256) (hm : m ≤ 1000000)
    (hx : act.eval x = .slice (some ⟨w.heap.size, 0, none⟩) 1 1) (h : TS w0 wT g a len cap zs i0 h0 c gb cb m w)
    (k : ∀ gb' cb' w', TS w0 wT g a len cap zs i0 h0 c gb' cb' (m + 1) w' → wpList Try.prog ops Q rest (act.put o.dst (.slice (some ⟨gb', 0, none⟩) (m + 1) cb')) w') :
    wpList Try.prog ops Q (o :: rest) act (w.alloc (.cells #[.int .u8 y] 5)) := by
  obtain ⟨ii, hi, hz0, hz1, hz2⟩ := info_parts info_u8
  obtain ⟨⟨i, hh, hc, hr⟩, he, xs, hxs, hown⟩ := h
  have hsz := hc.touch.size
  refine wpList_append_own _ hgd s x 22 ho wT.heap.size 5 ii (.int .u8 0) 1 1 Try.underlying22 hi hz0 hz1 hz2 rfl (by decide) _ m _ hs (hown.alloc _) ⟨w.heap.size, 0, none⟩ 1 1 [.int .u8 y] hx rfl ?_ ?_ (by unfold maxLen; omega) (by omega) (by simp; omega) ?_
  · intro j u hj
    match j, hj with
    | 0, hj => simp at hj; subst hj; simp [Addr.add]
  · intro u hu
    simp at hu
    subst hu
    rfl
  · intro v' w' hown' hgrow _
    obtain ⟨g', cap', rfl⟩ := ownsRow_succ hown'
    refine k g' cap' w' ⟨⟨i, hh, ?_, hr⟩, he, xs ++ [y], ?_, by simpa using hown'⟩
    · exact cur_grown he (cur_grown (row := none) he hc (World.grownBy_alloc w _ none) (fun k e => by cases e)) hgrow (fun k e => by
        simp [Value.ownBlock] at e
        subst e
        exact (hown.lt gb rfl).1)
    · intro z hz
      rcases List.mem_append.1 hz with hz | hz
      · exact hxs z hz
      · simp at hz
        subst hz
        exact hy

theorem TS.cellAt {w : World} (h : TS w0 wT g a len cap zs i0 h0 c gb cb m w) (j : Nat) (hj : j < m) : ∃ x : Int, w.cell? ⟨gb, j, none⟩ = some (.int .u8 x) ∧ 0 ≤ x ∧ x < 256 := by
  obtain ⟨_, _, xs, hxs, hown⟩ := h
  have hl : xs.length = m := by
    have := hown.1
    simpa using this
  have hc := hown.cells (g := gb) rfl j (.int .u8 xs[j]) (by simp [hl, hj])
  rw [show (⟨gb, 0, none⟩ : Addr).add j = ⟨gb, j, none⟩ by simp [Addr.add]; omega] at hc
  exact ⟨xs[j], hc, hxs _ (List.getElem_mem _)⟩

theorem TS.le_cap {w : World} (h : TS w0 wT g a len cap zs i0 h0 c gb cb m w) : m ≤ cb := by
  obtain ⟨_, _, xs, hxs, hown⟩ := h
  rcases hown.2 with ⟨h1, _⟩ | ⟨g', cap', cur, h1, _, _, h2, _⟩
  · simp at h1
  · simp at h1
    omega

theorem TS.text {w : World} (h : TS w0 wT g a len cap zs i0 h0 c gb cb m w) (n cap' : Nat) (hn : n ≤ m) : ∃ t : ByteArray, t.size = n ∧ (convert 22 9 (.slice (some ⟨gb, 0, none⟩) n cap')).run Try.prog w = .ok (.string t) w := by
  obtain ⟨_, _, xs, hxs, hown⟩ := h
  have hl : xs.length = m := by
    have := hown.1
    simpa using this
  refine ⟨strOfNums (xs.take n), by rw [strOfNums_size]; simp; omega, run_convert_bytes_arg _ 22 5 Try.underlying22 Try.underlying5 gb 0 n cap' _ (by simp; omega) ?_ 9 Try.underlying9⟩
  intro i hi
  have hc := hown.cells (g := gb) rfl i (.int .u8 (xs[i]'(by omega))) (by simp)
  rw [show (⟨gb, 0, none⟩ : Addr).add i = ⟨gb, i, none⟩ by simp [Addr.add]; omega] at hc
  rw [Nat.zero_add, hc]
  simp [List.getD, hi, List.getElem?_eq_getElem (show i < xs.length by omega)]

theorem TS.again {w : World} (h : TS w0 wT g a len cap zs i0 h0 c gb cb m w) : ∃ i hh, TS w0 wT g a len cap zs i hh 0 gb cb m w ∧ Ran len i0 h0 c i hh ∧ CellsAt w g a len cap i hh := by
  obtain ⟨⟨i, hh, hc, hr⟩, he, hrow⟩ := h
  exact ⟨i, hh, ⟨⟨i, hh, hc, Nat.le_refl _, rfl, by omega⟩, he, hrow⟩, hr, hc.cells⟩

theorem TS.cur_ {w : World} (h : TS w0 wT g a len cap zs i0 h0 c gb cb m w) : Cur w0 wT g a len cap zs w := by
  obtain ⟨⟨i, hh, hc, hr⟩, _⟩ := h
  exact hc.cur
end

def lenOf : Value → Nat
  | .slice _ m _ => m
  | _ => 0

def numAt (w : World) (p : Addr) : Int :=
  match w.cell? p with
  | some (.int _ i) => i
  | _ => 0

/-- A measure of what is left to do. -/
def textLeft (n len g : Nat) (v : Value) (w : World) : Nat :=
  (n - lenOf v) * 19342831557926525154164609 + (len - (numAt w ⟨g, 1, none⟩).toNat) * 18446744073709551617 + left (numAt w ⟨g, 2, none⟩)

theorem textLeft_at {w : World} {g : Nat} {a : Option Addr} {len cap i : Nat} {h : Int} (hc : CellsAt w g a len cap i h) (n m c : Nat) (p : Option Addr) :
    textLeft n len g (.slice p m c) w = (n - m) * 19342831557926525154164609 + (len - i) * 18446744073709551617 + left h := by
  simp [textLeft, lenOf, numAt, hc.c1, hc.c2]

theorem textLess {n m m' len i i' c : Nat} {h h' : Int} (hi : i' ≤ len) (hl : len ≤ 1048576) (hr : Ran len i h c i' h') (hc : 1 ≤ c ∧ c ≤ 6) (hm : m < n) (hp : m < m' ∨ (m' = m ∧ (i = len → 6 < left h))) :
    (n - m') * 19342831557926525154164609 + (len - i') * 18446744073709551617 + left h' < (n - m) * 19342831557926525154164609 + (len - i) * 18446744073709551617 + left h := by
  obtain ⟨r1, rfl, r3⟩ := hr
  obtain ⟨s1, s2, s3, s4⟩ := left_spec h
  obtain ⟨t1, t2, t3, t4⟩ := left_spec (iter nextH c h)
  have hit := left_iter h c
  generalize left (iter nextH c h) = L' at *
  generalize left h = L at *
  clear s3 s4 t3 t4
  rcases hp with hp | ⟨rfl, hp⟩
  · omega
  · by_cases hlt : i < len
    · have := r3 (by omega) hlt
      omega
    · have := hp (by omega)
      have := hit (by omega)
      omega

theorem TS.close {w0 wT : World} {g : Nat} {a : Option Addr} {len cap : Nat} {zs : List Int} {i : Nat} {h : Int} {c gb cb m gb' cb' m' n : Nat} {wr w' : World} (hlt : m < n) (hcells : CellsAt wr g a len cap i h)
    (hts : TS w0 wT g a len cap zs i h c gb' cb' m' w') (hc : 1 ≤ c ∧ c ≤ 6) (hm : m' ≤ n + 20) (hp : m < m' ∨ (m' = m ∧ (i = len → 6 < left h))) :
    (∃ (gb cb m i : Nat) (h : Int), Value.slice (some ⟨gb', 0, none⟩) m' cb' = .slice (some ⟨gb, 0, none⟩) m cb ∧ m ≤ n + 20 ∧ CellsAt w' g a len cap i h ∧ TS w0 wT g a len cap zs i h 0 gb cb m w') ∧
      textLeft n len g (.slice (some ⟨gb', 0, none⟩) m' cb') w' < textLeft n len g (.slice (some ⟨gb, 0, none⟩) m cb) wr := by
  obtain ⟨i', h', ht, hr, hcs⟩ := hts.again
  refine ⟨⟨gb', cb', m', i', h', rfl, hm, hcs, ht⟩, ?_⟩
  rw [textLeft_at hcs, textLeft_at hcells]
  obtain ⟨⟨_, _, hcur, _⟩, _⟩ := hts
  exact textLess hcs.le hcur.most hr hc hlt hp
end Go.Proofs.Ytigjppamjfnmcaa
