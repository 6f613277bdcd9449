/-
  The cursor of a draw: what the drawing functions of the specification answer, as far as the laws need it: a byte is a byte, a number below n is below n, and nothing is written but the cursor's own block and new blocks.
-/
import Derived.Test.YtjilpicpfddbfaaDoorTouch
import Derived.WalkLawsBesides
import Derived.WalkSmall
import Derived.BigQuiet
import Derived.Deep.QuietTactic
import Derived.LoopTactic
namespace Go.Proofs.YtjilpicpfddbfaaDoor
open Go.ChangeShapes Go.WideShapes Go.ChangeAt Go.RowKit
set_option linter.unusedVariables false
set_option maxRecDepth 10000

theorem and255 (x : Int) : 0 ≤ bits .and .i64 x 255 ∧ bits .and .i64 x 255 < 256 := by
  have h : (BitVec.ofInt 64 x &&& BitVec.ofInt 64 255).toNat ≤ 255 := by
    rw [BitVec.toNat_and]
    have : (BitVec.ofInt 64 255).toNat = 255 := by decide
    rw [this]
    exact Nat.and_le_right
  have e : bits .and .i64 x 255 = wrap64 ((BitVec.ofInt 64 x &&& BitVec.ofInt 64 255).toNat : Int) := by
    rw [← IntWalk.i64_left]
    rfl
  rw [e, IntWalk.wrap64_in _ ⟨by omega, by omega⟩]
  omega

/-- The bytes that came in: the slice has none; or cell i of it holds the number i of zs, a byte. -/
def Bytes (w : World) (a : Option Addr) (len : Nat) (zs : List Int) : Prop :=
  len = 0 ∨ ∃ b off, a = some ⟨b, off, none⟩ ∧ len ≤ zs.length ∧ ∀ i, i < len → w.cell? ⟨b, off + i, none⟩ = some (.int .u8 (zs.getD i 0)) ∧ 0 ≤ zs.getD i 0 ∧ zs.getD i 0 ≤ 255

theorem block_lt {w : World} {p : Addr} {v : Value} (h : w.cell? p = some v) : p.block < w.heap.size := by
  rcases Nat.lt_or_ge p.block w.heap.size with hl | hl
  · exact hl
  · have e : w.heap[p.block]? = none := by simp [hl]
    unfold World.cell? at h
    simp [e] at h

/-- The cursor in block g over the bytes that came in at w0; since wb nothing else was written. -/
structure Cur (w0 wb : World) (g : Nat) (a : Option Addr) (len cap : Nat) (zs : List Int) (w : World) : Prop where
  bytes : Bytes w0 a len zs
  most : len ≤ 1048576
  bel : Below w0.heap.size w0 w
  low : w0.heap.size ≤ g
  here : g < w.heap.size
  touch : Touch g wb w
  cells : ∃ (i : Nat) (h : Int), i ≤ len ∧ w.cell? ⟨g, 0, none⟩ = some (.slice a len cap) ∧ w.cell? ⟨g, 1, none⟩ = some (.int .i64 (i : Int)) ∧ w.cell? ⟨g, 2, none⟩ = some (.int .i64 h) ∧ w.frozen? ⟨g, 1, none⟩ = false ∧ w.frozen? ⟨g, 2, none⟩ = false

theorem Cur.rebase {w0 wb : World} {g : Nat} {a : Option Addr} {len cap : Nat} {zs : List Int} {w : World} (h : Cur w0 wb g a len cap zs w) : Cur w0 w g a len cap zs w :=
  ⟨h.bytes, h.most, h.bel, h.low, h.here, Touch.refl _ _, h.cells⟩

theorem Cur.since {w0 wb w w' : World} {g : Nat} {a : Option Addr} {len cap : Nat} {zs : List Int} (h : Touch g wb w) (k : Cur w0 w g a len cap zs w') : Cur w0 wb g a len cap zs w' :=
  ⟨k.bytes, k.most, k.bel, k.low, k.here, h.trans k.touch, k.cells⟩

theorem Cur.moved {w0 wb w w' : World} {g g' : Nat} {a : Option Addr} {len cap : Nat} {zs : List Int} (h : Cur w0 wb g a len cap zs w) (b : Below w.heap.size w w') : Cur w0 wb g a len cap zs w' := by
  obtain ⟨i, x, hi, c0, c1, c2, f1, f2⟩ := h.cells
  refine ⟨h.bytes, h.most, h.bel.trans (b.mono h.bel.size), h.low, Nat.lt_of_lt_of_le h.here b.size, h.touch.trans (Touch.of_below b fun k hk _ => hk), i, x, hi, ?_, ?_, ?_, ?_, ?_⟩
  · rw [b.cell (p := ⟨g, 0, none⟩) h.here]; exact c0
  · rw [b.cell (p := ⟨g, 1, none⟩) h.here]; exact c1
  · rw [b.cell (p := ⟨g, 2, none⟩) h.here]; exact c2
  · rw [b.frozen (p := ⟨g, 1, none⟩) h.here]; exact f1
  · rw [b.frozen (p := ⟨g, 2, none⟩) h.here]; exact f2

theorem Cur.alloc {w0 wb w : World} {g : Nat} {a : Option Addr} {len cap : Nat} {zs : List Int} (h : Cur w0 wb g a len cap zs w) (o : Obj) : Cur w0 wb g a len cap zs (w.alloc o) :=
  h.moved (g' := g) ((Below.refl w.heap.size w).alloc (Nat.le_refl _) o)

/-- The cells of a cursor. -/
def Cells (w : World) (g : Nat) (a : Option Addr) (len cap : Nat) : Prop :=
  ∃ (i : Nat) (h : Int), i ≤ len ∧ w.cell? ⟨g, 0, none⟩ = some (.slice a len cap) ∧ w.cell? ⟨g, 1, none⟩ = some (.int .i64 (i : Int)) ∧ w.cell? ⟨g, 2, none⟩ = some (.int .i64 h) ∧ w.frozen? ⟨g, 1, none⟩ = false ∧ w.frozen? ⟨g, 2, none⟩ = false

theorem byteHere (g : Nat) (len cap : Nat) (i : Nat) (h : Int) (w : World) (b off : Nat) (z : Int)
    (c0 : w.cell? ⟨g, 0, none⟩ = some (.slice (some ⟨b, off, none⟩) len cap)) (c1 : w.cell? ⟨g, 1, none⟩ = some (.int .i64 (i : Int))) (c2 : w.cell? ⟨g, 2, none⟩ = some (.int .i64 h))
    (f1 : w.frozen? ⟨g, 1, none⟩ = false) (f2 : w.frozen? ⟨g, 2, none⟩ = false) (hi : i < len) (hl : len ≤ 1048576)
    (hz : w.cell? ⟨b, off + i, none⟩ = some (.int .u8 z)) (hz0 : 0 ≤ z) (hz1 : z ≤ 255) (hbg : b ≠ g) :
    Calls Tryd.prog 32 #[.pointer (some ⟨g, 0, none⟩)] w fun e w' => ∃ x : Int, e = .returned (.int .i64 x) ∧ 0 ≤ x ∧ x < 256 ∧ Touch g w w' ∧ Cells w' g (some ⟨b, off, none⟩) len cap := by
  have hlt : (i : Int) < (len : Int) := by omega
  have hlm : (len : Int) ≤ 9223372036854775807 := by omega
  go_enter Tryd.func32, Tryd.ntmps32
  go_wp2
  go_quiet (fail)
  go_wp2
  go_quiet (fail)
  go_wp2
  go_quiet (fail)
  go_wp2
  go_ret
  refine ⟨_, rfl, (and255 _).1, (and255 _).2, ?_, i + 1, wrap64 (wrap64 (h * 6364136223846793005) + 1442695040888963407), hi, ?_, ?_, ?_, ?_, ?_⟩
  · repeat (first | exact Touch.refl _ _ | apply Touch.drewN | apply Touch.put)
  · go_simp
  · go_simp
  · go_simp
  · go_simp
  · go_simp

theorem byteEnd (g : Nat) (a : Option Addr) (len cap : Nat) (h : Int) (w : World)
    (c0 : w.cell? ⟨g, 0, none⟩ = some (.slice a len cap)) (c1 : w.cell? ⟨g, 1, none⟩ = some (.int .i64 (len : Int))) (c2 : w.cell? ⟨g, 2, none⟩ = some (.int .i64 h))
    (f1 : w.frozen? ⟨g, 1, none⟩ = false) (f2 : w.frozen? ⟨g, 2, none⟩ = false) (hl : len ≤ 1048576) :
    Calls Tryd.prog 32 #[.pointer (some ⟨g, 0, none⟩)] w fun e w' => ∃ x : Int, e = .returned (.int .i64 x) ∧ 0 ≤ x ∧ x < 256 ∧ Touch g w w' ∧ Cells w' g a len cap := by
  have hlm : (len : Int) ≤ 9223372036854775807 := by omega
  go_enter Tryd.func32, Tryd.ntmps32
  go_wp2
  go_quiet (fail)
  go_wp2
  go_quiet (fail)
  go_wp2
  go_ret
  refine ⟨_, rfl, (and255 _).1, (and255 _).2, ?_, len, wrap64 (wrap64 (h * 6364136223846793005) + 1442695040888963407), Nat.le_refl _, ?_, ?_, ?_, ?_, ?_⟩
  · repeat (first | exact Touch.refl _ _ | apply Touch.drewN | apply Touch.put)
  · go_simp
  · go_simp
  · go_simp
  · go_simp
  · go_simp

theorem byte {w0 wb : World} {g : Nat} {a : Option Addr} {len cap : Nat} {zs : List Int} (w : World) (hc : Cur w0 wb g a len cap zs w) :
    Calls Tryd.prog 32 #[.pointer (some ⟨g, 0, none⟩)] w fun e w' => ∃ x : Int, e = .returned (.int .i64 x) ∧ 0 ≤ x ∧ x < 256 ∧ Cur w0 wb g a len cap zs w' := by
  obtain ⟨hby, hmost, hbel, hlow, hhere, htouch, i, h, hi, c0, c1, c2, f1, f2⟩ := hc
  have hK : ∀ w', Touch g w w' → Cells w' g a len cap → Cur w0 wb g a len cap zs w' :=
    fun w' ht hcs => ⟨hby, hmost, ht.below hbel hlow hbel.size, hlow, Nat.lt_of_lt_of_le hhere ht.size, htouch.trans ht, hcs⟩
  by_cases hlt : i < len
  · obtain ⟨b, off, rfl, hzl, hzs⟩ : ∃ b off, a = some ⟨b, off, none⟩ ∧ len ≤ zs.length ∧ ∀ i, i < len → w0.cell? ⟨b, off + i, none⟩ = some (.int .u8 (zs.getD i 0)) ∧ 0 ≤ zs.getD i 0 ∧ zs.getD i 0 ≤ 255 := by
      rcases hby with h0 | h0
      · omega
      · exact h0
    obtain ⟨hz0, hzlo, hzhi⟩ := hzs i hlt
    have hb := block_lt hz0
    refine (byteHere g len cap i h w b off _ c0 c1 c2 f1 f2 hlt hmost (cell_later hbel hz0) hzlo hzhi (by simp at hb; omega)).mono ?_
    rintro e w' ⟨x, rfl, h0, h1, ht, hcs⟩
    exact ⟨x, rfl, h0, h1, hK w' ht hcs⟩
  · obtain rfl : i = len := by omega
    refine (byteEnd g a i cap h w c0 c1 c2 f1 f2 hmost).mono ?_
    rintro e w' ⟨x, rfl, h0, h1, ht, hcs⟩
    exact ⟨x, rfl, h0, h1, hK w' ht hcs⟩

theorem below {w0 wb : World} {g : Nat} {a : Option Addr} {len cap : Nat} {zs : List Int} (n : Int) (w : World) (hc : Cur w0 wb g a len cap zs w) :
    Calls Tryd.prog 21 #[.pointer (some ⟨g, 0, none⟩), .int .i64 n] w fun e w' => ∃ r : Int, e = .returned (.int .i64 r) ∧ 0 ≤ r ∧ (0 < n → r < n) ∧ Cur w0 wb g a len cap zs w' := by
  by_cases h0 : n ≤ 0
  · go_enter Tryd.func21, Tryd.ntmps21
    go_wp2
    go_ret
    exact ⟨0, rfl, by omega, by omega, hc⟩
  · by_cases h1 : n ≤ 256
    · have hn0 : (n == 0) = false := by simp; omega
      have hn1 : 0 < n := by omega
      go_enter Tryd.func21, Tryd.ntmps21
      go_wp2_with (go_at_call 32; refine (byte _ (by assumption)).mono ?_; rintro _ w1 ⟨x, rfl, hx0, hx1, hc1⟩)
      go_ret
      exact ⟨x % n, rfl, Int.emod_nonneg _ (by omega), fun h => Int.emod_lt_of_pos _ h, by assumption⟩
    · have hn0 : (n == 0) = false := by simp; omega
      have hn1 : 0 < n := by omega
      go_enter Tryd.func21, Tryd.ntmps21
      go_wp2_with (go_at_call 32; refine (byte _ (by assumption)).mono ?_; rintro _ w1 ⟨x, rfl, hx0, hx1, hc1⟩)
      go_ret
      exact ⟨_, rfl, Int.emod_nonneg _ (by omega), fun h => Int.emod_lt_of_pos _ h, hc1⟩

theorem once {w0 wb : World} {g : Nat} {a : Option Addr} {len cap : Nat} {zs : List Int} (n : Int) (w : World) (hc : Cur w0 wb g a len cap zs w) :
    Calls Tryd.prog 31 #[.pointer (some ⟨g, 0, none⟩), .int .i64 n] w fun e w' => ∃ r : Bool, e = .returned (.bool r) ∧ Cur w0 wb g a len cap zs w' := by
  go_enter Tryd.func31, Tryd.ntmps31
  go_wp2_with (go_at_call 21; refine (below n _ (by assumption)).mono ?_; rintro _ w1 ⟨x, rfl, hx0, hx1, hc1⟩)
  go_ret
  exact ⟨_, rfl, hc1⟩

/-- A list of whole numbers in a block of its own. -/
def Ints (w : World) (gl : Nat) (vs : List Int) : Prop := ∀ k, k < vs.length → w.cell? ⟨gl, k, none⟩ = some (.int .i64 (vs.getD k 0))

theorem pickInt {w0 wb : World} {g : Nat} {a : Option Addr} {len cap : Nat} {zs : List Int} (gl n : Nat) (vs : List Int) (hn : vs.length = n) (hpos : 0 < n) (hn2 : n ≤ 1000) (w : World) (hc : Cur w0 wb g a len cap zs w) (hne : gl ≠ g) (hl : Ints w gl vs) :
    Calls Tryd.prog 30 #[.pointer (some ⟨g, 0, none⟩), .slice (some ⟨gl, 0, none⟩) n n] w fun e w' => ∃ k : Nat, k < vs.length ∧ e = .returned (.int .i64 (vs.getD k 0)) ∧ Cur w0 wb g a len cap zs w' := by
  have hr := hc.rebase
  have hb := fun wx => below (w0 := w0) (wb := w) (g := g) (a := a) (len := len) (cap := cap) (zs := zs) (n : Int) wx
  have hin : gl < w.heap.size := by
    have := block_lt (hl 0 (by omega))
    simpa using this
  have fin : ∀ (r : Int) (w1 : World), 0 ≤ r → (0 < (n : Int) → r < (n : Int)) → Cur w0 w g a len cap zs w1 → ∃ (k : Nat) (v : Int), r = (k : Int) ∧ k < n ∧ w1.cell? ⟨gl, k, none⟩ = some (.int .i64 v) ∧ Hid (v = vs.getD k 0) := by
    intro r w1 h0 h1 hc1
    obtain ⟨k, rfl⟩ := Int.eq_ofNat_of_zero_le h0
    have hk : k < n := by
      have := h1 (by omega)
      omega
    exact ⟨k, _, rfl, hk, by rw [hc1.touch.cell (p := ⟨gl, k, none⟩) hne hin]; exact hl k (by omega), rfl⟩
  have hout : ∀ w1, Cur w0 w g a len cap zs w1 → Cur w0 wb g a len cap zs w1 := fun w1 h => Cur.since hc.touch h
  clear hc hl
  go_enter Tryd.func30, Tryd.ntmps30
  go_wp2_with (go_at_call 21; refine (hb _ (by assumption)).mono ?_; rintro _ w1 ⟨x, rfl, hx0, hx1, hc1⟩; obtain ⟨k, v, rfl, hk, hcell, hv⟩ := fin x w1 hx0 hx1 hc1)
  go_ret
  exact ⟨k, by omega, by rw [← hv.out]; rfl, hout _ hc1⟩
end Go.Proofs.YtjilpicpfddbfaaDoor
