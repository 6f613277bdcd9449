/-
  The cursor of a draw, number by number: what l01Byte and l01Below leave of it.
-/
import Derived.Test.YtmgaikpninblgaaLcg
namespace Go.Proofs.Ytmgaikpninblgaa
open Go.ChangeShapes Go.WideShapes Go.ChangeAt Go.RowKit
set_option linter.unusedVariables false

/-- The cursor's cells: i bytes are read, h was mixed in last. -/
structure CellsAt (w : World) (g : Nat) (a : Option Addr) (len cap i : Nat) (h : Int) : Prop where
  le : i ≤ len
  c0 : w.cell? ⟨g, 0, none⟩ = some (.slice a len cap)
  c1 : w.cell? ⟨g, 1, none⟩ = some (.int .i64 (i : Int))
  c2 : w.cell? ⟨g, 2, none⟩ = some (.int .i64 h)
  f1 : w.frozen? ⟨g, 1, none⟩ = false
  f2 : w.frozen? ⟨g, 2, none⟩ = false

theorem byteHereAt (g : Nat) (len cap : Nat) (i : Nat) (h : Int) (w : World) (b off : Nat) (z : Int) (hc : CellsAt w g (some ⟨b, off, none⟩) len cap i h) (hi : i < len) (hl : len ≤ 1048576)
    (hz : w.cell? ⟨b, off + i, none⟩ = some (.int .u8 z)) (hz0 : 0 ≤ z) (hz1 : z ≤ 255) (hbg : b ≠ g) :
    Calls Try.prog 50 #[.pointer (some ⟨g, 0, none⟩)] w fun e w' => ∃ x : Int, e = .returned (.int .i64 x) ∧ 0 ≤ x ∧ x < 256 ∧ Touch g w w' ∧ CellsAt w' g (some ⟨b, off, none⟩) len cap (i + 1) (nextH h) := by
  obtain ⟨hle, c0, c1, c2, f1, f2⟩ := hc
  have hlt : (i : Int) < (len : Int) := by omega
  have hlm : (len : Int) ≤ 9223372036854775807 := by omega
  go_enter Try.func50, Try.ntmps50
  go_wp2
  go_quiet (fail)
  go_wp2
  go_quiet (fail)
  go_wp2
  go_quiet (fail)
  go_wp2
  go_ret
  refine ⟨_, rfl, (and255 _).1, (and255 _).2, ?_, hi, ?_, ?_, ?_, ?_, ?_⟩
  · repeat (first | exact Touch.refl _ _ | apply Touch.drewN | apply Touch.put)
  · go_simp
  · go_simp
  · unfold nextH
    go_simp
  · go_simp
  · go_simp

theorem byteEndAt (g : Nat) (a : Option Addr) (len cap : Nat) (h : Int) (w : World) (hc : CellsAt w g a len cap len h) (hl : len ≤ 1048576) :
    Calls Try.prog 50 #[.pointer (some ⟨g, 0, none⟩)] w fun e w' => e = .returned (.int .i64 (byteOf (nextH h))) ∧ Touch g w w' ∧ CellsAt w' g a len cap len (nextH h) := by
  obtain ⟨hle, c0, c1, c2, f1, f2⟩ := hc
  have hlm : (len : Int) ≤ 9223372036854775807 := by omega
  go_enter Try.func50, Try.ntmps50
  go_wp2
  go_quiet (fail)
  go_wp2
  go_quiet (fail)
  go_wp2
  go_ret
  refine ⟨?_, ?_, Nat.le_refl _, ?_, ?_, ?_, ?_, ?_⟩
  · unfold byteOf nextH
    go_simp
  · repeat (first | exact Touch.refl _ _ | apply Touch.drewN | apply Touch.put)
  · go_simp
  · go_simp
  · unfold nextH
    go_simp
  · go_simp
  · go_simp

theorem byteOf_range (h : Int) : 0 ≤ byteOf h ∧ byteOf h < 256 := and255 _

/-- The cursor in block g over the bytes that came in at w0; since wb nothing else was written; i bytes are read, h was mixed in last. -/
structure CurAt (w0 wb : World) (g : Nat) (a : Option Addr) (len cap : Nat) (zs : List Int) (i : Nat) (h : Int) (w : World) : Prop where
  bytes : Bytes w0 a len zs
  most : len ≤ 1048576
  bel : Below w0.heap.size w0 w
  low : w0.heap.size ≤ g
  here : g < w.heap.size
  touch : Touch g wb w
  cells : CellsAt w g a len cap i h

theorem Cur.at_ {w0 wb : World} {g : Nat} {a : Option Addr} {len cap : Nat} {zs : List Int} {w : World} (hc : Cur w0 wb g a len cap zs w) : ∃ i h, CurAt w0 wb g a len cap zs i h w := by
  obtain ⟨h1, h2, h3, h4, h5, h6, i, h, hi, c0, c1, c2, f1, f2⟩ := hc
  exact ⟨i, h, h1, h2, h3, h4, h5, h6, hi, c0, c1, c2, f1, f2⟩

theorem CurAt.cur {w0 wb : World} {g : Nat} {a : Option Addr} {len cap : Nat} {zs : List Int} {i : Nat} {h : Int} {w : World} (hc : CurAt w0 wb g a len cap zs i h w) : Cur w0 wb g a len cap zs w :=
  ⟨hc.bytes, hc.most, hc.bel, hc.low, hc.here, hc.touch, i, h, hc.cells.le, hc.cells.c0, hc.cells.c1, hc.cells.c2, hc.cells.f1, hc.cells.f2⟩

theorem CurAt.on {w0 wb : World} {g : Nat} {a : Option Addr} {len cap : Nat} {zs : List Int} {i i' : Nat} {h h' : Int} {w w' : World} (hc : CurAt w0 wb g a len cap zs i h w) (ht : Touch g w w') (hcs : CellsAt w' g a len cap i' h') : CurAt w0 wb g a len cap zs i' h' w' :=
  ⟨hc.bytes, hc.most, ht.below hc.bel hc.low hc.bel.size, hc.low, Nat.lt_of_lt_of_le hc.here ht.size, hc.touch.trans ht, hcs⟩

theorem byteNow {w0 wb : World} {g : Nat} {a : Option Addr} {len cap : Nat} {zs : List Int} (i : Nat) (h : Int) (w : World) (hc : CurAt w0 wb g a len cap zs i h w) :
    Calls Try.prog 50 #[.pointer (some ⟨g, 0, none⟩)] w fun e w' => ∃ (x : Int) (i' : Nat), e = .returned (.int .i64 x) ∧ 0 ≤ x ∧ x < 256 ∧ (i = len → x = byteOf (nextH h)) ∧ i ≤ i' ∧ (i < len → i < i') ∧ CurAt w0 wb g a len cap zs i' (nextH h) w' ∧ Touch g w w' := by
  by_cases hlt : i < len
  · obtain ⟨b, off, rfl, hzl, hzs⟩ : ∃ b off, a = some ⟨b, off, none⟩ ∧ len ≤ zs.length ∧ ∀ i, i < len → w0.cell? ⟨b, off + i, none⟩ = some (.int .u8 (zs.getD i 0)) ∧ 0 ≤ zs.getD i 0 ∧ zs.getD i 0 ≤ 255 := by
      rcases hc.bytes with h0 | h0
      · omega
      · exact h0
    obtain ⟨hz0, hzlo, hzhi⟩ := hzs i hlt
    have hb := block_lt hz0
    have hlow := hc.low
    refine (byteHereAt g len cap i h w b off _ hc.cells hlt hc.most (cell_later hc.bel hz0) hzlo hzhi (by simp at hb; omega)).mono ?_
    rintro e w' ⟨x, rfl, h0, h1, ht, hcs⟩
    exact ⟨x, i + 1, rfl, h0, h1, by omega, by omega, by omega, hc.on ht hcs, ht⟩
  · have hle := hc.cells.le
    obtain rfl : i = len := by omega
    refine (byteEndAt g a i cap h w hc.cells hc.most).mono ?_
    rintro e w' ⟨rfl, ht, hcs⟩
    exact ⟨_, i, rfl, (byteOf_range _).1, (byteOf_range _).2, fun _ => rfl, Nat.le_refl _, by omega, hc.on ht hcs, ht⟩

/-- Since (i0, h0) c numbers were mixed in. -/
def Ran (len i0 : Nat) (h0 : Int) (c i : Nat) (h : Int) : Prop := i0 ≤ i ∧ h = iter nextH c h0 ∧ (1 ≤ c → i0 < len → i0 < i)

theorem Ran.next {len i0 : Nat} {h0 : Int} {c i i' : Nat} {h : Int} (r : Ran len i0 h0 c i h) (h1 : i ≤ i') (h2 : i < len → i < i') : Ran len i0 h0 (c + 1) i' (nextH h) := by
  obtain ⟨r1, rfl, r3⟩ := r
  refine ⟨by omega, ?_, by omega⟩
  rw [iter_add]
  rfl

theorem below256 {w0 wb : World} {g : Nat} {a : Option Addr} {len cap : Nat} {zs : List Int} (n : Int) (hn : 0 < n) (hn2 : n ≤ 256) (i : Nat) (h : Int) (w : World) (hc : CurAt w0 wb g a len cap zs i h w) :
    Calls Try.prog 24 #[.pointer (some ⟨g, 0, none⟩), .int .i64 n] w fun e w' => ∃ (r : Int) (i' : Nat), e = .returned (.int .i64 r) ∧ 0 ≤ r ∧ r < n ∧ (i = len → r = byteOf (nextH h) % n) ∧ i ≤ i' ∧ (i < len → i < i') ∧ CurAt w0 wb g a len cap zs i' (nextH h) w' ∧ Touch g w w' := by
  have hn0 : (n == 0) = false := by simp; omega
  have hb := byteNow i h w hc
  clear hc
  go_enter Try.func24, Try.ntmps24
  go_wp2_with (go_at_call 50; refine hb.mono ?_; rintro _ w1 ⟨x, i', rfl, hx0, hx1, hx2, hx3, hx4, hc1, ht1⟩)
  go_ret
  exact ⟨x % n, i', rfl, Int.emod_nonneg _ (by omega), Int.emod_lt_of_pos _ hn, fun e => by rw [hx2 e], hx3, hx4, hc1, ht1⟩

theorem belowGreat {w0 wb : World} {g : Nat} {a : Option Addr} {len cap : Nat} {zs : List Int} (n : Int) (hn2 : 256 < n) (i : Nat) (h : Int) (w : World) (hc : CurAt w0 wb g a len cap zs i h w) :
    Calls Try.prog 24 #[.pointer (some ⟨g, 0, none⟩), .int .i64 n] w fun e w' => ∃ (r : Int) (i' : Nat), e = .returned (.int .i64 r) ∧ 0 ≤ r ∧ r < n ∧ i ≤ i' ∧ (i < len → i < i') ∧ CurAt w0 wb g a len cap zs i' (iter nextH 4 h) w' ∧ Touch g w w' := by
  have hn0 : (n == 0) = false := by simp; omega
  have hn1 : 0 < n := by omega
  go_enter Try.func24, Try.ntmps24
  go_wp2_with (go_at_call 50; refine (byteNow _ _ _ (by assumption)).mono ?_; rintro _ w1 ⟨x, i', rfl, hx0, hx1, hx2, hx3, hx4, hc1, ht1⟩; clear hx2)
  go_ret
  rename_i wA xA iA a0 a1 a3 a4 cA tA wB xB iB b0 b1 b3 b4 cB tB wC xC iC c0 c1 c3 c4 cC tC
  exact ⟨_, i', rfl, Int.emod_nonneg _ (by omega), Int.emod_lt_of_pos _ hn1, by omega, by omega, hc1, ((tA.trans tB).trans tC).trans ht1⟩
end Go.Proofs.Ytmgaikpninblgaa
