/-
  Lists of spans; contracts of impl's spansOf, bytesIn and InHeld.
-/
import Derived.Test.YtmgaikpninblgaaInOkI
import Derived.Test.YtmgaikpninblgaaTabApp
namespace Go.Proofs.Ytmgaikpninblgaa
open Go.ChangeShapes Go.WideShapes Go.ChangeAt Go.RowKit Go.Deep
set_option linter.unusedVariables false
set_option maxRecDepth 10000

/-- A span: from, to. -/
def shS : Shape (Int × Int) := ⟨55, 2, fun x => [.int .i64 x.1, .int .i64 x.2], fun _ => rfl, fun x v hv => by simp at hv; rcases hv with rfl | rfl <;> rfl, (0, 0), by decide⟩

/-- Span i. -/
def sAt (ss : List (Int × Int)) (i : Nat) : Int × Int := ss.getD i (0, 0)

theorem info_S : (Try.prog.info? 55).map (fun i => (i.zero, i.size, i.bytes)) = some (some (.agg #[.int .i64 0, .int .i64 0]), 2, 16) := by kernel_rfl

theorem laidS : Laid shS 59 16 := by
  obtain ⟨ii, hi, hz0, hz1, hz2⟩ := info_parts info_S
  exact ⟨Try.underlying59, ii, _, hi, hz0, hz1, hz2, rfl⟩

theorem Rd.sp {w : World} {a : Option Addr} {n : Nat} {ss : List (Int × Int)} (h : Rd shS w a n ss) (i : Nat) (hi : i < n) : ∃ x, a = some x ∧ x.block < w.heap.size ∧ w.cell? (x.add (i * 2)) = some (.int .i64 (sAt ss i).1) ∧ w.cell? ⟨(x.add (i * 2)).block, (x.add (i * 2)).off + 1, none⟩ = some (.int .i64 (sAt ss i).2) := by
  obtain ⟨x, e, hb, hc⟩ := h.cell i hi
  refine ⟨x, e, hb, hc 0 (by decide), ?_⟩
  rw [addr_step x (i * 2) 1 (by omega)]
  exact hc 1 (by decide)

/-- How many bytes spans have. -/
def sumS : List (Int × Int) → Int
  | [] => 0
  | s :: r => s.2 - s.1 + sumS r

theorem sumS_append : ∀ (l m : List (Int × Int)), sumS (l ++ m) = sumS l + sumS m
  | [], m => by simp [sumS]
  | s :: r, m => by
    simp only [List.cons_append, sumS, sumS_append r m]
    omega

theorem sAt_lt {ss : List (Int × Int)} {k : Nat} (h : k < ss.length) : sAt ss k = ss[k] := by simp [sAt, List.getD, List.getElem?_eq_getElem h]

theorem sumS_next (ss : List (Int × Int)) (k : Nat) (h : k < ss.length) : sumS (ss.take (k + 1)) = sumS (ss.take k) + ((sAt ss k).2 - (sAt ss k).1) := by
  rw [List.take_succ_eq_append_getElem h, sumS_append, sAt_lt h]
  simp [sumS]

theorem spans_at (q : Int) (ps : List (Int × ByteArray)) (k : Nat) (h : k < ps.length) : sAt (spans q ps) k = spn q (pAt ps k) := by
  rw [sAt_lt (by rw [spans_len]; exact h)]
  simp [spans, pAt, List.getD, List.getElem?_eq_getElem h]

set_option maxHeartbeats 1000000 in
theorem spansOf (q : Int) (d : ByteArray) (r : Int) (a : Option Addr) (n cap : Nat) (ps : List (Int × ByteArray)) (g : Good q d r n ps) (w : World) (R : Rd shP w a n ps) :
    Calls Try.prog 32 #[inVal q d (.slice a n cap) r] w fun e w' => ∃ b c, e = .returned (.slice (some ⟨b, 0, none⟩) n c) ∧ Held shS w' w.heap.size b n c (spans q ps) ∧ Since w w' := by
  have hlen := R.len
  obtain ⟨hq, hd, hr, hn, hp⟩ := g
  unfold inVal
  have T0 : Held shS ((w.alloc (.cells #[.int .u32 q, .string d, .slice a n cap, .int .i64 r] 31)).alloc (.cells #[] 55)) (w.heap.size + 1) (w.heap.size + 1) 0 0 [] := by
    have := Held.empty (S := shS) (w.alloc (.cells #[.int .u32 q, .string d, .slice a n cap, .int .i64 r] 31))
    rwa [World.size_alloc] at this
  have G1 : Since w (w.alloc (.cells #[.int .u32 q, .string d, .slice a n cap, .int .i64 r] 31)) := (Since.refl _).alloc _
  have A := Blk.new w #[.int .u32 q, .string d, .slice a n cap, .int .i64 r] 31
  go_enter Try.func32, Try.ntmps32
  go_wp2
  go_loopw [3, 10] (fun v i wr => ∃ (k b c : Nat), k ≤ n ∧ i = .int .i64 k ∧ v = .slice (some ⟨b, 0, none⟩) k c ∧ Held shS wr (w.heap.size + 1) b k c (spans q (ps.take k)) ∧ Since (w.alloc (.cells #[.int .u32 q, .string d, .slice a n cap, .int .i64 r] 31)) wr) (fun _ i _ => n - (intOf i).toNat)
  case atStart => exact ⟨0, w.heap.size + 1, 0, by omega, rfl, rfl, by rw [List.take_zero]; exact T0, (Since.refl _).alloc _⟩
  case round =>
    obtain ⟨k, b, c, hk, rfl, rfl, T, Sr⟩ := hrel
    have A2 := A.since Sr
    have hsz := Sr.le
    simp at hsz
    by_cases hlt : k < n
    · have hlt' : (k : Int) < (n : Int) := by omega
      obtain ⟨x, rfl, hb, p0, p1⟩ := (R.since (G1.trans Sr)).prt k hlt
      obtain ⟨hp1, hp2⟩ := hp k hlt
      have hspan := fun wx => spanOf q (pAt ps k) hq hp1 hp2 wx
      have hnx : spans q (ps.take (k + 1)) = spans q (ps.take k) ++ [spn q (pAt ps k)] := by
        rw [shP.take_next ps k (by omega)]
        simp only [spans, List.map_append, List.map_cons, List.map_nil]
        rfl
      generalize pAt ps k = O at p0 p1 hspan hnx
      generalize spn q O = t at hspan hnx
      have g3 := (Since.refl wr).alloc (.cells #[.int .u32 O.1, .string O.2] 68)
      have b0' := (A2.since g3).cell 0
      simp at b0'
      unfold spVal at hspan
      replace hnx : Hid _ := hnx
      clear hp R T0
      go_wp2_with (first | (go_at_call 42; refine (hspan _).mono ?_; rintro _ w2 ⟨rfl, g2⟩; have hY := (g3.trans g2).alloc (.cells #[.int .i64 t.1, .int .i64 t.2] 55); have TY := T.since hY; have RY := Rd.one (S := shS) w2 t 55 w2.heap.size rfl; have hsz2 := (g3.trans g2).le) | (at_builtin; refine app_own (v := .slice (some ⟨b, 0, none⟩) k c) laidS rfl _ _ rfl rfl TY rfl RY (by omega) (by unfold maxLen; omega) (by omega) (by simp; omega) _ rfl ?_; intro g' c' w5 T5 hg5 hat5))
      have S5 := since_grown (Sr.trans hY) hg5 (fun j e => by have := T.low'; have e' : b = j := (by simpa [Value.ownBlock] using e); simp; omega)
      go_roundw
      case rel => exact ⟨k + 1, g', c', by omega, by go_num, rfl, by rw [hnx.out]; exact T5, S5⟩
      case measure => simp [intOf]; omega
    · have hkn : k = n := by omega
      subst hkn
      rw [List.take_of_length_le (by omega)] at T
      clear hp R T0
      go_wp2
      go_ret
      exact ⟨b, c, rfl, T.raise (by have := T.low'; omega), G1.trans Sr⟩

set_option maxHeartbeats 1000000 in
theorem bytesIn (a : Option Addr) (n cap : Nat) (ss : List (Int × Int)) (hn : n ≤ 1048577) (hs : ∀ i, i < n → -4294967296 ≤ (sAt ss i).1 ∧ (sAt ss i).1 ≤ (sAt ss i).2 ∧ (sAt ss i).2 ≤ (sAt ss i).1 + 1048576 ∧ (sAt ss i).2 ≤ 4294967296) (w : World) (R : Rd shS w a n ss) :
    Calls Try.prog 35 #[.slice a n cap] w fun e w' => e = .returned (.int .i64 (sumS ss)) ∧ Since w w' := by
  have hlen := R.len
  go_enter Try.func35, Try.ntmps35
  go_wp2
  go_loopw [3, 8] (fun v i wr => ∃ (k : Nat) (s : Int), k ≤ n ∧ i = .int .i64 k ∧ v = .int .i64 s ∧ 0 ≤ s ∧ s ≤ k * 1048576 ∧ Hid (s = sumS (ss.take k)) ∧ Since w wr) (fun _ i _ => n - (intOf i).toNat)
  case atStart => exact ⟨0, 0, by omega, rfl, rfl, by omega, by omega, by simp [sumS, Hid], Since.refl _⟩
  case round =>
    obtain ⟨k, s, hk, rfl, rfl, hs0, hs1, hsum, Sr⟩ := hrel
    by_cases hlt : k < n
    · have hlt' : (k : Int) < (n : Int) := by omega
      obtain ⟨x, rfl, hb, p0, p1⟩ := (R.since Sr).sp k hlt
      obtain ⟨h1, h2, h3, h4⟩ := hs k hlt
      have hnx := sumS_next ss k (by omega)
      rw [← hsum.out] at hnx
      generalize sAt ss k = t at p0 p1 h1 h2 h3 h4 hnx
      have hw1 : IntKind.i64.wrap (t.2 - t.1) = t.2 - t.1 := by rw [IntWalk.i64_left]; exact IntWalk.wrap64_in _ ⟨by omega, by omega⟩
      have hw2 : IntKind.i64.wrap (s + (t.2 - t.1)) = s + (t.2 - t.1) := by rw [IntWalk.i64_left]; exact IntWalk.wrap64_in _ ⟨by omega, by omega⟩
      replace hnx : Hid _ := hnx
      clear hs R hsum
      go_wp2
      go_roundw
      case rel => exact ⟨k + 1, s + (t.2 - t.1), by omega, by go_num, rfl, by omega, by omega, hnx.out.symm, Sr.alloc _⟩
      case measure => simp [intOf]; omega
    · have hkn : k = n := by omega
      subst hkn
      have h := hsum.out
      rw [List.take_of_length_le (by omega)] at h
      subst h
      clear hs R hsum
      go_wp2
      go_ret
      exact ⟨rfl, Sr⟩

/-- What InHeld answers. -/
def inHeld (q : Int) (d : ByteArray) (r : Int) (ps : List (Int × ByteArray)) : Int := if inOk q d r ps = true then sumS (spans q ps) else 0

theorem good_spans {q : Int} {d : ByteArray} {r : Int} {n : Nat} {ps : List (Int × ByteArray)} (g : Good q d r n ps) (hl : ps.length = n) : ∀ i, i < n → -4294967296 ≤ (sAt (spans q ps) i).1 ∧ (sAt (spans q ps) i).1 ≤ (sAt (spans q ps) i).2 ∧ (sAt (spans q ps) i).2 ≤ (sAt (spans q ps) i).1 + 1048576 ∧ (sAt (spans q ps) i).2 ≤ 4294967296 := fun i hi => by
  rw [spans_at q ps i (by omega)]
  obtain ⟨h1, h2⟩ := g.hp i hi
  obtain ⟨k1, k2, _⟩ := distI_is q (pAt ps i).1
  unfold spn
  simp only
  omega

theorem implInHeld (q : Int) (d : ByteArray) (r : Int) (a : Option Addr) (n cap : Nat) (ps : List (Int × ByteArray)) (g : Good q d r n ps) (w : World) (R : Rd shP w a n ps) :
    Calls Try.prog 16 #[inVal q d (.slice a n cap) r] w fun e w' => e = .returned (.int .i64 (inHeld q d r ps)) ∧ Since w w' := by
  have ho := fun wx Rx => implInOk q d r a n cap ps g wx Rx
  have hsp := fun wx Rx => spansOf q d r a n cap ps g wx Rx
  have hn := g.hn
  have hgs := good_spans g R.len
  have hlen := R.len
  have G : Since w (w.alloc (.cells #[.int .u32 q, .string d, .slice a n cap, .int .i64 r] 31)) := (Since.refl _).alloc _
  have A := Blk.new w #[.int .u32 q, .string d, .slice a n cap, .int .i64 r] 31
  have ho1 := ho _ (R.since G)
  clear ho
  unfold inVal inHeld at *
  cases hk : inOk q d r ps
  · rw [if_neg (by simp)]
    rw [hk] at ho1
    clear hsp hgs g R
    go_enter Try.func16, Try.ntmps16
    go_wp2_with (go_at_call 11; refine ho1.mono ?_; rintro _ w1 ⟨rfl, g1⟩)
    go_ret
    exact ⟨rfl, G.trans g1⟩
  · rw [if_pos rfl]
    rw [hk] at ho1
    go_enter Try.func16, Try.ntmps16
    go_wp2_with (go_at_call 11; refine ho1.mono ?_; rintro _ w1 ⟨rfl, g1⟩; have c0 := (A.since g1).cell 0; have c1 := (A.since g1).cell 1; have c2 := (A.since g1).cell 2; have c3 := (A.since g1).cell 3; simp at c0 c1 c2 c3)
    refine (hsp _ (R.since (G.trans g1))).mono ?_
    rintro _ w2 ⟨b, c, rfl, T, g2⟩
    clear hsp c0 c1 c2 c3
    go_wp2_with (fail)
    refine (bytesIn _ n c (spans q ps) (by omega) hgs w2 T.reads).mono ?_
    rintro _ w3 ⟨rfl, g3⟩
    clear hgs g R
    go_wp2
    go_ret
    exact ⟨rfl, G.trans (g1.trans (g2.trans g3))⟩

/-- What InRoom answers. -/
def inRoomN (q : Int) (d : ByteArray) (r : Int) (ps : List (Int × ByteArray)) : Int := if inOk q d r ps = true then r - d.size else 0

theorem inOk_room {q : Int} {d : ByteArray} {r : Int} {ps : List (Int × ByteArray)} (h : inOk q d r ps = true) : (1 ≤ r ∧ r ≤ 4096) ∧ (d.size : Int) ≤ r ∧ okB 0 (r - d.size) (spans q ps) = true := by
  simpa [inOk] using h

theorem implInRoom (q : Int) (d : ByteArray) (r : Int) (a : Option Addr) (n cap : Nat) (ps : List (Int × ByteArray)) (g : Good q d r n ps) (w : World) (R : Rd shP w a n ps) :
    Calls Try.prog 12 #[inVal q d (.slice a n cap) r] w fun e w' => e = .returned (.int .i64 (inRoomN q d r ps)) ∧ Since w w' := by
  have ho := fun wx Rx => implInOk q d r a n cap ps g wx Rx
  have hd := g.hd
  have G : Since w (w.alloc (.cells #[.int .u32 q, .string d, .slice a n cap, .int .i64 r] 31)) := (Since.refl _).alloc _
  have A := Blk.new w #[.int .u32 q, .string d, .slice a n cap, .int .i64 r] 31
  have ho1 := ho _ (R.since G)
  clear ho
  unfold inRoomN
  cases hk : inOk q d r ps
  · rw [if_neg (by simp)]
    rw [hk] at ho1
    unfold inVal at *
    clear g R
    go_enter Try.func12, Try.ntmps12
    go_wp2_with (go_at_call 11; refine ho1.mono ?_; rintro _ w1 ⟨rfl, g1⟩)
    go_ret
    exact ⟨rfl, G.trans g1⟩
  · rw [if_pos rfl]
    rw [hk] at ho1
    have hm := fun wx => inRoom q d (.slice a n cap) r hd (by have := (inOk_room hk).1; omega) wx
    unfold inVal at *
    clear g R
    go_enter Try.func12, Try.ntmps12
    go_wp2_with (first | (go_at_call 11; refine ho1.mono ?_; rintro _ w1 ⟨rfl, g1⟩; have c0 := (A.since g1).cell 0; have c1 := (A.since g1).cell 1; have c2 := (A.since g1).cell 2; have c3 := (A.since g1).cell 3; simp at c0 c1 c2 c3) | (go_at_call 29; refine (hm _).mono ?_; rintro _ w2 ⟨rfl, g2⟩))
    go_ret
    exact ⟨rfl, G.trans (g1.trans g2)⟩
end Go.Proofs.Ytmgaikpninblgaa
