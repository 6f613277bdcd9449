/-
  The draws of small numbers, with what they touch.
  The draw of a stream and of its pieces.
  Plain facts of a buffer of bytes that came: it holds a beginning of a stream, and pieces of it further on; InPut and InRead keep that.
  Regions that leave their order open and hold one operation that writes (into a block that came in the region): each operation is shown once; what the writer leaves may be told by the values of those that it waits for.
  Variables for buffers of bytes that came, made and written in a region whose order is open.
-/
import Derived.Test.YtmgaikpninblgaaDraws
import Derived.Test.YtmgaikpninblgaaCode
import Derived.Test.YtmgaikpninblgaaRow
import Derived.Test.YtmgaikpninblgaaDrawT
import Derived.Test.YtmgaikpninblgaaNum
import Derived.Test.YtmgaikpninblgaaSpecFact
import Derived.Test.YtmgaikpninblgaaInReadP
import Derived.Test.YtmgaikpninblgaaBytF
import Derived.Test.YtmgaikpninblgaaDrawnTail
namespace Go.Proofs.Ytmgaikpninblgaa
open Go.ChangeShapes Go.WideShapes Go.ChangeAt Go.RowKit
set_option linter.unusedVariables false

theorem Touch.putN {g b : Nat} {w x : World} (h : Touch g w x) (hb : w.heap.size ≤ b) (i : Nat) (v : Value) : Touch g w (x.setCell ⟨b, i, none⟩ v) := by
  have hs := (Below.refl 0 x).setCell (p := ⟨b, i, none⟩) (Nat.zero_le _) v
  exact ⟨hs.os.trans h.os, hs.tape.trans h.tape, hs.output.trans h.output, Nat.le_trans h.size hs.size, fun k hk hg => (Below.heap_setCell x ⟨b, i, none⟩ v k (by show k ≠ b; omega)).trans (h.block k hk hg)⟩

section
variable {w0 wb : World} {g : Nat} {a : Option Addr} {len cap : Nat} {zs : List Int}

theorem belowB (n : Int) (hn : 0 < n) (w : World) (hc : Cur w0 wb g a len cap zs w) :
    Calls Try.prog 24 #[.pointer (some ⟨g, 0, none⟩), .int .i64 n] w fun e w' => ∃ r : Int, e = .returned (.int .i64 r) ∧ 0 ≤ r ∧ r < n ∧ Cur w0 wb g a len cap zs w' ∧ Touch g w w' :=
  (belowP n hn w hc.rebase).mono fun e w' ⟨r, he, h0, h1, h⟩ => ⟨r, he, h0, h1, Cur.since hc.touch h, h.touch⟩

theorem Cur.putN {x : World} {b : Nat} (h : Cur w0 wb g a len cap zs x) (hne : b ≠ g) (h0 : w0.heap.size ≤ b) (h1 : wb.heap.size ≤ b) (i : Nat) (v : Value) : Cur w0 wb g a len cap zs (x.setCell ⟨b, i, none⟩ v) := by
  obtain ⟨j, y, hj, c0, c1, c2, f1, f2⟩ := h.cells
  have hc : ∀ q, (x.setCell ⟨b, i, none⟩ v).cell? ⟨g, q, none⟩ = x.cell? ⟨g, q, none⟩ := fun q => World.cell?_setCell_other x _ _ v (fun e => hne (congrArg Addr.block e))
  refine ⟨h.bytes, h.most, Below.setCell h.bel (p := ⟨b, i, none⟩) h0 v, h.low, ?_, h.touch.putN h1 i v, j, y, hj, (hc 0).trans c0, (hc 1).trans c1, (hc 2).trans c2, ?_, ?_⟩
  · have := h.here
    simpa [World.setCell] using this
  · rw [World.frozen?_setCell]; exact f1
  · rw [World.frozen?_setCell]; exact f2

theorem Cur.grownN {w w' : World} {row : Option Nat} (hc : Cur w0 wb g a len cap zs w) (he : g < wb.heap.size) (hg : w.grownBy w' row) (hr : ∀ k, row = some k → wb.heap.size ≤ k) : Cur w0 wb g a len cap zs w' := by
  have hsz := hc.touch.size
  have hlow := hc.low
  have hb : ∀ k, k < wb.heap.size → w'.heap[k]? = w.heap[k]? := fun k hk => hg.block k (by omega) (fun e => by have := hr k e.symm; omega)
  obtain ⟨j, y, hj, c0, c1, c2, f1, f2⟩ := hc.cells
  have hcc : ∀ q, w'.cell? ⟨g, q, none⟩ = w.cell? ⟨g, q, none⟩ := fun q => World.cell?_of_block (hb g he)
  have hff : ∀ q, w'.frozen? ⟨g, q, none⟩ = w.frozen? ⟨g, q, none⟩ := fun q => World.frozen?_of_block (hb g he)
  exact ⟨hc.bytes, hc.most, ⟨hg.os.trans hc.bel.os, hg.tape.trans hc.bel.tape, hg.output.trans hc.bel.output, Nat.le_trans hc.bel.size hg.size, fun k hk => (hb k (by omega)).trans (hc.bel.block k hk)⟩, hc.low, Nat.lt_of_lt_of_le hc.here hg.size,
    ⟨hg.os.trans hc.touch.os, hg.tape.trans hc.touch.tape, hg.output.trans hc.touch.output, Nat.le_trans hsz hg.size, fun k hk hkg => (hb k hk).trans (hc.touch.block k hk hkg)⟩, j, y, hj, (hcc 0).trans c0, (hcc 1).trans c1, (hcc 2).trans c2, (hff 1).trans f1, (hff 2).trans f2⟩
end

theorem sizeB (a : Option Addr) (len cap : Nat) (hm : len ≤ 1048576) (most : Int) (h2 : 2 ≤ most) (hmm : most ≤ 1000000) (w : World) :
    Calls Try.prog 25 #[.slice a len cap, .int .i64 most] w fun e w' => ∃ r : Int, e = .returned (.int .i64 r) ∧ 0 < r ∧ r ≤ most ∧ w = w' := by
  have ht := Int.tdiv_eq_ediv_of_nonneg (a := (len : Int)) (b := 20) (by omega)
  by_cases h : most < 2 + (len : Int) / 20
  · go_enter Try.func25, Try.ntmps25
    go_wp2
    go_ret
    exact ⟨most, rfl, by omega, by omega, rfl⟩
  · go_enter Try.func25, Try.ntmps25
    go_wp2
    go_ret
    exact ⟨_, rfl, by omega, by omega, rfl⟩
end Go.Proofs.Ytmgaikpninblgaa

namespace Go.Proofs.Ytmgaikpninblgaa
open Go.ChangeShapes Go.WideShapes Go.ChangeAt Go.RowKit Go.Deep
set_option linter.unusedVariables false

/-- Each number is 0 .. m - 1. -/
def InR (m : Int) (l : List Int) : Prop := ∀ x ∈ l, 0 ≤ x ∧ x < m

theorem InR.nil (m : Int) : InR m [] := fun x hx => by cases hx

theorem InR.snoc {m : Int} {l : List Int} (h : InR m l) {x : Int} (h0 : 0 ≤ x) (h1 : x < m) : InR m (l ++ [x]) := by
  intro z hz
  rcases List.mem_append.1 hz with k | k
  · exact h z k
  · rw [List.mem_singleton.1 k]
    exact ⟨h0, h1⟩

theorem InR.at_ {m : Int} {l : List Int} (h : InR m l) (i : Nat) (hi : i < l.length) : 0 ≤ iAt l i ∧ iAt l i < m := by
  have : iAt l i = l[i] := by simp [iAt, List.getD, hi]
  rw [this]
  exact h _ (List.getElem_mem hi)

theorem Held.grows {α : Type} {S : Shape α} {w w' : World} {B g n c : Nat} {xs : List α} {row : Option Nat} (T : Held S w B g n c xs) (hg : w.grownBy w' row) (hne : row ≠ some g) : Held S w' B g n c xs :=
  Own.kept T hg (.inr (by intro e; exact hne (by rw [← e]; rfl)))

set_option maxHeartbeats 4000000 in
set_option maxRecDepth 20000 in
theorem drawStream (a : Option Addr) (len cap : Nat) (zs : List Int) (w : World) (hb : Bytes w a len zs) (hm : len ≤ 1048576) :
    Calls Try.prog 7 #[.slice a len cap] w fun e w' => ∃ (S : ByteArray) (room : Int) (gf cf gn cn k : Nat) (fs ns : List Int), e = .returned (.tuple #[.string S, .int .i64 room, .slice (some ⟨gf, 0, none⟩) k cf, .slice (some ⟨gn, 0, none⟩) k cn]) ∧ 1 ≤ S.size ∧ S.size ≤ 200 ∧ 10 ≤ room ∧ room ≤ 89 ∧ k ≤ 29 ∧ Held shI w' w.heap.size gf k cf fs ∧ Held shI w' w.heap.size gn k cn ns ∧ InR S.size fs ∧ InR 40 ns ∧ Since w w' := by
  have hnew := drawNew a len cap zs w hb hm w (Below.refl _ _)
  clear hb
  go_enter Try.func7, Try.ntmps7
  go_wp2_with (fail)
  refine hnew.mono ?_
  rintro _ w1 ⟨g, rfl, hg, b1, C1⟩
  clear hnew
  have hw1 := b1.size
  go_wp2_with (fail)
  refine (sizeB a len cap hm 200 (by omega) (by omega) w1).mono ?_
  rintro _ _ ⟨r, rfl, hr0, hr1, rfl⟩
  go_wp2_with (fail)
  refine (belowB r hr0 _ C1).mono ?_
  rintro _ w2 ⟨n, rfl, hn0, hn1, C2, u2⟩
  have he := C1.here
  clear u2 C1
  go_wp2_with (fail)
  refine (textT (1 + n) (by omega) (by omega) _ C2).mono ?_
  rintro _ w3 ⟨S, rfl, hSz, C3, u3⟩
  have hS1 : 1 ≤ S.size := by omega
  have hS2 : S.size ≤ 200 := by omega
  clear hSz
  have hw3 := C3.touch.size
  clear u3 C2
  have k1 := (Since.refl w3).alloc (.cells #[] 3)
  have k2 := (Since.refl (w3.alloc (.cells #[] 3))).alloc (.cells #[] 3)
  have F0 := (Held.empty (S := shI) w3).since k2
  have N0 := Held.empty (S := shI) (w3.alloc (.cells #[] 3))
  rw [World.size_alloc] at N0
  have C4 := (C3.alloc (.cells #[] 3)).alloc (.cells #[] 3)
  clear C3 k1 k2
  go_wp2_with (fail)
  refine (belowB 30 (by omega) _ C4).mono ?_
  rintro _ w4 ⟨k, rfl, hk0, hk1, C5, u5⟩
  replace F0 := F0.touch u5 (by omega)
  replace N0 := (N0.raise (B' := w3.heap.size) (by omega)).touch u5 (by omega)
  clear C4 u5
  go_wp2_with (fail)
  go_loopw [8, 9, 11] (fun v u i wr => ∃ (j gf cf gn cn : Nat) (fs ns : List Int), i = .int .i64 j ∧ (j : Int) ≤ k ∧ v = .slice (some ⟨gf, 0, none⟩) j cf ∧ u = .slice (some ⟨gn, 0, none⟩) j cn ∧ gf ≠ gn ∧ Held shI wr w3.heap.size gf j cf fs ∧ Held shI wr w3.heap.size gn j cn ns ∧ InR S.size fs ∧ InR 40 ns ∧ Cur w w1 g a len cap zs wr) (fun _ _ i _ => k.toNat - (intOf i).toNat)
  case atStart => exact ⟨0, w3.heap.size, 0, w3.heap.size + 1, 0, [], [], rfl, by omega, rfl, rfl, by omega, F0, N0, InR.nil _, InR.nil _, C5⟩
  case round =>
    clear F0 N0 C5
    obtain ⟨j, gf, cf, gn, cn, fs, ns, rfl, hj, rfl, rfl, hne, F, N, hv1, hv2, C⟩ := hrel
    have hlf := F.low'
    have hln := N.low'
    by_cases hlt : (j : Int) < k
    · go_wp2_with (fail)
      refine (belowB (S.size : Int) (by omega) _ C).mono ?_
      rintro _ w5 ⟨x, rfl, hx0, hx1, C6, u6⟩
      replace F := F.touch u6 (by omega)
      replace N := N.touch u6 (by omega)
      clear C u6
      have ka := (Since.refl w5).alloc (.cells #[.int .i64 x] 3)
      have Ca := C6.alloc (.cells #[.int .i64 x] 3)
      have Fa := F.since ka
      have Na := N.since ka
      have Ra := Rd.one (S := shI) w5 x 3 w5.heap.size rfl
      have hlF := F.lt
      have hlN := N.lt
      clear F N C6 ka
      go_wp2_with (at_builtin; refine app_own laidI rfl _ _ rfl rfl Fa rfl Ra (by omega) (by unfold maxLen; omega) (by omega) (by simp; omega) _ rfl ?_; intro gf' cf' w6 F6 hg6 hat6)
      have C7 := Ca.grownN he hg6 (fun q e => by obtain rfl : gf = q := Option.some.inj e; omega)
      have N6 := Na.grows hg6 (by intro e; exact hne (Option.some.inj e))
      have hne' : gf' ≠ gn := by
        rcases hat6 with e | e
        · have e' : gf = gf' := Option.some.inj e
          omega
        · simp at e
          omega
      clear Ca Fa Na Ra hg6 hat6
      refine (belowB 40 (by omega) _ C7).mono ?_
      rintro _ w7 ⟨y, rfl, hy0, hy1, C8, u8⟩
      have hlf' := F6.low'
      replace F6 := F6.touch u8 (by omega)
      replace N6 := N6.touch u8 (by omega)
      clear C7 u8
      have ka := (Since.refl w7).alloc (.cells #[.int .i64 y] 3)
      have Ca := C8.alloc (.cells #[.int .i64 y] 3)
      have Fa := F6.since ka
      have Na := N6.since ka
      have Ra := Rd.one (S := shI) w7 y 3 w7.heap.size rfl
      have hlF := F6.lt
      have hlN := N6.lt
      clear F6 N6 C8 ka
      go_wp2_with (at_builtin; refine app_own laidI rfl _ _ rfl rfl Na rfl Ra (by omega) (by unfold maxLen; omega) (by omega) (by simp; omega) _ rfl ?_; intro gn' cn' w9 N9 hg9 hat9)
      have C9 := Ca.grownN he hg9 (fun q e => by obtain rfl : gn = q := Option.some.inj e; omega)
      have F9 := Fa.grows hg9 (by intro e; exact hne' (Option.some.inj e).symm)
      have hne9 : gf' ≠ gn' := by
        rcases hat9 with e | e
        · have e' : gn = gn' := Option.some.inj e
          omega
        · simp at e
          omega
      clear Ca Fa Na Ra hg9 hat9
      have hv1' := hv1.snoc hx0 hx1
      have hv2' := hv2.snoc hy0 hy1
      go_roundw
      case rel => exact ⟨j + 1, gf', cf', gn', cn', fs ++ [x], ns ++ [y], by go_num, by omega, rfl, rfl, hne9, F9, N9, hv1', hv2', C9⟩
      case measure => simp [intOf]; omega
    · have hj29 : j ≤ 29 := by omega
      go_wp2_with (fail)
      refine (belowB 80 (by omega) _ C).mono ?_
      rintro _ w5 ⟨y, rfl, hy0, hy1, C6, u6⟩
      replace F := F.touch u6 (by omega)
      replace N := N.touch u6 (by omega)
      clear C u6
      have hw5 := C6.bel
      go_wp2_with (fail)
      refine bodyPost_ret (v := .tuple #[.string S, .int .i64 (10 + y), .slice (some ⟨gf, 0, none⟩) j cf, .slice (some ⟨gn, 0, none⟩) j cn]) ?_ rfl ⟨S, 10 + y, gf, cf, gn, cn, j, fs, ns, rfl, by omega, by omega, by omega, by omega, by omega, F.raise (by omega), N.raise (by omega), hv1, hv2, hw5⟩
      simp [results, go_sem]
end Go.Proofs.Ytmgaikpninblgaa

namespace Go.Proofs.Ytmgaikpninblgaa
open Go.ChangeShapes Go.WideShapes Go.ChangeAt Go.RowKit Go.Deep
set_option linter.unusedVariables false

/-- Of the stream S, whose first byte lies at the place first, rd bytes were read, d is ready, and each part has its bytes at its places. -/
structure Str (S : ByteArray) (first room : Int) (q : Int) (d : ByteArray) (ps : List (Int × ByteArray)) (rd : Nat) : Prop where
  ok : inOk q d room ps = true
  hq : q = (first + ((rd + d.size : Nat) : Int)) % 4294967296
  le : rd + d.size ≤ S.size
  hd : ∀ i, i < d.size → byteAt d i = byteAt S (rd + i)
  wd : ∀ p ∈ ps, IsWord p.1
  hp : ∀ p ∈ ps, ∀ k, k < p.2.size → rd + d.size + (distI q p.1).toNat + k < S.size ∧ byteAt p.2 k = byteAt S (rd + d.size + (distI q p.1).toNat + k)

theorem okB_wider : ∀ (l : List (Int × Int)) (e W W' : Int), okB e W l = true → W ≤ W' → okB e W' l = true
  | [], _, _, _, _, _ => rfl
  | s :: r, e, W, W', h, hw => by
    simp only [okB, Bool.and_eq_true, decide_eq_true_eq] at h ⊢
    exact ⟨by omega, okB_wider r s.2 W W' h.2 hw⟩

theorem okB_shift (n : Int) : ∀ (l : List (Int × Int)) (e W : Int), okB e W l = true → okB (e - n) (W - n) (l.map fun s => (s.1 - n, s.2 - n)) = true
  | [], _, _, _ => rfl
  | s :: r, e, W, h => by
    simp only [okB, Bool.and_eq_true, decide_eq_true_eq, List.map_cons] at h ⊢
    exact ⟨by omega, okB_shift n r s.2 W h.2⟩

theorem pAt_mem (ps : List (Int × ByteArray)) (i : Nat) (h : i < ps.length) : pAt ps i ∈ ps := by
  have : pAt ps i = ps[i] := by simp [pAt, List.getD, h]
  rw [this]
  exact List.getElem_mem h

section
variable {S : ByteArray} {first room : Int} {q : Int} {d : ByteArray} {ps : List (Int × ByteArray)} {rd : Nat}

theorem Str.span_ (h : Str S first room q d ps rd) {p : Int × ByteArray} (hp : p ∈ ps) : 0 < distI q p.1 ∧ 0 < p.2.size ∧ distI q p.1 + p.2.size ≤ room - d.size := by
  obtain ⟨_, _, hkb⟩ := inOk_room h.ok
  have := okB_mem _ _ _ hkb (spn q p) (List.mem_map_of_mem hp)
  simp only [spn] at this
  omega

theorem Str.good (h : Str S first room q d ps rd) (hS : S.size ≤ 1000) : Good q d room ps.length ps := by
  obtain ⟨hr, hr3, hkb⟩ := inOk_room h.ok
  have hm := okB_many _ _ _ hkb (by omega)
  rw [spans_len] at hm
  have hq := h.hq
  have hle := h.le
  refine ⟨⟨by omega, by omega⟩, by omega, by unfold IsInt; omega, by omega, fun i hi => ⟨h.wd _ (pAt_mem ps i hi), ?_⟩⟩
  have := h.span_ (pAt_mem ps i hi)
  omega

theorem Str.lays (h : Str S first room q d ps rd) (i : Nat) (hc : cov (spans q ps) i = true) (f : Nat → Int) : lay q ps f i = byteAt S (rd + d.size + i) ∧ rd + d.size + i < S.size := by
  obtain ⟨_, _, hkb⟩ := inOk_room h.ok
  obtain ⟨s, hs, h1, h2⟩ := (cov_iff _ _).1 hc
  obtain ⟨p, hp, rfl⟩ := List.mem_map.1 hs
  have hsp := h.span_ hp
  simp only [spn] at h1 h2
  obtain ⟨k, hk⟩ : ∃ k : Nat, i = (distI q p.1).toNat + k := ⟨i - (distI q p.1).toNat, by omega⟩
  have hl := lay_part q ps f 0 _ hkb (by omega) p hp k (by omega)
  have hb := h.hp p hp k (by omega)
  subst hk
  rw [hl, hb.2]
  exact ⟨by rw [Nat.add_assoc _ _ k], by omega⟩

theorem Str.room_ (h : Str S first room q d ps rd) : inRoomN q d room ps + d.size = room := by
  unfold inRoomN
  rw [if_pos h.ok]
  omega

theorem Str.held (h : Str S first room q d ps rd) : inHeld q d room ps ≤ room := by
  obtain ⟨hr, hr3, hkb⟩ := inOk_room h.ok
  unfold inHeld
  rw [if_pos h.ok]
  obtain ⟨W, hW⟩ : ∃ W : Nat, room - d.size = (W : Int) := ⟨(room - d.size).toNat, by omega⟩
  rw [hW] at hkb
  rw [sumS_cnt _ 0 W hkb (by omega)]
  have := cnt_le (cov (spans q ps)) W
  omega

theorem Str.next (h : Str S first room q d ps rd) (hS : S.size ≤ 1000) (hf : IsWord first) : (q - first) % 4294967296 = ((rd + d.size : Nat) : Int) := by
  have hq := h.hq
  have hle := h.le
  obtain ⟨f0, f1⟩ := hf
  omega

theorem Str.begins (h : Str S first room q d ps rd) : S.extract 0 rd ++ d = S.extract 0 (rd + d.size) := by
  have hle := h.le
  apply text_ext
  · rw [ByteArray.size_append, ByteArray.size_extract, ByteArray.size_extract]
    omega
  · intro i hi
    rw [ByteArray.size_append, ByteArray.size_extract] at hi
    have hsz : (S.extract 0 rd).size = rd := by rw [ByteArray.size_extract]; omega
    by_cases hl : i < rd
    · rw [bt_left _ _ _ (by omega), bt_cut _ _ _ _ (by omega) (by omega), bt_cut _ _ _ _ (by omega) (by omega)]
    · obtain ⟨j, rfl⟩ : ∃ j, i = rd + j := ⟨i - rd, by omega⟩
      have := bt_right (S.extract 0 rd) d j (by omega)
      rw [hsz] at this
      rw [this, h.hd j (by omega), bt_cut _ _ _ _ (by omega) (by omega), Nat.zero_add]
end

theorem str_start (S : ByteArray) (first room : Int) (hf : IsWord first) (hr : 1 ≤ room ∧ room ≤ 4096) : Str S first room first ⟨#[]⟩ [] 0 := by
  have e : (⟨#[]⟩ : ByteArray).size = 0 := rfl
  obtain ⟨f0, f1⟩ := hf
  refine ⟨?_, ?_, ?_, ?_, ?_, ?_⟩
  · unfold inOk
    simp [e, okB, spans]
    omega
  · rw [e]
    omega
  · rw [e]
    omega
  · intro i hi
    rw [e] at hi
    omega
  · intro p hp
    cases hp
  · intro p hp
    cases hp
/-- A piece of the stream is put in. -/
theorem Str.put {S : ByteArray} {first room : Int} {q : Int} {d : ByteArray} {ps : List (Int × ByteArray)} {rd : Nat} (h : Str S first room q d ps rd) (hS : S.size ≤ 1000) (hf : IsWord first) (fr e : Nat) (h1 : fr ≤ e) (h2 : e ≤ S.size) (h3 : e ≤ fr + 500) (at' : Int) (ha : at' = (fr : Int) - ((rd + d.size : Nat) : Int)) :
    Str S first room (pQ q d room ps at' (S.extract fr e)) (pD q d room ps at' (S.extract fr e)) (pL q d room ps at' (S.extract fr e)) rd := by
  obtain ⟨hr, hr3, hkb⟩ := inOk_room h.ok
  have hle := h.le
  have hqq := h.hq
  have hsz : (S.extract fr e).size = e - fr := by rw [ByteArray.size_extract]; omega
  have hcut : ∀ k, k < e - fr → byteAt (S.extract fr e) k = byteAt S (fr + k) := fun k hk => bt_cut _ _ _ _ h2 (by omega)
  generalize S.extract fr e = s at hsz hcut
  obtain ⟨W, hW⟩ : ∃ W : Nat, room - d.size = (W : Int) := ⟨(room - d.size).toNat, by omega⟩
  have hpk : putOk q d room ps at' s := ⟨h.ok, by omega, by omega, by omega⟩
  rw [hW] at hkb
  have hJ := pJ_ok q ps at' s W hkb
  have hF : ∀ i, cov (pJ q ps at' s W) i = true → pF q ps at' s i = byteAt S (rd + d.size + i) ∧ rd + d.size + i < S.size := by
    intro i hc
    rw [pJ_cov q ps at' s W hkb i, Bool.or_eq_true] at hc
    by_cases hcs : cov (spans q ps) i = true
    · exact h.lays i hcs _
    · have hcm := (came_in at' s W i).1 (hc.resolve_left hcs)
      have hlo := lay_out q i ps (base at' s) 0 W hkb (by omega) (by simpa using hcs)
      have hb : base at' s i = byteAt s ((i : Int) - at').toNat := by unfold base; rw [if_pos hcm.1]
      have hk := hcut ((i : Int) - at').toNat (by omega)
      refine ⟨?_, by omega⟩
      unfold pF
      rw [hlo, hb, hk]
      congr 1
      omega
  have hR := rst_ok _ W hJ
  have hC := rst_cov _ W hJ
  have eQ : pQ q d room ps at' s = (q + (nst (pJ q ps at' s W) : Int)) % 4294967296 := by unfold pQ; rw [if_pos hpk, hW]; exact gQ_nst q ⟨by omega, by omega⟩ _ W hJ
  have eD : pD q d room ps at' s = d ++ textOf (pF q ps at' s) (nst (pJ q ps at' s W)) := by unfold pD; rw [if_pos hpk, hW]; exact gD_nst d _ _
  have eL : pL q d room ps at' s = (rst (pJ q ps at' s W)).map (prtOf q (pF q ps at' s)) := by unfold pL; rw [if_pos hpk, hW]; exact gL_rst q _ _ W hJ
  rw [eQ, eD, eL]
  clear eQ eD eL hpk hkb hcut hsz ha
  generalize pJ q ps at' s W = J at hJ hF hR hC
  generalize pF q ps at' s = F at hF
  generalize hn : nst J = n at hR hC
  have hM := okB_mem _ _ _ hR.1
  have eds : (d ++ textOf F n).size = d.size + n := by rw [ByteArray.size_append, textOf_size]
  have hdist : ∀ s ∈ rst J, distI ((q + (n : Int)) % 4294967296) ((q + s.1) % 4294967296) = s.1 - n := by
    intro s hs
    have := hM s hs
    unfold distI
    omega
  have hcs : ∀ s ∈ rst J, ∀ k : Nat, k < (s.2 - s.1).toNat → F (s.1.toNat + k) = byteAt S (rd + d.size + (s.1.toNat + k)) ∧ rd + d.size + (s.1.toNat + k) < S.size := by
    intro s hs k hk
    have := hM s hs
    refine hF _ ?_
    rw [hC]
    have := mem_cov (rst J) s (s.1.toNat + k) hs ((inS_iff _ _).2 (by omega))
    rw [this]
    simp
  have hlow : ∀ i, i < n → F i = byteAt S (rd + d.size + i) ∧ rd + d.size + i < S.size := by
    intro i hi
    refine hF i ?_
    rw [hC]
    simp [hi]
  refine ⟨?_, ?_, ?_, ?_, ?_, ?_⟩
  · unfold inOk
    rw [eds]
    have e1 : spans ((q + (n : Int)) % 4294967296) ((rst J).map (prtOf q F)) = (rst J).map fun s => (s.1 - (n : Int), s.2 - (n : Int)) := by
      unfold spans
      rw [List.map_map]
      apply List.map_congr_left
      intro s hs
      have := hM s hs
      simp only [Function.comp, spn, prtOf, textOf_size]
      rw [hdist s hs]
      congr 1
      omega
    rw [e1]
    have hsh := okB_shift n _ _ _ hR.1
    rw [show ((n : Int) - n) = 0 by omega, show ((W : Int) - n) = room - ((d.size + n : Nat) : Int) by omega] at hsh
    simp only [Bool.and_eq_true, decide_eq_true_eq]
    exact ⟨hr, by omega, hsh⟩
  · rw [eds]
    omega
  · rw [eds]
    by_cases h0 : n = 0
    · omega
    · have := (hlow (n - 1) (by omega)).2
      omega
  · intro i hi
    rw [eds] at hi
    by_cases hl : i < d.size
    · rw [bt_left _ _ _ hl, h.hd i hl]
    · obtain ⟨j, rfl⟩ : ∃ j, i = d.size + j := ⟨i - d.size, by omega⟩
      have hj := hlow j (by omega)
      rw [bt_right _ _ _ (by rw [textOf_size]; omega), byteAt_textOf _ _ _ (by omega) (by rw [hj.1]; exact byteAt_range _ _), hj.1, Nat.add_assoc]
  · intro p hp
    obtain ⟨s, hs, rfl⟩ := List.mem_map.1 hp
    simp only [prtOf]
    exact ⟨by omega, by omega⟩
  · intro p hp k hk
    obtain ⟨s, hs, rfl⟩ := List.mem_map.1 hp
    have := hM s hs
    simp only [prtOf, textOf_size] at hk ⊢
    rw [hdist s hs, eds]
    have hc := hcs s hs k hk
    rw [byteAt_textOf _ _ _ hk (by rw [hc.1]; exact byteAt_range _ _), hc.1]
    refine ⟨by omega, ?_⟩
    congr 1
    omega

/-- Some of what is ready is read. -/
theorem Str.read {S : ByteArray} {first room : Int} {q : Int} {d : ByteArray} {ps : List (Int × ByteArray)} {rd : Nat} (h : Str S first room q d ps rd) (nn : Int) (h0 : 0 ≤ nn) (h1 : nn ≤ 4096) :
    ∃ m : Nat, Str S first room q (readD q d room ps nn) ps (rd + m) ∧ S.extract 0 rd ++ readT q d room ps nn = S.extract 0 (rd + m) := by
  obtain ⟨hr, hr3, hkb⟩ := inOk_room h.ok
  have hle := h.le
  have hk : inOk q d room ps = true ∧ 0 ≤ nn ∧ nn ≤ 4096 := ⟨h.ok, h0, h1⟩
  have eN : readN q d room ps nn = min nn.toNat d.size := by unfold readN; rw [if_pos hk]
  have eD : readD q d room ps nn = d.extract (readN q d room ps nn) d.size := by unfold readD; rw [if_pos hk]
  have eT : readT q d room ps nn = d.extract 0 (readN q d room ps nn) := by unfold readT; rw [if_pos hk]
  rw [eD, eT, eN]
  have hm : min nn.toNat d.size ≤ d.size := Nat.min_le_right _ _
  generalize min nn.toNat d.size = m at hm
  clear eN eD eT hk
  have es : (d.extract m d.size).size = d.size - m := by rw [ByteArray.size_extract]; omega
  have et : (d.extract 0 m).size = m := by rw [ByteArray.size_extract]; omega
  have e3 : (S.extract 0 rd).size = rd := by rw [ByteArray.size_extract]; omega
  refine ⟨m, ⟨?_, ?_, ?_, ?_, h.wd, ?_⟩, ?_⟩
  · unfold inOk
    rw [es]
    simp only [Bool.and_eq_true, decide_eq_true_eq]
    exact ⟨hr, by omega, okB_wider _ _ _ _ hkb (by omega)⟩
  · rw [es, show rd + m + (d.size - m) = rd + d.size by omega]
    exact h.hq
  · rw [es]
    omega
  · intro i hi
    rw [es] at hi
    rw [bt_cut _ _ _ _ (Nat.le_refl _) (by omega), h.hd _ (by omega), Nat.add_assoc]
  · intro p hp k hk
    rw [es, show rd + m + (d.size - m) = rd + d.size by omega]
    exact h.hp p hp k hk
  · apply text_ext
    · rw [ByteArray.size_append, et, e3, ByteArray.size_extract]
      omega
    · intro i hi
      rw [ByteArray.size_append, et, e3] at hi
      by_cases hl : i < rd
      · rw [bt_left _ _ _ (by omega), bt_cut _ _ _ _ (by omega) (by omega), bt_cut _ _ _ _ (by omega) (by omega)]
      · obtain ⟨j, rfl⟩ : ∃ j, i = rd + j := ⟨i - rd, by omega⟩
        have := bt_right (S.extract 0 rd) (d.extract 0 m) j (by omega)
        rw [e3] at this
        rw [this, bt_cut _ _ _ _ (by omega) (by omega), h.hd _ (by omega), bt_cut _ _ _ _ (by omega) (by omega), Nat.zero_add, Nat.zero_add]
end Go.Proofs.Ytmgaikpninblgaa

namespace Go.Proofs.Ytmgaikpninblgaa
open Go.ChangeShapes Go.WideShapes Go.ChangeAt Go.RowKit
set_option linter.unusedVariables false

section
variable {P : Program} {ops : Array Oper} {Q : Exit → Act → World → Prop} {a0 : Act} {wb : World} {V : Nat → World → Value → Prop}

theorem Kept.put_any {listed : Array Bool} {vals : Nat → Value} {a : Act} {w w' : World} (h : Kept ops a0 wb V listed vals a w) (hsi : Since wb w') (hstab : ∀ j v, V j w v → V j w' v)
    (hs : settled ops a0.tmps.size = true) {i : Nat} {o : Oper} (ho : ops[i]? = some o) {u : Value} (hu : V i w' u) :
    Kept ops a0 wb V (listed.setIfInBounds i true) (fun j => if j = i then u else vals j) (a.put o.dst u) w' := by
  obtain ⟨_, _, hd, _⟩ := settled_at hs ho
  refine ⟨hsi, ?_, ?_, ?_, ?_, ?_⟩
  · cases hdst : o.dst <;> simp [Act.put, h.defers]
  · cases hdst : o.dst <;> simp [Act.put, h.size]
  · intro t ht
    cases hdst : o.dst with
    | none => exact h.base t ht
    | some d =>
      have hne : d ≠ t := fun e => by
        subst e
        rw [(hd d hdst).1] at ht
        cases ht
      simp only [Act.put, Array.getElem?_setIfInBounds_ne hne]
      exact h.base t ht
  · intro t j hj hl hlt
    by_cases hji : j = i
    · subst hji
      simp only [if_true]
      have hdst : o.dst = some t := by
        have := List.find?_some hj
        simpa [ho] using this
      have hta : t < a.tmps.size := by rw [h.size]; exact hlt
      simp only [Act.put, hdst]
      simp [hta]
    · have hl' : listed.getD j false = true := (getD_set_or hl).resolve_left hji
      simp only [hji, if_false]
      cases hdst : o.dst with
      | none => exact h.made t j hj hl' hlt
      | some d =>
        have hne : d ≠ t := fun e => by
          subst e
          rw [(hd d hdst).1] at hj
          exact hji (by simpa using hj.symm)
        simp only [Act.put, Array.getElem?_setIfInBounds_ne hne]
        exact h.made t j hj hl' hlt
  · intro j hl
    by_cases hji : j = i
    · subst hji
      simpa using hu
    · simp only [hji, if_false]
      exact hstab j _ (h.has j ((getD_set_or hl).resolve_left hji))

theorem wpAny_store {s : Nat} {S : (Nat → Value) → World → Prop} (hs0 : s < ops.size) (hs : settled ops a0.tmps.size = true) (hst : ∀ j w w' v, Since w w' → V j w v → V j w' v)
    (hS1 : ∀ vals w w', Since w w' → S vals w → S vals w') (hS2 : ∀ vals vals' w, (∀ o, ops[s]? = some o → ∀ e ∈ o.after, Region.binds .any e = true → vals e.on = vals' e.on) → S vals w → S vals' w) (hVs : ∀ w v, V s w v)
    (hopS : ∀ o, ops[s]? = some o → ∀ vals w, Since wb w → (∀ e ∈ o.after, Region.binds .any e = true → V e.on w (vals e.on)) → does P o (filled ops a0 vals) w fun v w' => Since wb w' ∧ (∀ j u, V j w u → V j w' u) ∧ S vals w')
    (hop : ∀ i o, ops[i]? = some o → i ≠ s → ∀ vals w, Since wb w → (∀ e ∈ o.after, Region.binds .any e = true → V e.on w (vals e.on)) → does P o (filled ops a0 vals) w fun v w' => Since w w' ∧ V i w' v)
    (hfin : ∀ vals w, Since wb w → (∀ i, i < ops.size → V i w (vals i)) → S vals w → Q .normal (filled ops a0 vals) w) :
    ∀ (fuel : Nat) (U : List Nat) (listed : Array Bool) (vals : Nat → Value) (a : Act) (w : World), listed.size = ops.size → (∀ j, j < ops.size → listed.getD j true = false → j ∈ U) → U.length ≤ fuel →
      Kept ops a0 wb V listed vals a w → Shut ops listed → (listed.getD s false = true → S vals w) → wpAny P .any ops Q fuel listed a w := by
  have fin : ∀ (listed : Array Bool) (vals : Nat → Value) (a : Act) (w : World), listed.size = ops.size → Region.ready .any ops listed = [] → Kept ops a0 wb V listed vals a w → (listed.getD s false = true → S vals w) → Q .normal a w := by
    intro listed vals a w hsz hr hk hkS
    have hall : ∀ n j, j ≤ n → j < ops.size → listed.getD j false = true := by
      intro n
      induction n with
      | zero =>
        intro j hj hlt
        obtain rfl : j = 0 := by omega
        refine Classical.byContradiction fun hno => ?_
        have : 0 ∈ Region.ready .any ops listed := mem_ready.2 ⟨by simp [hsz, hlt] at hno ⊢; exact hno, ops[0], by simp [hlt], fun e he hb => by
          have := (settled_at hs (j := 0) (o := ops[0]) (by simp [hlt])).2.1 e he hb
          omega⟩
        rw [hr] at this
        cases this
      | succ n ih =>
        intro j hj hlt
        by_cases hjn : j ≤ n
        · exact ih j hjn hlt
        · refine Classical.byContradiction fun hno => ?_
          have : j ∈ Region.ready .any ops listed := mem_ready.2 ⟨by simp [hsz, hlt] at hno ⊢; exact hno, ops[j], by simp [hlt], fun e he hb => by
            have := (settled_at hs (j := j) (o := ops[j]) (by simp [hlt])).2.1 e he hb
            exact ih e.on (by omega) (by omega)⟩
          rw [hr] at this
          cases this
    have hV : ∀ i, i < ops.size → V i w (vals i) := fun i hi => hk.has i (hall i i (Nat.le_refl _) hi)
    have ha : a = filled ops a0 vals := by
      have ht : a.tmps = (filled ops a0 vals).tmps := by
        apply Array.ext_getElem?
        intro t
        by_cases hlt : t < a0.tmps.size
        · rw [filled_at _ _ _ hlt]
          cases hm : maker ops t with
          | none => rw [hk.base t hm]; simp [hlt]
          | some k =>
            have hk2 : k < ops.size := by
              have := List.mem_of_find?_eq_some hm
              simpa using this
            exact hk.made t k hm (hall k k (Nat.le_refl _) hk2) hlt
        · rw [Array.getElem?_eq_none (by rw [hk.size]; omega), Array.getElem?_eq_none (by simp [filled]; omega)]
      cases a
      simp only [filled] at ht ⊢
      have := hk.defers
      simp_all
    rw [ha]
    exact hfin vals w hk.since hV (hkS (hall s s (Nat.le_refl _) hs0))
  intro fuel
  induction fuel with
  | zero =>
    intro U listed vals a w hsz hU hl hk hsh hkS
    have hr : Region.ready .any ops listed = [] := by
      refine List.eq_nil_iff_forall_not_mem.2 fun j hj => ?_
      obtain ⟨h0, o, ho, _⟩ := mem_ready.1 hj
      have := hU j (Array.getElem?_eq_some_iff.1 ho).1 h0
      have hnil : U = [] := List.length_eq_zero_iff.1 (by omega)
      rw [hnil] at this
      cases this
    exact ⟨hr, fin listed vals a w hsz hr hk hkS⟩
  | succ fuel ih =>
    intro U listed vals a w hsz hU hl hk hsh hkS
    refine ⟨fun hr => fin listed vals a w hsz hr hk hkS, fun i hi => ?_⟩
    obtain ⟨h0, o, ho, hr⟩ := mem_ready.1 hi
    have hlt : i < ops.size := (Array.getElem?_eq_some_iff.1 ho).1
    have hU' : ∀ j, j < ops.size → (listed.setIfInBounds i true).getD j true = false → j ∈ U.erase i := fun j hj hun => by
      have hji : j ≠ i := fun e => by
        subst e
        simp [hsz, hj] at hun
      rw [getD_set_ne true (Ne.symm hji)] at hun
      exact (List.mem_erase_of_ne hji).2 (hU j hj hun)
    have hl' : (U.erase i).length ≤ fuel := by
      rw [List.length_erase_of_mem (hU i hlt h0)]
      omega
    have hi0 : listed.getD i false = false := by
      simp [hsz, hlt] at h0 ⊢
      exact h0
    unfold wpOp
    simp only [ho]
    have hg := (settled_at hs ho).1
    have hwant : Region.wanted o (yielded ops a.tmps) = true := by simp [Region.wanted, hg]
    rw [if_pos hwant]
    refine .inl ?_
    by_cases his : i = s
    · subst his
      have hd := hopS o ho vals w hk.since (fun e he hb => hk.has _ (hr e he hb))
      have hnext : ∀ u w', Since wb w' → (∀ j u, V j w u → V j w' u) → S vals w' → wpAny P .any ops Q fuel (listed.setIfInBounds i true) (a.put o.dst u) w' := fun u w' h1 h2 h3 =>
        ih (U.erase i) _ _ _ _ (by simp [hsz]) hU' hl' (hk.put_any h1 h2 hs ho (hVs w' u)) (hsh.put ho hr) (fun _ => hS2 vals _ w' (fun o' ho' e he hb => by
          obtain rfl : o = o' := by simpa [ho] using ho'
          have := (settled_at hs ho).2.1 e he hb
          simp [show e.on ≠ i by omega]) h3)
      unfold does at hd
      rw [← hk.exec hs ho hr] at hd
      unfold Oper.wp
      generalize (execOp a.eval o).run P w = r at hd
      cases r with
      | ok n w' =>
        cases n <;> simp only [doesUpon] at hd <;> simp only [Oper.upon]
        case value u => exact hnext u w' hd.1 hd.2.1 hd.2.2
        case skip => exact hnext undef w' hd.1 hd.2.1 hd.2.2
        case enter f args => exact hd.mono fun e w'' ⟨v, he, h1, h2, h3⟩ => by subst he; exact hnext v w'' h1 h2 h3
      | halt x w' => simp only [doesUpon] at hd
    · have hd := hop i o ho his vals w hk.since (fun e he hb => hk.has _ (hr e he hb))
      have hnext : ∀ u w', Since w w' → V i w' u → wpAny P .any ops Q fuel (listed.setIfInBounds i true) (a.put o.dst u) w' := fun u w' h1 h2 =>
        ih (U.erase i) _ _ _ _ (by simp [hsz]) hU' hl' (hk.put hst hs ho h1 h2) (hsh.put ho hr) (fun hls => by
          have hls' : listed.getD s false = true := (getD_set_or hls).resolve_left (Ne.symm his)
          refine hS2 vals _ w' (fun o' ho' e he hb => ?_) (hS1 vals w w' h1 (hkS hls'))
          have hpl := hsh s o' hls' ho' e he hb
          have : e.on ≠ i := fun h => by
            rw [h, hi0] at hpl
            cases hpl
          simp [this])
      unfold does at hd
      rw [← hk.exec hs ho hr] at hd
      unfold Oper.wp
      generalize (execOp a.eval o).run P w = r at hd
      cases r with
      | ok n w' =>
        cases n <;> simp only [doesUpon] at hd <;> simp only [Oper.upon]
        case value u => exact hnext u w' hd.1 hd.2
        case skip => exact hnext undef w' hd.1 hd.2
        case enter f args => exact hd.mono fun e w'' ⟨v, he, h1, h2⟩ => by subst he; exact hnext v w'' h1 h2
      | halt x w' => simp only [doesUpon] at hd
end

/-- Each operation of the region but the writer, one behind the other. -/
def eachBut (P : Program) (V : Nat → World → Value → Prop) (F : (Nat → Value) → Act) (wb : World) (s : Nat) : Nat → List Oper → Prop
  | _, [] => True
  | k, o :: rest => (k = s ∨ ∀ vals x, Since wb x → (∀ e ∈ o.after, Region.binds .any e = true → V e.on x (vals e.on)) → does P o (F vals) x fun v w' => Since x w' ∧ V k w' v) ∧ eachBut P V F wb s (k + 1) rest

theorem eachBut_nil {P : Program} {V : Nat → World → Value → Prop} {F : (Nat → Value) → Act} {wb : World} {s k : Nat} : eachBut P V F wb s k [] := trivial

theorem eachBut_skip {P : Program} {V : Nat → World → Value → Prop} {F : (Nat → Value) → Act} {wb : World} {s : Nat} {o : Oper} {rest : List Oper} (h : eachBut P V F wb s (s + 1) rest) : eachBut P V F wb s s (o :: rest) := ⟨.inl rfl, h⟩

theorem eachBut_cons {P : Program} {V : Nat → World → Value → Prop} {F : (Nat → Value) → Act} {wb : World} {s k : Nat} {o : Oper} {rest : List Oper} (h : eachBut P V F wb s (k + 1) rest)
    (h1 : ∀ vals x, Since wb x → (∀ e ∈ o.after, Region.binds .any e = true → V e.on x (vals e.on)) → does P o (F vals) x fun v w' => Since x w' ∧ V k w' v) : eachBut P V F wb s k (o :: rest) := ⟨.inr h1, h⟩

theorem eachBut_at {P : Program} {V : Nat → World → Value → Prop} {F : (Nat → Value) → Act} {wb : World} {s : Nat} : ∀ (l : List Oper) (k : Nat), eachBut P V F wb s k l → ∀ i o, l[i]? = some o → k + i ≠ s → ∀ vals x, Since wb x →
    (∀ e ∈ o.after, Region.binds .any e = true → V e.on x (vals e.on)) → does P o (F vals) x fun v w' => Since x w' ∧ V (k + i) w' v
  | [], _, _, i, o, h => by cases h
  | o :: rest, k, h, 0, o', hi => by
    obtain rfl : o = o' := by simpa using hi
    intro hne
    exact h.1.resolve_left hne
  | o :: rest, k, h, i + 1, o', hi => by
    have := eachBut_at rest (k + 1) h.2 i o' (by simpa using hi)
    rw [show k + (i + 1) = k + 1 + i by omega]
    exact this

/-- EVERY ORDER, BY ONE LOOK AT EACH OPERATION, ONE WRITER AMONG THEM. -/
theorem wp_region_store {P : Program} {id : Nat} {Q : Exit → Act → World → Prop} {a : Act} {w wb : World} {l : List Oper} (s : Nat) (V : Nat → World → Value → Prop) (S : (Nat → Value) → World → Prop) (F : (Nat → Value) → Act) (hm : P.follows .mixedOrders = true) (hs0 : s < l.length) (hs : settled l.toArray a.tmps.size = true) (h0 : Since wb w)
    (hF : ∀ vals, F vals = filled l.toArray a vals) (hst : ∀ j w w' v, Since w w' → V j w v → V j w' v) (hVs : ∀ w v, V s w v)
    (hS1 : ∀ vals w w', Since w w' → S vals w → S vals w') (hS2 : ∀ vals vals' w, (∀ o, l[s]? = some o → ∀ e ∈ o.after, Region.binds .any e = true → vals e.on = vals' e.on) → S vals w → S vals' w)
    (hop : eachBut P V F wb s 0 l)
    (hopS : ∀ o, l[s]? = some o → ∀ vals w, Since wb w → (∀ e ∈ o.after, Region.binds .any e = true → V e.on w (vals e.on)) → does P o (F vals) w fun v w' => Since wb w' ∧ (∀ j u, V j w u → V j w' u) ∧ S vals w')
    (hfin : ∀ vals w, Since wb w → (∀ i, i < l.length → V i w (vals i)) → S vals w → Q .normal (F vals) w) : (Code.region id l.toArray true).wp P Q a w := by
  refine wp_region_any hm (wpAny_store (V := V) (S := S) (s := s) (a0 := a) (wb := wb) (by simpa using hs0) hs hst hS1 ?_ hVs ?_ ?_ ?_ _ (List.range l.length) _ (fun _ => undef) _ _ (by simp) (fun j hj _ => by simpa using hj) (by simp) ⟨h0.drew, rfl, rfl, fun _ _ => rfl, ?_, ?_⟩ ?_ ?_)
  · intro vals vals' w h hS
    exact hS2 vals vals' w (fun o ho => h o (by simpa using ho)) hS
  · intro o ho vals w hw hv
    have := hopS o (by simpa using ho) vals w hw hv
    rw [hF] at this
    exact this
  · intro i o ho hi vals w hw hv
    have := eachBut_at l 0 hop i o (by simpa using ho) (by simpa using hi) vals w hw hv
    rw [Nat.zero_add, hF] at this
    exact this
  · intro vals w hw hv hS
    have := hfin vals w hw (fun i hi => hv i (by simpa using hi)) hS
    rw [hF] at this
    exact this
  · intro t j _ hl
    rw [none_listed] at hl
    cases hl
  · intro j hl
    rw [none_listed] at hl
    cases hl
  · intro j o hl
    rw [none_listed] at hl
    cases hl
  · intro hl
    rw [none_listed] at hl
    cases hl
end Go.Proofs.Ytmgaikpninblgaa

namespace Go.Proofs.Ytmgaikpninblgaa
open Go.ChangeShapes Go.WideShapes Go.ChangeAt Go.RowKit Go.Deep
set_option linter.unusedVariables false

theorem Own.tagP {α : Type} {S : Shape α} {w : World} {B n g : Nat} {v : Value} {xs : List α} (h : Own S w B v n xs) (hg : v.ownBlock = some g) : ∃ cur, w.heap[g]? = some (.cells cur S.ty (0, 0)) := by
  rcases h.2.2 with ⟨h1, _⟩ | ⟨g', cap', cur, h1, h2, h3, _⟩
  · rw [h1] at hg; cases hg
  · rw [h1] at hg
    have : g' = g := by simpa [Value.ownBlock] using hg
    exact ⟨cur, this ▸ h3⟩

/-- A buffer's variable. -/
def AtBoxB (x : World) (b : Nat) (u0 u1 u2 u3 : Value) : Prop := x.heap[b]? = some (.cells #[u0, u1, u2, u3] 31 (0, 0))

theorem AtBoxB.since {x x' : World} {b : Nat} {u0 u1 u2 u3 : Value} (h : AtBoxB x b u0 u1 u2 u3) (k : Since x x') : AtBoxB x' b u0 u1 u2 u3 := (Below.block k b (Array.getElem?_eq_some_iff.1 h).1).trans h

theorem AtBoxB.blk {x : World} {b : Nat} {u0 u1 u2 u3 : Value} (h : AtBoxB x b u0 u1 u2 u3) : Blk b x #[u0, u1, u2, u3] :=
  ⟨(Array.getElem?_eq_some_iff.1 h).1, fun i => frozen_of_row x b i _ _ h, fun i => cell_of_row x b i _ _ _ h⟩

/-- Four cells stored. -/
def put4w (x : World) (b : Nat) (v0 v1 v2 v3 : Value) : World := (((x.setCell ⟨b, 0, none⟩ v0).setCell ⟨b, 1, none⟩ v1).setCell ⟨b, 2, none⟩ v2).setCell ⟨b, 3, none⟩ v3

theorem AtBoxB.put {x : World} {b : Nat} {u0 u1 u2 u3 : Value} (h : AtBoxB x b u0 u1 u2 u3) (v0 v1 v2 v3 : Value) : AtBoxB (put4w x b v0 v1 v2 v3) b v0 v1 v2 v3 := by
  have h1 := heap_setCell_same x b 0 #[u0, u1, u2, u3] _ v0 h
  have h2 := heap_setCell_same _ b 1 _ _ v1 h1
  have h3 := heap_setCell_same _ b 2 _ _ v2 h2
  have h4 := heap_setCell_same _ b 3 _ _ v3 h3
  exact h4

theorem put4w_touch (x : World) (b : Nat) (v0 v1 v2 v3 : Value) : Touch b x (put4w x b v0 v1 v2 v3) := ((((Touch.refl b x).put 0 v0).put 1 v1).put 2 v2).put 3 v3

theorem put4w_blk {x : World} {b : Nat} {c0 c1 c2 c3 : Value} (B : Blk b x #[c0, c1, c2, c3]) (v0 v1 v2 v3 : Value) : Blk b (put4w x b v0 v1 v2 v3) #[v0, v1, v2, v3] := by
  have k := (((B.put 0 v0 (by simp)).put 1 v1 (by simp)).put 2 v2 (by simp)).put 3 v3 (by simp)
  simpa [put4w] using k

theorem Own.atBoxB {α : Type} {S : Shape α} {x : World} {B b n : Nat} {v u0 u1 u2 u3 : Value} {xs : List α} (T : Own S x B v n xs) (h : AtBoxB x b u0 u1 u2 u3) (hty : S.ty ≠ 31) : v.ownBlock ≠ some b := by
  intro e
  obtain ⟨cur, h1⟩ := T.tagP e
  rw [show x.heap[b]? = _ from h] at h1
  injection h1 with h1
  injection h1 with _ h1
  exact hty h1.symm

/-- A new variable for a buffer, whatever it holds. -/
def IsBoxB (B : Nat) (x : World) (v : Value) : Prop := ∃ b u0 u1 u2 u3, v = .pointer (some ⟨b, 0, none⟩) ∧ B ≤ b ∧ AtBoxB x b u0 u1 u2 u3

theorem IsBoxB.since {B : Nat} {x x' : World} {v : Value} (h : IsBoxB B x v) (k : Since x x') : IsBoxB B x' v := by
  obtain ⟨b, u0, u1, u2, u3, e, hB, hb⟩ := h
  exact ⟨b, u0, u1, u2, u3, e, hB, hb.since k⟩

theorem IsBoxB.new {B : Nat} {x : World} (h : B ≤ x.heap.size) : IsBoxB B (x.alloc (.cells #[.int .u32 0, .string ⟨#[]⟩, .slice none 0 0, .int .i64 0] 31)) (.pointer (some ⟨x.heap.size, 0, none⟩)) := ⟨_, _, _, _, _, rfl, h, heap_alloc_new x _⟩

theorem IsBoxB.put {B b : Nat} {x : World} {v u0 u1 u2 u3 : Value} (h : IsBoxB B x v) (hb : AtBoxB x b u0 u1 u2 u3) (v0 v1 v2 v3 : Value) : IsBoxB B (put4w x b v0 v1 v2 v3) v := by
  obtain ⟨b', t0, t1, t2, t3, e, hB, hb'⟩ := h
  by_cases hbb : b' = b
  · subst hbb
    exact ⟨b', _, _, _, _, e, hB, hb.put v0 v1 v2 v3⟩
  · have k := (put4w_touch x b v0 v1 v2 v3).block b' (Array.getElem?_eq_some_iff.1 hb').1 hbb
    exact ⟨b', t0, t1, t2, t3, e, hB, k.trans hb'⟩

/-- A buffer of our own. -/
def IsBuf (B : Nat) (q : Int) (d : ByteArray) (r : Int) (ps : List (Int × ByteArray)) (x : World) (v : Value) : Prop := ∃ a m c, v = .agg #[.int .u32 q, .string d, .slice a m c, .int .i64 r] ∧ Own shP x B (.slice a m c) m ps

theorem IsBuf.since {B : Nat} {q : Int} {d : ByteArray} {r : Int} {ps : List (Int × ByteArray)} {x x' : World} {v : Value} (h : IsBuf B q d r ps x v) (k : Since x x') : IsBuf B q d r ps x' v := by
  obtain ⟨a, m, c, h1, T⟩ := h
  exact ⟨a, m, c, h1, T.since k⟩

theorem IsBuf.put {B b : Nat} {q : Int} {d : ByteArray} {r : Int} {ps : List (Int × ByteArray)} {x : World} {v u0 u1 u2 u3 : Value} (h : IsBuf B q d r ps x v) (hb : AtBoxB x b u0 u1 u2 u3) (v0 v1 v2 v3 : Value) : IsBuf B q d r ps (put4w x b v0 v1 v2 v3) v := by
  obtain ⟨a, m, c, h1, T⟩ := h
  exact ⟨a, m, c, h1, T.touch (put4w_touch x b v0 v1 v2 v3) (T.atBoxB hb (by decide))⟩

/-- A buffer, and a value beside it. -/
def IsAnsB (B : Nat) (q : Int) (d : ByteArray) (r : Int) (ps : List (Int × ByteArray)) (u : Value) (x : World) (v : Value) : Prop := ∃ c, v = .tuple #[c, u] ∧ IsBuf B q d r ps x c

theorem IsAnsB.since {B : Nat} {q : Int} {d : ByteArray} {r : Int} {ps : List (Int × ByteArray)} {u : Value} {x x' : World} {v : Value} (h : IsAnsB B q d r ps u x v) (k : Since x x') : IsAnsB B q d r ps u x' v := by
  obtain ⟨c, h1, h2⟩ := h
  exact ⟨c, h1, h2.since k⟩

theorem IsAnsB.put {B b : Nat} {q : Int} {d : ByteArray} {r : Int} {ps : List (Int × ByteArray)} {u : Value} {x : World} {v u0 u1 u2 u3 : Value} (h : IsAnsB B q d r ps u x v) (hb : AtBoxB x b u0 u1 u2 u3) (v0 v1 v2 v3 : Value) : IsAnsB B q d r ps u (put4w x b v0 v1 v2 v3) v := by
  obtain ⟨c, h1, h2⟩ := h
  exact ⟨c, h1, h2.put hb v0 v1 v2 v3⟩

/-- The buffer that one operation left has been stored into the variable that another one made. -/
def StoredB (B p q : Nat) (vals : Nat → Value) (x : World) : Prop := ∃ b u0 u1 u2 u3, vals p = .pointer (some ⟨b, 0, none⟩) ∧ vals q = .agg #[u0, u1, u2, u3] ∧ B ≤ b ∧ AtBoxB x b u0 u1 u2 u3

theorem StoredB.since {B p q : Nat} {vals : Nat → Value} {x x' : World} (h : StoredB B p q vals x) (k : Since x x') : StoredB B p q vals x' := by
  obtain ⟨b, u0, u1, u2, u3, h1, h2, h3, h4⟩ := h
  exact ⟨b, u0, u1, u2, u3, h1, h2, h3, h4.since k⟩

theorem StoredB.congr {B p q : Nat} {vals vals' : Nat → Value} {x : World} (h : StoredB B p q vals x) (hp : vals p = vals' p) (hq : vals q = vals' q) : StoredB B p q vals' x := by
  obtain ⟨b, u0, u1, u2, u3, h1, h2, h3, h4⟩ := h
  exact ⟨b, u0, u1, u2, u3, hp ▸ h1, hq ▸ h2, h3, h4⟩
end Go.Proofs.Ytmgaikpninblgaa
