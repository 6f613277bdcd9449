/-
  Contracts of impl's ring of bytes: put, taken, all, dropped.
-/
import Derived.Test.YtlccnnoofbclcaaRing
namespace Go.Proofs.Ytlccnnoofbclcaa
open Go.ChangeShapes Go.WideShapes Go.ChangeAt Go.RowKit Go.Deep
set_option linter.unusedVariables false
set_option maxRecDepth 10000
set_option maxRecDepth 10000

theorem ring_mod (first i room : Nat) (hf : first < room) (hi : i ≤ room) : (first + i) % room = if first + i < room then first + i else first + i - room := by
  split
  · exact Nat.mod_eq_of_lt ‹_›
  · rw [Nat.mod_eq_sub_mod (by omega)]
    exact Nat.mod_eq_of_lt (by omega)

theorem over_in {f g : Nat → Int} {off k i : Nat} (h1 : off ≤ i) (h2 : i < off + k) : over f off k g i = g (i - off) := if_pos ⟨h1, h2⟩

theorem over_out {f g : Nat → Int} {off k i : Nat} (h : i < off ∨ off + k ≤ i) : over f off k g i = f i := if_neg (by omega)

theorem ring_put_old (f g : Nat → Int) (room first many n k at' i : Nat) (hf : first < room) (hmy : many ≤ room) (hn2 : many + n ≤ room) (hi : i < many) (ha : (first + many) % room = at') (hk1 : at' + k ≤ room) (hk2 : k ≤ n) (hk3 : at' + k = room ∨ k = n) :
    over (over f at' k g) 0 (n - k) (fun j => g (k + j)) ((first + i) % room) = f ((first + i) % room) := by
  rw [ring_mod first many room hf hmy] at ha
  have hx := ring_mod first i room hf (by omega)
  generalize (first + i) % room = x at hx ⊢
  by_cases h1 : first + many < room
  · rw [if_pos h1] at ha
    rw [if_pos (show first + i < room by omega)] at hx
    rw [over_out (by omega), over_out (by omega)]
  · rw [if_neg h1] at ha
    by_cases h2 : first + i < room
    · rw [if_pos h2] at hx
      rw [over_out (by omega), over_out (by omega)]
    · rw [if_neg h2] at hx
      rw [over_out (by omega), over_out (by omega)]

theorem ring_put_new (f g : Nat → Int) (room first many n k at' j : Nat) (hf : first < room) (hmy : many ≤ room) (hn2 : many + n ≤ room) (hj : j < n) (ha : (first + many) % room = at') (hk1 : at' + k ≤ room) (hk2 : k ≤ n) (hk3 : at' + k = room ∨ k = n) :
    over (over f at' k g) 0 (n - k) (fun j => g (k + j)) ((first + (many + j)) % room) = g j := by
  rw [ring_mod first many room hf hmy] at ha
  have hx := ring_mod first (many + j) room hf (by omega)
  generalize (first + (many + j)) % room = x at hx ⊢
  by_cases h1 : first + many < room
  · rw [if_pos h1] at ha
    by_cases h2 : first + (many + j) < room
    · rw [if_pos h2] at hx
      rw [over_out (by omega), over_in (by omega) (by omega)]
      congr 1
      omega
    · rw [if_neg h2] at hx
      rw [over_in (by omega) (by omega)]
      show g (k + (x - 0)) = g j
      congr 1
      omega
  · rw [if_neg h1] at ha
    rw [if_neg (by omega)] at hx
    rw [over_out (by omega), over_in (by omega) (by omega)]
    congr 1
    omega

theorem put (r c room first many : Nat) (f g : Nat → Int) (b m cap n : Nat) (hn1 : n ≤ m) (hn2 : many + n ≤ room) (hn3 : n = m ∨ many + n = room) (hcap : m ≤ cap) (hm : m ≤ 1048576) (w : World) (R : Ring w r c room first many f)
    (hsrc : ∀ j, j < m → w.cell? ⟨b, j, none⟩ = some (.int .u8 (g j))) (hb : b < w.heap.size) (hbc : b ≠ c) (B : Nat) (hB1 : B ≤ r) (hB2 : B ≤ c) (hB3 : B ≤ w.heap.size) :
    Calls Try.prog 72 #[.pointer (some ⟨r, 0, none⟩), .slice (some ⟨b, 0, none⟩) m cap] w fun e w' => e = .returned (.int .i64 n) ∧ Below B w w' ∧ ∃ f', Ring w' r c room first (many + n) f' ∧ (∀ i, i < many → f' ((first + i) % room) = f ((first + i) % room)) ∧ ∀ j, j < n → f' ((first + (many + j)) % room) = g j := by
  have b0 := R.box.cell 0
  have b2 := R.box.cell 2
  have hp := R.pos
  have hs := R.small
  have hf := R.fst
  have hmy := R.mny
  simp at b0 b2
  obtain ⟨at', ha⟩ : ∃ at', (first + many) % room = at' := ⟨_, rfl⟩
  have hat : at' < room := by rw [← ha]; exact Nat.mod_lt _ hp
  obtain ⟨k, hk1, hk2, hk3⟩ : ∃ k, at' + k ≤ room ∧ k ≤ n ∧ (at' + k = room ∨ k = n) := ⟨min (room - at') n, by omega, by omega, by omega⟩
  have hif : (if (room : Int) - (many : Int) < (m : Int) then (room : Int) - (many : Int) else (m : Int)) = (n : Int) := by split <;> omega
  have hst := fun wx Rx => stretches r c room first many f many n at' k hmy (by omega) ha hk1 hk2 hk3 wx Rx
  have S0 := (Since.refl w).drew
  replace ha : Hid _ := ha
  replace hk3 : Hid _ := hk3
  replace hn3 : Hid _ := hn3
  replace hsrc : Hid _ := hsrc
  have hR := hst _ (R.since S0)
  clear hst
  go_enter Try.func72, Try.ntmps72
  go_wp2
  go_region
  clear hif
  go_wp2_with (fail)
  refine hR.mono ?_
  clear hR
  rintro _ w1 ⟨rfl, g1⟩
  have R1 := R.since (S0.trans g1)
  have c2 := R1.box.cell 2
  simp at c2
  have f2 := R1.box.fz 2
  have addb : ∀ j, (⟨b, 0, none⟩ : Addr).add j = ⟨b, j, none⟩ := fun j => by unfold Addr.add; split <;> simp_all
  have hx1 : ∀ j, j < k → w1.cell? ((⟨b, 0, none⟩ : Addr).add j) = some (.int .u8 (g j)) := fun j hj => by
    rw [addb]
    exact (Below.cell (S0.trans g1) (p := ⟨b, j, none⟩) hb).trans (hsrc.out j (by omega))
  have hm1 : k = Nat.min m k := (Nat.min_eq_right (by omega)).symm
  clear b0 b2
  replace hx1 : Hid _ := hx1
  replace hm1 : Hid _ := hm1
  go_wp2_with (refine copy_byt rfl (.tmp 33) (.tmp 34) rfl R1.cells (some ⟨c, at', none⟩) (some ⟨b, 0, none⟩) k (room - at') m cap k rfl rfl hm1.out (fun _ => ⟨rfl, _, rfl, hx1.out⟩) hk1 ?_)
  intro w2 C2 t2
  have B2 := R1.box.touch t2 R1.ne
  have d2 := B2.cell 2
  simp at d2
  have e2 := B2.fz 2
  have hx2 : ∀ j, j < n - k → w2.cell? ⟨b, k + j, none⟩ = some (.int .u8 (g (k + j))) := fun j hj => by
    exact (t2.cell (p := ⟨b, k + j, none⟩) hbc (Nat.lt_of_lt_of_le hb (S0.trans g1).le)).trans ((Below.cell (S0.trans g1) (p := ⟨b, k + j, none⟩) hb).trans (hsrc.out (k + j) (by omega)))
  have hm2 : n - k = Nat.min (m - k) (n - k) := (Nat.min_eq_right (by omega)).symm
  replace hx2 : Hid _ := hx2
  replace hm2 : Hid _ := hm2
  clear c2 f2
  have fin : ∀ w3, Byt w3 c room (over (over f at' k g) 0 (n - k) (fun j => g (k + j))) → Touch c w2 w3 → Below B w (w3.setCell ⟨r, 2, none⟩ (.int .i64 ((many : Int) + (n : Int)))) ∧ ∃ f', Ring (w3.setCell ⟨r, 2, none⟩ (.int .i64 ((many : Int) + (n : Int)))) r c room first (many + n) f' ∧ (∀ i, i < many → f' ((first + i) % room) = f ((first + i) % room)) ∧ ∀ j, j < n → f' ((first + (many + j)) % room) = g j := by
    intro w3 C3 t3
    have B3 := (B2.touch t3 R1.ne).put 2 (.int .i64 ((many + n : Nat) : Int)) (by simp)
    have C4 := C3.touch ((Touch.refl r w3).put 2 (.int .i64 ((many : Int) + (n : Int)))) (Ne.symm R1.ne)
    refine ⟨?_, _, ⟨by simpa using B3, C4, R1.ne, hp, hs, hf, hn2⟩, fun i hi => ?_, fun j hj => ?_⟩
    · exact (Touch.below t3 (Touch.below t2 (Below.mono (S0.trans g1) hB3) hB2 (Nat.le_trans hB3 (S0.trans g1).le)) hB2 (Nat.le_trans hB3 (Nat.le_trans (S0.trans g1).le t2.size))).setCell (p := ⟨r, 2, none⟩) hB1 _
    · exact ring_put_old f g room first many n k at' i hf hmy hn2 hi ha.out hk1 hk2 hk3.out
    · exact ring_put_new f g room first many n k at' j hf hmy hn2 hj ha.out hk1 hk2 hk3.out
  replace fin : Hid _ := fin
  have hmn : IntKind.i64.wrap ((many : Int) + (n : Int)) = (many : Int) + (n : Int) := by rw [IntWalk.i64_left]; exact IntWalk.wrap64_in _ ⟨by omega, by omega⟩
  go_wp2_with (refine copy_byt rfl (.tmp 31) (.tmp 36) rfl C2 (off := 0) (g := fun j => g (k + j)) (some ⟨c, 0, none⟩) (if cap = k then some ⟨b, 0, none⟩ else some ⟨b, k, none⟩) (n - k) room (m - k) (cap - k) (n - k) rfl rfl hm2.out (fun h => ⟨rfl, ⟨b, k, none⟩, if_neg (by omega), fun j hj => by rw [show (⟨b, k, none⟩ : Addr).add j = ⟨b, k + j, none⟩ by unfold Addr.add; split <;> simp_all]; exact hx2.out j hj⟩) (by omega) ?_)
  all_goals
    intro w3 C3 t3
    have B3 := B2.touch t3 R1.ne
    have q2 := B3.cell 2
    simp at q2
    have p2 := B3.fz 2
    obtain ⟨F1, F2⟩ := fin.out w3 C3 t3
    replace F1 : Hid _ := F1
    replace F2 : Hid _ := F2
    clear d2 e2 C2
    go_wp2
    go_ret
    exact ⟨rfl, F1.out, F2.out⟩

theorem Byt.grown {w w' : World} {c n : Nat} {f : Nat → Int} {row : Option Nat} (h : Byt w c n f) (k : w.grownBy w' row) (hne : some c ≠ row) : Byt w' c n f := h.block (k.block c h.lt hne)

theorem ring_taken (f : Nat → Int) (room first i n k at' j : Nat) (hf : first < room) (hi : i + n ≤ room) (hj : j < n) (ha : (first + i) % room = at') (hk1 : at' + k ≤ room) (hk2 : k ≤ n) (hk3 : at' + k = room ∨ k = n) :
    (if j < k then f (at' + j) else f (j - k)) = f ((first + (i + j)) % room) := by
  rw [ring_mod first i room hf (by omega)] at ha
  have hx := ring_mod first (i + j) room hf (by omega)
  generalize (first + (i + j)) % room = x at hx ⊢
  by_cases h1 : first + i < room
  · rw [if_pos h1] at ha
    by_cases h2 : j < k
    · rw [if_pos h2]
      rw [if_pos (by omega)] at hx
      congr 1
      omega
    · rw [if_neg h2]
      rw [if_neg (by omega)] at hx
      congr 1
      omega
  · rw [if_neg h1] at ha
    rw [if_neg (by omega)] at hx
    rw [if_pos (by omega)]
    congr 1
    omega

theorem taken (r c room first many : Nat) (f : Nat → Int) (i n n' : Nat) (hi : i ≤ many) (hn1 : n' ≤ n) (hn2 : i + n' ≤ many) (hn3 : n' = n ∨ i + n' = many) (hn : n ≤ 4096) (w : World) (R : Ring w r c room first many f) :
    Calls Try.prog 92 #[.pointer (some ⟨r, 0, none⟩), .int .i64 i, .int .i64 n] w fun e w' => ∃ b cap, e = .returned (.slice (some ⟨b, 0, none⟩) n' cap) ∧ (∀ j, j < n' → w'.cell? ⟨b, j, none⟩ = some (.int .u8 (f ((first + (i + j)) % room)))) ∧ w.heap.size ≤ b ∧ Since w w' := by
  have b2 := R.box.cell 2
  have hp := R.pos
  have hs := R.small
  have hf := R.fst
  have hmy := R.mny
  simp at b2
  obtain ⟨ii, hii, hz0, hz1, hz2⟩ := info_parts info_B
  obtain ⟨at', ha⟩ : ∃ at', (first + i) % room = at' := ⟨_, rfl⟩
  have hat : at' < room := by rw [← ha]; exact Nat.mod_lt _ hp
  obtain ⟨k, hk1, hk2, hk3⟩ : ∃ k, at' + k ≤ room ∧ k ≤ n' ∧ (at' + k = room ∨ k = n') := ⟨min (room - at') n', by omega, by omega, by omega⟩
  have hif : (if (many : Int) - (i : Int) < (n : Int) then (many : Int) - (i : Int) else (n : Int)) = (n' : Int) := by split <;> omega
  have hR := stretches r c room first many f i n' at' k (by omega) (by omega) ha hk1 hk2 hk3 w R
  have hfin : ∀ j, j < n' → (if j < k then f (at' + j) else f (j - k)) = f ((first + (i + j)) % room) := fun j hj => ring_taken f room first i n' k at' j hf (by omega) hj ha hk1 hk2 hk3
  have hc := R.cells.lt
  clear ha hk3
  replace hn3 : Hid _ := hn3
  replace hfin : Hid _ := hfin
  go_enter Try.func92, Try.ntmps92
  go_wp2_with (fail)
  refine hR.mono ?_
  clear hR hif
  rintro _ w1 ⟨rfl, g1⟩
  have R1 := R.since g1
  have hsz := g1.le
  clear b2
  go_wp2_with (refine wpList_make_own _ rfl (.const (.int .i64 0)) (.tmp 24) 102 rfl w.heap.size 5 ii (.int .u8 0) 1 Try.underlying102 hii hz0 hz1 .i64 .i64 _ n' rfl rfl rfl (by rw [hz2]; omega) (by unfold maxLen; omega) hsz ?_)
  intro w2 hown hg2
  have C2 := R1.cells.grown hg2 (by simp)
  have T2 : OwnB w2 w.heap.size (.slice (some ⟨w1.heap.size, 0, none⟩) 0 n') 0 f := hown
  have S2 : Since w w2 := Below.grown g1 hg2 hsz (by simp)
  have hx1 : ∀ j, j < k → w2.cell? ((⟨c, at', none⟩ : Addr).add j) = some (.int .u8 (f (at' + j))) := fun j hj => by
    rw [show (⟨c, at', none⟩ : Addr).add j = ⟨c, at' + j, none⟩ by unfold Addr.add; split <;> simp_all]
    exact C2.cell (at' + j) (by omega)
  replace hx1 : Hid _ := hx1
  clear hown
  go_wp2_with (refine app_byt rfl (.tmp 25) (.tmp 26) rfl rfl T2 rfl (g := fun j => f (at' + j)) hx1.out (by omega) S2.le ?_)
  intro v3 w3 T3 hg3 hnil
  have hv3 : v3 ≠ .slice none 0 0 := hnil
  obtain ⟨g3, cap3, rfl, hB3, hlt3, hc3⟩ := T3.form hv3
  have S3 : Since w w3 := Below.grown S2 hg3 S2.le (by simp [Value.ownBlock]; omega)
  have C3 := C2.grown hg3 (by simp [Value.ownBlock]; omega)
  have hx2 : ∀ j, j < n' - k → w3.cell? ((⟨c, 0, none⟩ : Addr).add j) = some (.int .u8 (f j)) := fun j hj => by
    rw [show (⟨c, 0, none⟩ : Addr).add j = ⟨c, j, none⟩ by unfold Addr.add; split <;> simp_all]
    exact C3.cell j (by omega)
  replace hx2 : Hid _ := hx2
  clear hx1 hc3
  go_wp2_with (refine app_byt rfl (.tmp 27) (.tmp 28) rfl rfl T3 rfl (g := fun j => f j) hx2.out (by omega) S3.le ?_)
  intro v4 w4 T4 hg4 hnil4
  have hv4 : v4 ≠ .slice none 0 0 := hnil4
  obtain ⟨g4, cap4, rfl, hB4, hlt4, hc4⟩ := T4.form hv4
  have S4 : Since w w4 := Below.grown S3 hg4 S3.le (by simp [Value.ownBlock]; omega)
  have hl : 0 + k + (n' - k) = n' := by omega
  replace hc4 : Hid _ := hc4
  go_wp2
  go_ret
  refine ⟨g4, cap4, rfl, fun j hj => ?_, hB4, S4⟩
  rw [hc4.out j (by omega), hfin.out j hj]

theorem ringAll (r c room first many : Nat) (f : Nat → Int) (w : World) (R : Ring w r c room first many f) :
    Calls Try.prog 73 #[.pointer (some ⟨r, 0, none⟩)] w fun e w' => ∃ b cap, e = .returned (.slice (some ⟨b, 0, none⟩) many cap) ∧ (∀ j, j < many → w'.cell? ⟨b, j, none⟩ = some (.int .u8 (f ((first + j) % room)))) ∧ w.heap.size ≤ b ∧ Since w w' := by
  have b2 := R.box.cell 2
  simp at b2
  have ht := taken r c room first many f 0 many many (by omega) (by omega) (by omega) (.inl rfl) (Nat.le_trans R.mny R.small) w R
  simp only [Nat.zero_add] at ht
  go_enter Try.func73, Try.ntmps73
  go_wp2_with (fail)
  refine ht.mono ?_
  rintro _ w1 ⟨b, cap, rfl, hc, hlb, g1⟩
  replace hc : Hid _ := hc
  go_wp2
  go_ret
  exact ⟨b, cap, rfl, hc.out, hlb, g1⟩
end Go.Proofs.Ytlccnnoofbclcaa
