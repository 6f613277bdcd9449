/-
  The walk of the law FnSum.
-/
import Derived.Test.YtelinafcekacfaaSumFacts
import Derived.Test.YtelinafcekacfaaDrawSum
import Derived.Test.YtelinafcekacfaaCode
import Derived.LoopTactic
import Derived.BigQuiet
import Derived.Deep.QuietTactic
namespace Go.Proofs.Ytelinafcekacfaa
open Go.ChangeShapes Go.WideShapes Go.ChangeAt Go.RowKit
set_option linter.unusedVariables false

theorem big_ (a : Option Addr) (len cap : Nat) (w : World) :
    Calls Try.prog 9 #[.slice a len cap] w fun e w' => e = .returned (.bool (decide ((1048576 : Int) < (len : Int)))) ∧ w = w' := by
  go_enter Try.func9, Try.ntmps9
  go_wp2
  go_ret
  exact ⟨rfl, rfl⟩

theorem since {a b c : World} (h : Below a.heap.size a b) (k : Below b.heap.size b c) : Below a.heap.size a c := h.trans (k.mono h.size)

theorem many {a b : World} (h : Below a.heap.size a b) (n : Nat) : Below a.heap.size a (b.drewN n) := ⟨h.os, h.tape, h.output, h.size, h.block⟩

theorem halfOf (s : ByteArray) (j : Nat) (h : j + 1 < s.size) : wrap64 (wrap64 (256 * wrap64 (s[j].toNat : Int)) + wrap64 (s[j + 1].toNat : Int)) = 256 * byteAt s j + byteAt s (j + 1) := by
  rw [← byteAt_in s j (by omega), ← byteAt_in s (j + 1) h]
  have a := byteAt_range s j
  have b := byteAt_range s (j + 1)
  generalize byteAt s j = x at *
  generalize byteAt s (j + 1) = y at *
  unfold wrap64
  omega

set_option maxHeartbeats 4000000 in
set_option maxRecDepth 100000 in
theorem walkSum (a0 : Option Addr) (len0 cap0 : Nat) (z0 : List Int) (w : World) (hb : Bytes w a0 len0 z0) :
    Calls Try.prog 3 #[.slice a0 len0 cap0] w fun e w' => e = .returned (.bool true) ∧ Below w.heap.size w w' := by
  have hbig := fun wx => big_ a0 len0 cap0 wx
  by_cases hm : len0 ≤ 1048576
  · rw [show decide ((1048576 : Int) < (len0 : Int)) = false by simp; omega] at hbig
    have hd := drawTurned a0 len0 cap0 z0 w hb hm
    clear hb
    go_enter Try.func3, Try.ntmps3
    go_wp2_with (first | (go_at_call 9; refine (hbig _).mono ?_; rintro _ _ ⟨rfl, rfl⟩) | (go_at_call 10; refine hd.mono ?_; rintro _ w1 ⟨s, k, x, rfl, hs, hk0, hk1, hx0, hx1, g1⟩; have hadd := fun wx => run_string_add_sum (P := Try.prog) wx s ⟨#[46]⟩ (by have e1 : (ByteArray.mk #[46]).size = 1 := rfl; omega); have ht := Int.tmod_eq_emod_of_nonneg (a := (s.size : Int)) (b := 2) (by omega)))
    · refine (implOnes s _).mono ?_
      rintro _ w2 ⟨rfl, g2⟩
      have ho := fun wx => specOnes s (by omega) wx
      generalize ones s = o at ho ⊢
      go_wp2_with (go_at_call 12; refine (ho _).mono ?_; rintro _ _ ⟨rfl, rfl⟩)
      go_ret
      exact ⟨rfl, since g1 g2⟩
    · have ho : s.size % 2 = 1 := by
        have h2 : ((s.size : Int) % 2 == 1) = true := by assumption
        simp at h2
        omega
      have h96 : s.size ≤ 1996 := by omega
      have hs2 : (s ++ ⟨#[46]⟩).size = s.size + 1 := by
        rw [ByteArray.size_append]
        rfl
      clear ht hadd
      generalize s ++ ⟨#[46]⟩ = s2 at hs2 ⊢
      have he : s2.size % 2 = 0 := by omega
      have hsz : s2.size ≤ 1996 := by omega
      clear hs2 ho h96
      by_cases hin : (0 ≤ k ∧ k ≤ (s2.size : Int) / 2 - 1) ∧ 1 ≤ x ∧ x ≤ 65535
      · obtain ⟨kn, rfl⟩ := Int.eq_ofNat_of_zero_le hin.1.1
        have hkn : 2 * kn + 1 < s2.size := by omega
        obtain ⟨hi1, hx2⟩ := hin
        obtain ⟨hx3, hx4⟩ := hx2
        have hz := turnOf_size s2 (kn : Int) x
        have hup := update_turned s2 kn x hkn ⟨hx3, hx4⟩ (by omega)
        have hck1 := fun wx => implChecksum s2 wx
        rw [checksum, if_neg (show ¬ 2000 < s2.size by omega)] at hck1
        have hck2 := hck1
        have hct1 := fun wx => implChecksum (turnOf s2 (kn : Int) x) wx
        rw [checksum, if_neg (show ¬ 2000 < (turnOf s2 (kn : Int) x).size by omega)] at hct1
        have hct2 := hct1
        have hon := fun wx => implOnes s2 wx
        have r1 := ones_in s2 (by omega)
        have hou := fun wx => implOnes (s2 ++ strOfNums [(65535 - ones s2) / 256, (65535 - ones s2) % 256]) wx
        rw [ones_own s2 (by omega) he] at hou
        have hconv : ∀ w : World, (convert 22 9 (.slice (some ⟨w.heap.size, 0, none⟩) 2 2)).run Try.prog (w.alloc (.cells #[.int .u8 ((65535 - ones s2) / 256), .int .u8 ((65535 - ones s2) % 256)] 5)) = .ok (.string (strOfNums [(65535 - ones s2) / 256, (65535 - ones s2) % 256])) (w.alloc (.cells #[.int .u8 ((65535 - ones s2) / 256), .int .u8 ((65535 - ones s2) % 256)] 5)) := fun w => convNew [_, _] w 2 rfl
        have hadd := fun wx => run_string_add_sum (P := Try.prog) wx s2 (strOfNums [(65535 - ones s2) / 256, (65535 - ones s2) % 256]) (by rw [strOfNums_size]; simp; omega)
        have hd1 := Int.tdiv_eq_ediv_of_nonneg (a := 65535 - ones s2) (b := 256) (by omega)
        have hd2 := Int.tmod_eq_emod_of_nonneg (a := 65535 - ones s2) (b := 256) (by omega)
        have hq := Int.tdiv_eq_ediv_of_nonneg (a := (s2.size : Int)) (b := 2) (by omega)
        have r2 := ones_in (turnOf s2 (kn : Int) x) (by omega)
        have hT1 := fun wx => implTurned s2 (kn : Int) x (by omega) wx
        have hT2 := fun wx => implTurned (turnOf s2 (kn : Int) x) (kn : Int) x (by omega) wx
        rw [turn_back s2 kn x hkn ⟨hx3, hx4⟩] at hT2
        have hS := fun wx => implShows s2 (kn : Int) x (by omega) wx
        rw [shows_sums s2 (kn : Int) x (by omega)] at hS
        have hne := texts_differ (turn_differs s2 kn x hkn ⟨hx3, hx4⟩)
        have hsame : (((turnOf s2 (kn : Int) x).size : Int) != (s2.size : Int)) = false := by rw [hz]; simp
        generalize strOfNums [(65535 - ones s2) / 256, (65535 - ones s2) % 256] = q at hou hconv hadd
        generalize ones s2 = o at hck1 hck2 hon r1 hou hconv hadd hd1 hd2 hS hup
        generalize ones (turnOf s2 (kn : Int) x) = ot at hct1 hct2 r2 hS hup
        generalize turnOf s2 (kn : Int) x = t at hct1 hct2 hT1 hT2 hne hsame hz hup
        obtain ⟨r1a, r1b⟩ := r1
        obtain ⟨r2a, r2b⟩ := r2
        have i0 : 2 * (kn : Int) < (s2.size : Int) := by omega
        have i1 : 2 * (kn : Int) + 1 < (s2.size : Int) := by omega
        have i2 : 2 * (kn : Int) < (t.size : Int) := by omega
        have i3 : 2 * (kn : Int) + 1 < (t.size : Int) := by omega
        have p0 : 0 ≤ 2 * (kn : Int) := by omega
        have p1 : 0 ≤ 2 * (kn : Int) + 1 := by omega
        have q0 : IntKind.i64.wrap (2 * (kn : Int)) = 2 * (kn : Int) := by rw [IntWalk.i64_left]; exact IntWalk.wrap64_in _ ⟨by omega, by omega⟩
        have q1 : IntKind.i64.wrap (2 * (kn : Int) + 1) = 2 * (kn : Int) + 1 := by rw [IntWalk.i64_left]; exact IntWalk.wrap64_in _ ⟨by omega, by omega⟩
        have HZ : Hid (t.size = s2.size) := hz
        have HU : Hid _ := hup
        clear hz hup
        refine (hck1 _).mono ?_
        rintro _ w2 ⟨rfl, g2⟩
        clear hck1
        go_wp2_with (first | (go_at_call 11; refine (hon _).mono ?_; clear hon; rintro _ w3 ⟨rfl, g3⟩) | (go_at_call 11; refine (hou _).mono ?_; clear hou; rintro _ w4 ⟨rfl, g4⟩) | (go_at_call 14; refine (hT1 _).mono ?_; clear hT1; rintro _ w5 ⟨rfl, g5⟩) | (go_at_call 14; refine (hT2 _).mono ?_; clear hT2; rintro _ w6 ⟨rfl, g6⟩))
        go_quiet (fail)
        go_wp2
        go_quiet (fail)
        go_wp2_with fail
        have G3 := since (since g1 g2) g3
        have G6 := fun m => many (since (since (since (G3.alloc G3.size _) g4) g5) g6) m
        refine (implUpdate _ _ _ _).mono ?_
        rintro _ _ ⟨rfl, rfl⟩
        have hz := HZ.out
        rw [halfOf s2 (2 * kn) (by omega), halfOf t (2 * kn) (by omega)]
        have hup := HU.out
        clear hz
        generalize updateOf (65535 - o) (256 * byteAt s2 (2 * kn) + byteAt s2 (2 * kn + 1)) (256 * byteAt t (2 * kn) + byteAt t (2 * kn + 1)) = u at hup ⊢
        obtain ⟨u0, u1, u2⟩ := hup
        have hu3 : u % 65535 = -ot % 65535 := by omega
        clear u2
        go_wp2_with (first | (go_at_call 15; refine (hS _).mono ?_; rintro _ w8 ⟨rfl, g8⟩) | (go_at_call 13; refine (hct1 _).mono ?_; clear hct1; rintro _ w7 ⟨rfl, g7⟩) | (go_at_call 13; refine (hck2 _).mono ?_; clear hck2; rintro _ w9 ⟨rfl, g9⟩) | (go_at_call 13; refine (hct2 _).mono ?_; clear hct2; rintro _ w10 ⟨rfl, g10⟩))
        go_ret
        exact ⟨rfl, since (since (since (since (G6 _) g7) g8) g9) g10⟩
      · have hck := fun wx => implChecksum s2 wx
        rw [checksum, if_neg (show ¬ 2000 < s2.size by omega)] at hck
        have hon := fun wx => implOnes s2 wx
        have r1 := ones_in s2 (by omega)
        have hou := fun wx => implOnes (s2 ++ strOfNums [(65535 - ones s2) / 256, (65535 - ones s2) % 256]) wx
        rw [ones_own s2 (by omega) he] at hou
        have hconv : ∀ w : World, (convert 22 9 (.slice (some ⟨w.heap.size, 0, none⟩) 2 2)).run Try.prog (w.alloc (.cells #[.int .u8 ((65535 - ones s2) / 256), .int .u8 ((65535 - ones s2) % 256)] 5)) = .ok (.string (strOfNums [(65535 - ones s2) / 256, (65535 - ones s2) % 256])) (w.alloc (.cells #[.int .u8 ((65535 - ones s2) / 256), .int .u8 ((65535 - ones s2) % 256)] 5)) := fun w => convNew [_, _] w 2 rfl
        have hadd := fun wx => run_string_add_sum (P := Try.prog) wx s2 (strOfNums [(65535 - ones s2) / 256, (65535 - ones s2) % 256]) (by rw [strOfNums_size]; simp; omega)
        have hd1 := Int.tdiv_eq_ediv_of_nonneg (a := 65535 - ones s2) (b := 256) (by omega)
        have hd2 := Int.tmod_eq_emod_of_nonneg (a := 65535 - ones s2) (b := 256) (by omega)
        have hq := Int.tdiv_eq_ediv_of_nonneg (a := (s2.size : Int)) (b := 2) (by omega)
        have hT := fun wx => implTurned s2 k x (by omega) wx
        rw [turn_out s2 k x hin] at hT
        have hS := fun wx => implShows s2 k x (by omega) wx
        rw [shows_out s2 k x hin] at hS
        generalize strOfNums [(65535 - ones s2) / 256, (65535 - ones s2) % 256] = q at hou hconv hadd
        generalize ones s2 = o at hck hon r1 hou hconv hadd hd1 hd2
        refine (hck _).mono ?_
        rintro _ w2 ⟨rfl, g2⟩
        clear hck
        obtain ⟨r1a, r1b⟩ := r1
        by_cases c1 : k < 0
        · clear hin
          go_wp2_with (first | (go_at_call 11; refine (hon _).mono ?_; clear hon; rintro _ w3 ⟨rfl, g3⟩) | (go_at_call 11; refine (hou _).mono ?_; clear hou; rintro _ w4 ⟨rfl, g4⟩) | (go_at_call 14; refine (hT _).mono ?_; rintro _ w5 ⟨rfl, g5⟩) | (go_at_call 15; refine (hS _).mono ?_; rintro _ w6 ⟨rfl, g6⟩))
          go_ret
          have G3 := since (since g1 g2) g3
          exact ⟨rfl, since (since (since (G3.alloc G3.size _) g4) g5) g6⟩
        · by_cases c2 : (s2.size : Int) / 2 ≤ k
          · clear hin
            go_wp2_with (first | (go_at_call 11; refine (hon _).mono ?_; clear hon; rintro _ w3 ⟨rfl, g3⟩) | (go_at_call 11; refine (hou _).mono ?_; clear hou; rintro _ w4 ⟨rfl, g4⟩) | (go_at_call 14; refine (hT _).mono ?_; rintro _ w5 ⟨rfl, g5⟩) | (go_at_call 15; refine (hS _).mono ?_; rintro _ w6 ⟨rfl, g6⟩))
            go_ret
            have G3 := since (since g1 g2) g3
            exact ⟨rfl, since (since (since (G3.alloc G3.size _) g4) g5) g6⟩
          · by_cases c3 : x < 1
            · clear hin
              go_wp2_with (first | (go_at_call 11; refine (hon _).mono ?_; clear hon; rintro _ w3 ⟨rfl, g3⟩) | (go_at_call 11; refine (hou _).mono ?_; clear hou; rintro _ w4 ⟨rfl, g4⟩) | (go_at_call 14; refine (hT _).mono ?_; rintro _ w5 ⟨rfl, g5⟩) | (go_at_call 15; refine (hS _).mono ?_; rintro _ w6 ⟨rfl, g6⟩))
              go_ret
              have G3 := since (since g1 g2) g3
              exact ⟨rfl, since (since (since (G3.alloc G3.size _) g4) g5) g6⟩
            · have c4 : 65535 < x := by omega
              clear hin
              go_wp2_with (first | (go_at_call 11; refine (hon _).mono ?_; clear hon; rintro _ w3 ⟨rfl, g3⟩) | (go_at_call 11; refine (hou _).mono ?_; clear hou; rintro _ w4 ⟨rfl, g4⟩) | (go_at_call 14; refine (hT _).mono ?_; rintro _ w5 ⟨rfl, g5⟩) | (go_at_call 15; refine (hS _).mono ?_; rintro _ w6 ⟨rfl, g6⟩))
              go_ret
              have G3 := since (since g1 g2) g3
              exact ⟨rfl, since (since (since (G3.alloc G3.size _) g4) g5) g6⟩
    · have he : s.size % 2 = 0 := by
        have h2 : ((s.size : Int) % 2 == 1) = false := by assumption
        simp at h2
        omega
      have hsz : s.size ≤ 1996 := by omega
      clear ht hadd
      by_cases hin : (0 ≤ k ∧ k ≤ (s.size : Int) / 2 - 1) ∧ 1 ≤ x ∧ x ≤ 65535
      · obtain ⟨kn, rfl⟩ := Int.eq_ofNat_of_zero_le hin.1.1
        have hkn : 2 * kn + 1 < s.size := by omega
        obtain ⟨hi1, hx2⟩ := hin
        obtain ⟨hx3, hx4⟩ := hx2
        have hz := turnOf_size s (kn : Int) x
        have hup := update_turned s kn x hkn ⟨hx3, hx4⟩ (by omega)
        have hck1 := fun wx => implChecksum s wx
        rw [checksum, if_neg (show ¬ 2000 < s.size by omega)] at hck1
        have hck2 := hck1
        have hct1 := fun wx => implChecksum (turnOf s (kn : Int) x) wx
        rw [checksum, if_neg (show ¬ 2000 < (turnOf s (kn : Int) x).size by omega)] at hct1
        have hct2 := hct1
        have hon := fun wx => implOnes s wx
        have r1 := ones_in s (by omega)
        have hou := fun wx => implOnes (s ++ strOfNums [(65535 - ones s) / 256, (65535 - ones s) % 256]) wx
        rw [ones_own s (by omega) he] at hou
        have hconv : ∀ w : World, (convert 22 9 (.slice (some ⟨w.heap.size, 0, none⟩) 2 2)).run Try.prog (w.alloc (.cells #[.int .u8 ((65535 - ones s) / 256), .int .u8 ((65535 - ones s) % 256)] 5)) = .ok (.string (strOfNums [(65535 - ones s) / 256, (65535 - ones s) % 256])) (w.alloc (.cells #[.int .u8 ((65535 - ones s) / 256), .int .u8 ((65535 - ones s) % 256)] 5)) := fun w => convNew [_, _] w 2 rfl
        have hadd := fun wx => run_string_add_sum (P := Try.prog) wx s (strOfNums [(65535 - ones s) / 256, (65535 - ones s) % 256]) (by rw [strOfNums_size]; simp; omega)
        have hd1 := Int.tdiv_eq_ediv_of_nonneg (a := 65535 - ones s) (b := 256) (by omega)
        have hd2 := Int.tmod_eq_emod_of_nonneg (a := 65535 - ones s) (b := 256) (by omega)
        have hq := Int.tdiv_eq_ediv_of_nonneg (a := (s.size : Int)) (b := 2) (by omega)
        have r2 := ones_in (turnOf s (kn : Int) x) (by omega)
        have hT1 := fun wx => implTurned s (kn : Int) x (by omega) wx
        have hT2 := fun wx => implTurned (turnOf s (kn : Int) x) (kn : Int) x (by omega) wx
        rw [turn_back s kn x hkn ⟨hx3, hx4⟩] at hT2
        have hS := fun wx => implShows s (kn : Int) x (by omega) wx
        rw [shows_sums s (kn : Int) x (by omega)] at hS
        have hne := texts_differ (turn_differs s kn x hkn ⟨hx3, hx4⟩)
        have hsame : (((turnOf s (kn : Int) x).size : Int) != (s.size : Int)) = false := by rw [hz]; simp
        generalize strOfNums [(65535 - ones s) / 256, (65535 - ones s) % 256] = q at hou hconv hadd
        generalize ones s = o at hck1 hck2 hon r1 hou hconv hadd hd1 hd2 hS hup
        generalize ones (turnOf s (kn : Int) x) = ot at hct1 hct2 r2 hS hup
        generalize turnOf s (kn : Int) x = t at hct1 hct2 hT1 hT2 hne hsame hz hup
        obtain ⟨r1a, r1b⟩ := r1
        obtain ⟨r2a, r2b⟩ := r2
        have i0 : 2 * (kn : Int) < (s.size : Int) := by omega
        have i1 : 2 * (kn : Int) + 1 < (s.size : Int) := by omega
        have i2 : 2 * (kn : Int) < (t.size : Int) := by omega
        have i3 : 2 * (kn : Int) + 1 < (t.size : Int) := by omega
        have p0 : 0 ≤ 2 * (kn : Int) := by omega
        have p1 : 0 ≤ 2 * (kn : Int) + 1 := by omega
        have q0 : IntKind.i64.wrap (2 * (kn : Int)) = 2 * (kn : Int) := by rw [IntWalk.i64_left]; exact IntWalk.wrap64_in _ ⟨by omega, by omega⟩
        have q1 : IntKind.i64.wrap (2 * (kn : Int) + 1) = 2 * (kn : Int) + 1 := by rw [IntWalk.i64_left]; exact IntWalk.wrap64_in _ ⟨by omega, by omega⟩
        have HZ : Hid (t.size = s.size) := hz
        have HU : Hid _ := hup
        clear hz hup
        refine (hck1 _).mono ?_
        rintro _ w2 ⟨rfl, g2⟩
        clear hck1
        go_wp2_with (first | (go_at_call 11; refine (hon _).mono ?_; clear hon; rintro _ w3 ⟨rfl, g3⟩) | (go_at_call 11; refine (hou _).mono ?_; clear hou; rintro _ w4 ⟨rfl, g4⟩) | (go_at_call 14; refine (hT1 _).mono ?_; clear hT1; rintro _ w5 ⟨rfl, g5⟩) | (go_at_call 14; refine (hT2 _).mono ?_; clear hT2; rintro _ w6 ⟨rfl, g6⟩))
        go_quiet (fail)
        go_wp2
        go_quiet (fail)
        go_wp2_with fail
        have G3 := since (since g1 g2) g3
        have G6 := fun m => many (since (since (since (G3.alloc G3.size _) g4) g5) g6) m
        refine (implUpdate _ _ _ _).mono ?_
        rintro _ _ ⟨rfl, rfl⟩
        have hz := HZ.out
        rw [halfOf s (2 * kn) (by omega), halfOf t (2 * kn) (by omega)]
        have hup := HU.out
        clear hz
        generalize updateOf (65535 - o) (256 * byteAt s (2 * kn) + byteAt s (2 * kn + 1)) (256 * byteAt t (2 * kn) + byteAt t (2 * kn + 1)) = u at hup ⊢
        obtain ⟨u0, u1, u2⟩ := hup
        have hu3 : u % 65535 = -ot % 65535 := by omega
        clear u2
        go_wp2_with (first | (go_at_call 15; refine (hS _).mono ?_; rintro _ w8 ⟨rfl, g8⟩) | (go_at_call 13; refine (hct1 _).mono ?_; clear hct1; rintro _ w7 ⟨rfl, g7⟩) | (go_at_call 13; refine (hck2 _).mono ?_; clear hck2; rintro _ w9 ⟨rfl, g9⟩) | (go_at_call 13; refine (hct2 _).mono ?_; clear hct2; rintro _ w10 ⟨rfl, g10⟩))
        go_ret
        exact ⟨rfl, since (since (since (since (G6 _) g7) g8) g9) g10⟩
      · have hck := fun wx => implChecksum s wx
        rw [checksum, if_neg (show ¬ 2000 < s.size by omega)] at hck
        have hon := fun wx => implOnes s wx
        have r1 := ones_in s (by omega)
        have hou := fun wx => implOnes (s ++ strOfNums [(65535 - ones s) / 256, (65535 - ones s) % 256]) wx
        rw [ones_own s (by omega) he] at hou
        have hconv : ∀ w : World, (convert 22 9 (.slice (some ⟨w.heap.size, 0, none⟩) 2 2)).run Try.prog (w.alloc (.cells #[.int .u8 ((65535 - ones s) / 256), .int .u8 ((65535 - ones s) % 256)] 5)) = .ok (.string (strOfNums [(65535 - ones s) / 256, (65535 - ones s) % 256])) (w.alloc (.cells #[.int .u8 ((65535 - ones s) / 256), .int .u8 ((65535 - ones s) % 256)] 5)) := fun w => convNew [_, _] w 2 rfl
        have hadd := fun wx => run_string_add_sum (P := Try.prog) wx s (strOfNums [(65535 - ones s) / 256, (65535 - ones s) % 256]) (by rw [strOfNums_size]; simp; omega)
        have hd1 := Int.tdiv_eq_ediv_of_nonneg (a := 65535 - ones s) (b := 256) (by omega)
        have hd2 := Int.tmod_eq_emod_of_nonneg (a := 65535 - ones s) (b := 256) (by omega)
        have hq := Int.tdiv_eq_ediv_of_nonneg (a := (s.size : Int)) (b := 2) (by omega)
        have hT := fun wx => implTurned s k x (by omega) wx
        rw [turn_out s k x hin] at hT
        have hS := fun wx => implShows s k x (by omega) wx
        rw [shows_out s k x hin] at hS
        generalize strOfNums [(65535 - ones s) / 256, (65535 - ones s) % 256] = q at hou hconv hadd
        generalize ones s = o at hck hon r1 hou hconv hadd hd1 hd2
        refine (hck _).mono ?_
        rintro _ w2 ⟨rfl, g2⟩
        clear hck
        obtain ⟨r1a, r1b⟩ := r1
        by_cases c1 : k < 0
        · clear hin
          go_wp2_with (first | (go_at_call 11; refine (hon _).mono ?_; clear hon; rintro _ w3 ⟨rfl, g3⟩) | (go_at_call 11; refine (hou _).mono ?_; clear hou; rintro _ w4 ⟨rfl, g4⟩) | (go_at_call 14; refine (hT _).mono ?_; rintro _ w5 ⟨rfl, g5⟩) | (go_at_call 15; refine (hS _).mono ?_; rintro _ w6 ⟨rfl, g6⟩))
          go_ret
          have G3 := since (since g1 g2) g3
          exact ⟨rfl, since (since (since (G3.alloc G3.size _) g4) g5) g6⟩
        · by_cases c2 : (s.size : Int) / 2 ≤ k
          · clear hin
            go_wp2_with (first | (go_at_call 11; refine (hon _).mono ?_; clear hon; rintro _ w3 ⟨rfl, g3⟩) | (go_at_call 11; refine (hou _).mono ?_; clear hou; rintro _ w4 ⟨rfl, g4⟩) | (go_at_call 14; refine (hT _).mono ?_; rintro _ w5 ⟨rfl, g5⟩) | (go_at_call 15; refine (hS _).mono ?_; rintro _ w6 ⟨rfl, g6⟩))
            go_ret
            have G3 := since (since g1 g2) g3
            exact ⟨rfl, since (since (since (G3.alloc G3.size _) g4) g5) g6⟩
          · by_cases c3 : x < 1
            · clear hin
              go_wp2_with (first | (go_at_call 11; refine (hon _).mono ?_; clear hon; rintro _ w3 ⟨rfl, g3⟩) | (go_at_call 11; refine (hou _).mono ?_; clear hou; rintro _ w4 ⟨rfl, g4⟩) | (go_at_call 14; refine (hT _).mono ?_; rintro _ w5 ⟨rfl, g5⟩) | (go_at_call 15; refine (hS _).mono ?_; rintro _ w6 ⟨rfl, g6⟩))
              go_ret
              have G3 := since (since g1 g2) g3
              exact ⟨rfl, since (since (since (G3.alloc G3.size _) g4) g5) g6⟩
            · have c4 : 65535 < x := by omega
              clear hin
              go_wp2_with (first | (go_at_call 11; refine (hon _).mono ?_; clear hon; rintro _ w3 ⟨rfl, g3⟩) | (go_at_call 11; refine (hou _).mono ?_; clear hou; rintro _ w4 ⟨rfl, g4⟩) | (go_at_call 14; refine (hT _).mono ?_; rintro _ w5 ⟨rfl, g5⟩) | (go_at_call 15; refine (hS _).mono ?_; rintro _ w6 ⟨rfl, g6⟩))
              go_ret
              have G3 := since (since g1 g2) g3
              exact ⟨rfl, since (since (since (G3.alloc G3.size _) g4) g5) g6⟩
  · rw [show decide ((1048576 : Int) < (len0 : Int)) = true by simp; omega] at hbig
    clear hb
    go_enter Try.func3, Try.ntmps3
    go_wp2_with (go_at_call 9; refine (hbig _).mono ?_; rintro _ _ ⟨rfl, rfl⟩)
    go_ret
    exact ⟨rfl, Below.refl _ _⟩
end Go.Proofs.Ytelinafcekacfaa
