/-
  The walk of FnPacket: for every code.
-/
import Derived.Test.YtfohognpcipmaaaDrawPkt
import Derived.Test.YtfohognpcipmaaaSpoilFacts
import Derived.Test.YtfohognpcipmaaaPutBack
import Derived.Test.YtfohognpcipmaaaHopPkt
import Derived.Test.YtfohognpcipmaaaCode
namespace Go.Proofs.Ytfohognpcipmaaa
open Go.ChangeShapes Go.WideShapes Go.ChangeAt Go.RowKit
set_option linter.unusedVariables false

theorem big_ (a : Option Addr) (len cap : Nat) (w : World) :
    Calls Try.prog 5 #[.slice a len cap] w fun e w' => e = .returned (.bool (decide ((1048576 : Int) < (len : Int)))) ∧ w = w' := by
  go_enter Try.func5, Try.ntmps5
  go_wp2
  go_ret
  exact ⟨rfl, rfl⟩

theorem getBad (t : ByteArray) (h : ¬ isPkt t) (w : World) : Calls Try.prog 10 #[.string t] w fun e w' => e = .returned (.tuple #[.agg #[.int .u32 0, .int .u32 0, .int .i64 0, .int .i64 0, .int .i64 0, .string ⟨#[]⟩], .bool false]) ∧ Since w w' :=
  implGet t false (by simp [h]) w

theorem getPut (src dst id ttl proto : Int) (d : ByteArray) (hs : IsWord src) (hd : IsWord dst) (hok : pktOk id ttl proto d = true) (w : World) :
    Calls Try.prog 10 #[.string (putOf src dst id ttl proto d)] w fun e w' => e = .returned (.tuple #[.agg #[.int .u32 src, .int .u32 dst, .int .i64 id, .int .i64 ttl, .int .i64 proto, .string d], .bool true]) ∧ Since w w' := by
  obtain ⟨p1, p2, p3, p4, p5, p6, p7, p8⟩ := put_reads src dst id ttl proto d hs hd hok
  have h := implGet (putOf src dst id ttl proto d) true (by simp [p8]) w
  rw [show getVal true (putOf src dst id ttl proto d) = .tuple #[readVal (putOf src dst id ttl proto d), .bool true] from rfl, readVal, p2, p3, p4, p5, p6, p7] at h
  exact h

set_option maxHeartbeats 4000000 in
theorem walkPkt (a0 : Option Addr) (len0 cap0 : Nat) (z0 : List Int) (w : World) (hb : Bytes w a0 len0 z0) :
    Calls Try.prog 3 #[.slice a0 len0 cap0] w fun e w' => e = .returned (.bool true) ∧ Below w.heap.size w w' := by
  have hbig := fun wx => big_ a0 len0 cap0 wx
  have hn : ∀ (x : Bool) (w : World), (Op.unary .not (.bool x)).run Try.prog w = .ok (.bool (!x)) w := fun _ _ => rfl
  by_cases hm : len0 ≤ 1048576
  case neg =>
    rw [show decide ((1048576 : Int) < (len0 : Int)) = true by simp; omega] at hbig
    clear hb
    go_enter Try.func3, Try.ntmps3
    go_wp2_with (go_at_call 5; refine (hbig _).mono ?_; rintro _ _ ⟨rfl, rfl⟩)
    go_ret
    exact ⟨rfl, Below.refl _ _⟩
  rw [show decide ((1048576 : Int) < (len0 : Int)) = false by simp; omega] at hbig
  have hdr := drawPP a0 len0 cap0 z0 w hb hm
  have hat3 : ∀ wx, Since w wx → Calls Try.prog 12 #[.slice a0 len0 cap0, .int .i64 3] wx fun e w' => ∃ v : Int, e = .returned (.int .i64 v) ∧ 0 ≤ v ∧ v ≤ 255 ∧ wx = w' := fun wx h => (at_ a0 len0 cap0 z0 3 (by omega) w hb hm wx h).mono fun e w' ⟨h1, h2, h3, h4⟩ => ⟨_, h1, h2, h3, h4⟩
  have hat4 : ∀ wx, Since w wx → Calls Try.prog 12 #[.slice a0 len0 cap0, .int .i64 4] wx fun e w' => ∃ v : Int, e = .returned (.int .i64 v) ∧ 0 ≤ v ∧ v ≤ 255 ∧ wx = w' := fun wx h => (at_ a0 len0 cap0 z0 4 (by omega) w hb hm wx h).mono fun e w' ⟨h1, h2, h3, h4⟩ => ⟨_, h1, h2, h3, h4⟩
  clear hb
  go_enter Try.func3, Try.ntmps3
  go_wp2_with (first | (go_at_call 5; refine (hbig _).mono ?_; rintro _ _ ⟨rfl, rfl⟩) | (go_at_call 6; refine hdr.mono ?_; clear hdr; rintro _ w1 ⟨src, dst, id, ttl, proto, d, rfl, ⟨hsrc, hdst, hid, httl, hpro, hdz⟩, G⟩; unfold pktVal))
  have hput := fun wx => implPutPacket src dst id ttl proto d hsrc hdst wx
  have hok := fun wx => specPacketOk src dst id ttl proto d wx
  have hoi := fun wx => implPacketOk src dst id ttl proto d wx
  have K := Rec6.new w1 (.int .u32 src) (.int .u32 dst) (.int .i64 id) (.int .i64 ttl) (.int .i64 proto) (.string d) 26
  replace G := G.alloc (.cells #[.int .u32 src, .int .u32 dst, .int .i64 id, .int .i64 ttl, .int .i64 proto, .string d] 26)
  unfold pktVal at hput hok hoi
  by_cases hk : pktOk id ttl proto d = true
  case neg =>
    rw [show pktOk id ttl proto d = false by simpa using hk] at hok hoi
    rw [putOf, if_neg hk] at hput
    clear hk hat3 hat4
    refine (hput _).mono ?_
    rintro _ z1 ⟨rfl, g1⟩
    replace K := K.since g1
    replace G := G.trans g1
    have K2 := K; obtain ⟨k0, k1, k2, k3, k4, k5, k6, k7⟩ := K2
    go_wp2_with (first | (go_at_call 8; refine (hok _).mono ?_; rintro _ z2 ⟨rfl, g2⟩; replace K := K.since g2; replace G := G.trans g2; have K2 := K; obtain ⟨k0, k1, k2, k3, k4, k5, k6, k7⟩ := K2) | (go_at_call 9; refine (hoi _).mono ?_; rintro _ z3 ⟨rfl, g3⟩; replace G := G.trans g3))
    go_ret
    exact ⟨rfl, G⟩
  rw [hk] at hok
  clear hoi
  have G1 := fun wx => getPut src dst id ttl proto d hsrc hdst hk wx
  obtain ⟨p1, p2, p3, p4, p5, p6, p7, p8⟩ := put_reads src dst id ttl proto d hsrc hdst hk
  have hkk := hk
  simp only [pktOk, Bool.and_eq_true, decide_eq_true_eq] at hkk
  obtain ⟨⟨i0, i1⟩, ⟨l0, l1⟩, ⟨r0, r1⟩, hz⟩ := hkk
  have htn : ∀ v3 v4 : Int, 0 ≤ v3 ∧ v3 ≤ 255 → 0 ≤ v4 ∧ v4 ≤ 255 → ¬ isPkt (turnOf (putOf src dst id ttl proto d) (v3 % 10) (1 + v4 * 200)) := by
    intro v3 v4 h3 h4
    obtain ⟨k, hk'⟩ := Int.eq_ofNat_of_zero_le (show 0 ≤ v3 % 10 by omega)
    rw [hk']
    exact turned_not _ p8 k (by omega) _ ⟨by omega, by omega⟩
  have htu := fun k x wx => implTurned (putOf src dst id ttl proto d) k x (by omega) wx
  have hlo := longer_not (putOf src dst id ttl proto d) ⟨#[120]⟩ p8 (by decide)
  have hadd := fun wx => addS (putOf src dst id ttl proto d) ⟨#[120]⟩ (by have : (ByteArray.mk #[120]).size = 1 := rfl; omega) wx
  have hsz : ((putOf src dst id ttl proto d).size : Int) = 20 + (d.size : Int) := by omega
  have hhop := fun wx => implHop (putOf src dst id ttl proto d) true (by simp [p8]) wx
  have hht : hopText (putOf src dst id ttl proto d) = putOf src dst id (ttl - 1) proto d := by rw [hopText, p2, p3, p4, p5, p6, p7]
  have G3 := fun wx => getBad _ hlo wx
  by_cases ht2 : 2 ≤ ttl
  · have hk2 : pktOk id (ttl - 1) proto d = true := by
      simp only [pktOk, Bool.and_eq_true, decide_eq_true_eq]
      exact ⟨⟨i0, i1⟩, ⟨by omega, by omega⟩, ⟨r0, r1⟩, hz⟩
    have G4 := fun wx => getPut src dst id (ttl - 1) proto d hsrc hdst hk2 wx
    rw [hopVal, if_pos ⟨rfl, by omega⟩, hht] at hhop
    have hgt : (1 : Int) < ttl := by omega
    have hw1 : IntKind.i64.wrap (ttl - 1) = ttl - 1 := by rw [IntWalk.i64_left]; exact IntWalk.wrap64_in _ ⟨by omega, by omega⟩
    generalize putOf src dst id (ttl - 1) proto d = q at hhop G4
    generalize putOf src dst id ttl proto d = S at hput G1 htn htu hadd hsz hhop G3
    generalize S ++ ⟨#[120]⟩ = S3 at hadd G3
    clear hk hk2 hht hlo p1 p2 p3 p4 p5 p6 p7 p8 hsrc hdst
    refine (hput _).mono ?_
    rintro _ z1 ⟨rfl, g1⟩
    replace K := K.since g1
    replace G := G.trans g1
    have K2 := K; obtain ⟨k0, k1, k2, k3, k4, k5, k6, k7⟩ := K2
    go_wp2_with (first | (go_at_call 8; refine (hok _).mono ?_; clear hok; rintro _ z2 ⟨rfl, g2⟩; replace K := K.since g2; replace G := G.trans g2; have K2 := K; obtain ⟨k0, k1, k2, k3, k4, k5, k6, k7⟩ := K2) | (go_at_call 10; refine (G1 _).mono ?_; clear G1; rintro _ z3 ⟨rfl, g9⟩; replace K := (K.since g9).since ((Since.refl _).alloc (.cells #[.int .u32 src, .int .u32 dst, .int .i64 id, .int .i64 ttl, .int .i64 proto, .string d] 26)); replace G := (G.trans g9).alloc (.cells #[.int .u32 src, .int .u32 dst, .int .i64 id, .int .i64 ttl, .int .i64 proto, .string d] 26); have K2 := K; obtain ⟨k0, k1, k2, k3, k4, k5, k6, k7⟩ := K2) | (go_at_call_of 12 (Value.int IntKind.i64 3); refine (hat3 _ G).mono ?_; rintro _ _ ⟨v3, rfl, h30, h31, rfl⟩; have hr3 := Int.tmod_eq_emod_of_nonneg (a := v3) (b := 10) h30) | (go_at_call_of 12 (Value.int IntKind.i64 4); refine (hat4 _ G).mono ?_; rintro _ _ ⟨v4, rfl, h40, h41, rfl⟩) | (go_at_call 11; refine (htu _ _ _).mono ?_; rintro _ z4 ⟨rfl, g4⟩; replace K := K.since g4; replace G := G.trans g4; have hT := htn v3 v4 ⟨h30, h31⟩ ⟨h40, h41⟩; clear htn htu; generalize turnOf S (v3 % 10) (1 + v4 * 200) = T at hT; have G2 := fun wx => getBad T hT wx) | (go_at_call 10; refine (G2 _).mono ?_; clear G2; rintro _ z5 ⟨rfl, g9⟩; replace K := (K.since g9).since ((Since.refl _).alloc (.cells #[.int .u32 0, .int .u32 0, .int .i64 0, .int .i64 0, .int .i64 0, .string ⟨#[]⟩] 26)); replace G := (G.trans g9).alloc (.cells #[.int .u32 0, .int .u32 0, .int .i64 0, .int .i64 0, .int .i64 0, .string ⟨#[]⟩] 26); have K2 := K; obtain ⟨k0, k1, k2, k3, k4, k5, k6, k7⟩ := K2) | (go_at_call 10; refine (G3 _).mono ?_; clear G3; rintro _ z6 ⟨rfl, g9⟩; replace K := (K.since g9).since ((Since.refl _).alloc (.cells #[.int .u32 0, .int .u32 0, .int .i64 0, .int .i64 0, .int .i64 0, .string ⟨#[]⟩] 26)); replace G := (G.trans g9).alloc (.cells #[.int .u32 0, .int .u32 0, .int .i64 0, .int .i64 0, .int .i64 0, .string ⟨#[]⟩] 26); have K2 := K; obtain ⟨k0, k1, k2, k3, k4, k5, k6, k7⟩ := K2) | (go_at_call 13; refine (hhop _).mono ?_; rintro _ z7 ⟨rfl, g7⟩; replace K := K.since g7; replace G := G.trans g7; have K2 := K; obtain ⟨k0, k1, k2, k3, k4, k5, k6, k7⟩ := K2) | (go_at_call 10; refine (G4 _).mono ?_; clear G4; rintro _ z8 ⟨rfl, g9⟩; replace K := (K.since g9).since ((Since.refl _).alloc (.cells #[.int .u32 src, .int .u32 dst, .int .i64 id, .int .i64 (ttl - 1), .int .i64 proto, .string d] 26)); replace G := (G.trans g9).alloc (.cells #[.int .u32 src, .int .u32 dst, .int .i64 id, .int .i64 (ttl - 1), .int .i64 proto, .string d] 26); have K2 := K; obtain ⟨k0, k1, k2, k3, k4, k5, k6, k7⟩ := K2))
    go_ret
    exact ⟨rfl, G⟩
  · rw [hopVal, if_neg (fun h => by omega)] at hhop
    have hgt : ¬ (1 : Int) < ttl := by omega
    generalize putOf src dst id ttl proto d = S at hput G1 htn htu hadd hsz hhop G3
    generalize S ++ ⟨#[120]⟩ = S3 at hadd G3
    clear hk hht hlo p1 p2 p3 p4 p5 p6 p7 p8 hsrc hdst
    refine (hput _).mono ?_
    rintro _ z1 ⟨rfl, g1⟩
    replace K := K.since g1
    replace G := G.trans g1
    have K2 := K; obtain ⟨k0, k1, k2, k3, k4, k5, k6, k7⟩ := K2
    go_wp2_with (first | (go_at_call 8; refine (hok _).mono ?_; clear hok; rintro _ z2 ⟨rfl, g2⟩; replace K := K.since g2; replace G := G.trans g2; have K2 := K; obtain ⟨k0, k1, k2, k3, k4, k5, k6, k7⟩ := K2) | (go_at_call 10; refine (G1 _).mono ?_; clear G1; rintro _ z3 ⟨rfl, g9⟩; replace K := (K.since g9).since ((Since.refl _).alloc (.cells #[.int .u32 src, .int .u32 dst, .int .i64 id, .int .i64 ttl, .int .i64 proto, .string d] 26)); replace G := (G.trans g9).alloc (.cells #[.int .u32 src, .int .u32 dst, .int .i64 id, .int .i64 ttl, .int .i64 proto, .string d] 26); have K2 := K; obtain ⟨k0, k1, k2, k3, k4, k5, k6, k7⟩ := K2) | (go_at_call_of 12 (Value.int IntKind.i64 3); refine (hat3 _ G).mono ?_; rintro _ _ ⟨v3, rfl, h30, h31, rfl⟩; have hr3 := Int.tmod_eq_emod_of_nonneg (a := v3) (b := 10) h30) | (go_at_call_of 12 (Value.int IntKind.i64 4); refine (hat4 _ G).mono ?_; rintro _ _ ⟨v4, rfl, h40, h41, rfl⟩) | (go_at_call 11; refine (htu _ _ _).mono ?_; rintro _ z4 ⟨rfl, g4⟩; replace K := K.since g4; replace G := G.trans g4; have hT := htn v3 v4 ⟨h30, h31⟩ ⟨h40, h41⟩; clear htn htu; generalize turnOf S (v3 % 10) (1 + v4 * 200) = T at hT; have G2 := fun wx => getBad T hT wx) | (go_at_call 10; refine (G2 _).mono ?_; clear G2; rintro _ z5 ⟨rfl, g9⟩; replace K := (K.since g9).since ((Since.refl _).alloc (.cells #[.int .u32 0, .int .u32 0, .int .i64 0, .int .i64 0, .int .i64 0, .string ⟨#[]⟩] 26)); replace G := (G.trans g9).alloc (.cells #[.int .u32 0, .int .u32 0, .int .i64 0, .int .i64 0, .int .i64 0, .string ⟨#[]⟩] 26); have K2 := K; obtain ⟨k0, k1, k2, k3, k4, k5, k6, k7⟩ := K2) | (go_at_call 10; refine (G3 _).mono ?_; clear G3; rintro _ z6 ⟨rfl, g9⟩; replace K := (K.since g9).since ((Since.refl _).alloc (.cells #[.int .u32 0, .int .u32 0, .int .i64 0, .int .i64 0, .int .i64 0, .string ⟨#[]⟩] 26)); replace G := (G.trans g9).alloc (.cells #[.int .u32 0, .int .u32 0, .int .i64 0, .int .i64 0, .int .i64 0, .string ⟨#[]⟩] 26); have K2 := K; obtain ⟨k0, k1, k2, k3, k4, k5, k6, k7⟩ := K2) | (go_at_call 13; refine (hhop _).mono ?_; rintro _ z7 ⟨rfl, g7⟩; replace K := K.since g7; replace G := G.trans g7; have K2 := K; obtain ⟨k0, k1, k2, k3, k4, k5, k6, k7⟩ := K2))
    go_ret
    exact ⟨rfl, G⟩
end Go.Proofs.Ytfohognpcipmaaa
