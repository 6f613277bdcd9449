/-
  Contracts of spec's InHeld and InRoom.
-/
import Derived.Test.YtpegfiogfcjofabInOkS
import Derived.Test.YtpegfiogfcjofabSpn
namespace Go.Proofs.Ytpegfiogfcjofab
open Go.ChangeShapes Go.WideShapes Go.ChangeAt Go.RowKit Go.Deep
set_option linter.unusedVariables false
set_option maxRecDepth 10000

theorem specInRoom (q : Int) (d : ByteArray) (r : Int) (a : Option Addr) (n cap : Nat) (ps : List (Int × ByteArray)) (g : Good q d r n ps) (w : World) (R : Rd shP w a n ps) :
    Calls Try.prog 13 #[inVal q d (.slice a n cap) r] w fun e w' => e = .returned (.int .i64 (inRoomN q d r ps)) ∧ Since w w' := by
  have ho := fun wx Rx => specInOk q d r a n cap ps g wx Rx
  have hd := g.hd
  have G : Since w (w.alloc (.cells #[.int .u32 q, .string d, .slice a n cap, .int .i64 r] 30)) := (Since.refl _).alloc _
  have A := Blk.new w #[.int .u32 q, .string d, .slice a n cap, .int .i64 r] 30
  have ho1 := ho _ (R.since G)
  clear ho
  unfold inRoomN
  cases hk : inOk q d r ps
  · rw [if_neg (by simp)]
    rw [hk] at ho1
    unfold inVal at *
    clear g R
    go_enter Try.func13, Try.ntmps13
    go_wp2_with (go_at_call 9; refine ho1.mono ?_; rintro _ w1 ⟨rfl, g1⟩)
    go_ret
    exact ⟨rfl, G.trans g1⟩
  · rw [if_pos rfl]
    rw [hk] at ho1
    obtain ⟨⟨h1, h2⟩, h3, _⟩ := inOk_room hk
    have hsub : IntKind.i64.wrap (r - (d.size : Int)) = r - (d.size : Int) := by rw [IntWalk.i64_left]; exact IntWalk.wrap64_in _ ⟨by omega, by omega⟩
    unfold inVal at *
    clear g R
    go_enter Try.func13, Try.ntmps13
    go_wp2_with (go_at_call 9; refine ho1.mono ?_; rintro _ w1 ⟨rfl, g1⟩; have c1 := (A.since g1).cell 1; have c3 := (A.since g1).cell 3; simp at c1 c3)
    go_ret
    exact ⟨rfl, G.trans g1⟩

set_option maxHeartbeats 1000000 in
theorem specInHeld (q : Int) (d : ByteArray) (r : Int) (a : Option Addr) (n cap : Nat) (ps : List (Int × ByteArray)) (g : Good q d r n ps) (w : World) (R : Rd shP w a n ps) :
    Calls Try.prog 21 #[inVal q d (.slice a n cap) r] w fun e w' => e = .returned (.int .i64 (inHeld q d r ps)) ∧ Since w w' := by
  have ho := fun wx Rx => specInOk q d r a n cap ps g wx Rx
  have hlen := R.len
  have G : Since w (w.alloc (.cells #[.int .u32 q, .string d, .slice a n cap, .int .i64 r] 30)) := (Since.refl _).alloc _
  have A := Blk.new w #[.int .u32 q, .string d, .slice a n cap, .int .i64 r] 30
  have ho1 := ho _ (R.since G)
  clear ho
  unfold inHeld
  cases hk : inOk q d r ps
  · rw [if_neg (by simp)]
    rw [hk] at ho1
    unfold inVal at *
    clear g R
    go_enter Try.func21, Try.ntmps21
    go_wp2_with (go_at_call 9; refine ho1.mono ?_; rintro _ w1 ⟨rfl, g1⟩)
    go_ret
    exact ⟨rfl, G.trans g1⟩
  · rw [if_pos rfl]
    rw [hk] at ho1
    unfold inVal at *
    obtain ⟨hq, hd, hr, hn, hp⟩ := g
    go_enter Try.func21, Try.ntmps21
    go_wp2_with (go_at_call 9; refine ho1.mono ?_; rintro _ w1 ⟨rfl, g1⟩)
    go_loopw [3, 4] (fun v i wr => ∃ (k : Nat) (s : Int), k ≤ n ∧ i = .int .i64 k ∧ v = .int .i64 s ∧ 0 ≤ s ∧ s ≤ k * 1048576 ∧ Hid (s = sumS ((spans q ps).take k)) ∧ w1 = wr) (fun _ i _ => n - (intOf i).toNat)
    case atStart => exact ⟨0, 0, by omega, rfl, rfl, by omega, by omega, by simp [sumS, Hid], rfl⟩
    case round =>
      obtain ⟨k, s, hk, rfl, rfl, hs0, hs1, hsum, rfl⟩ := hrel
      have c2 := (A.since g1).cell 2
      simp at c2
      by_cases hlt : k < n
      · have hlt' : (k : Int) < (n : Int) := by omega
        obtain ⟨x, rfl, hb, p0, p1⟩ := (R.since (G.trans g1)).prt k hlt
        obtain ⟨hp1, hp2⟩ := hp k hlt
        have hnx := sumS_next (spans q ps) k (by rw [spans_len]; omega)
        rw [← hsum.out, spans_at q ps k (by omega)] at hnx
        unfold spn at hnx
        generalize pAt ps k = O at p0 p1 hp1 hp2 hnx
        simp only at hnx
        rw [show distI q O.1 + (O.2.size : Int) - distI q O.1 = (O.2.size : Int) by omega] at hnx
        have hw2 : IntKind.i64.wrap (s + (O.2.size : Int)) = s + (O.2.size : Int) := by rw [IntWalk.i64_left]; exact IntWalk.wrap64_in _ ⟨by omega, by omega⟩
        replace hnx : Hid _ := hnx
        clear hp R hsum
        go_wp2
        go_roundw
        case rel => exact ⟨k + 1, s + O.2.size, by omega, by go_num, rfl, by omega, by omega, hnx.out.symm, by trivial⟩
        case measure => simp [intOf]; omega
      · have hkn : k = n := by omega
        subst hkn
        have h := hsum.out
        rw [List.take_of_length_le (by rw [spans_len]; omega)] at h
        subst h
        clear hp R hsum
        go_wp2
        go_ret
        exact ⟨rfl, G.trans g1⟩
end Go.Proofs.Ytpegfiogfcjofab
