/-
  Contract of impl's laid.
-/
import Derived.Test.YtmgaikpninblgaaJoin
import Derived.Test.YtmgaikpninblgaaDrawnTail
namespace Go.Proofs.Ytmgaikpninblgaa
open Go.ChangeShapes Go.WideShapes Go.ChangeAt Go.RowKit Go.Deep
set_option linter.unusedVariables false
set_option maxRecDepth 10000

theorem lay_take (q : Int) (ps : List (Int × ByteArray)) (k : Nat) (h : k < ps.length) (f : Nat → Int) : lay q (ps.take (k + 1)) f = over (lay q (ps.take k) f) (distI q (pAt ps k).1).toNat (pAt ps k).2.size (byteAt (pAt ps k).2) := by
  rw [shP.take_next ps k h, lay_snoc]
  rfl

set_option maxHeartbeats 2000000 in
theorem laid (q : Int) (d : ByteArray) (r : Int) (a : Option Addr) (n cap : Nat) (ps : List (Int × ByteArray)) (gd : Good q d r n ps) (hok : inOk q d r ps = true) (W cf ct cp : Nat) (ad : Addr) (g : Nat → Int) (hW : r - d.size = (W : Int)) (hc1 : cf < ct) (hc2 : ct ≤ W) (w : World) (R : Rd shP w a n ps)
    (hsrc : ∀ j, j < ct - cf → w.cell? (ad.add j) = some (.int .u8 (g j))) (had : ad.block < w.heap.size) :
    Calls Try.prog 34 #[inVal q d (.slice a n cap) r, spVal (cf, ct), .slice (some ad) (ct - cf) cp] w fun e w' => ∃ c, e = .returned (.slice (some ⟨c, 0, none⟩) W W) ∧ Byt w' c W (lay q ps (over (fun _ => 0) cf (ct - cf) g)) ∧ w.heap.size ≤ c ∧ Since w w' := by
  obtain ⟨⟨hr1, hr2⟩, hr3, hkb⟩ := inOk_room hok
  obtain ⟨hq, hd, hr, hn, hp⟩ := gd
  have hlen := R.len
  have hroom := fun wx => inRoom q d (.slice a n cap) r hd (by omega) wx
  rw [hW] at hroom
  unfold inVal spVal at *
  simp only at *
  have G : Since w ((w.alloc (.cells #[.int .u32 q, .string d, .slice a n cap, .int .i64 r] 31)).alloc (.cells #[.int .i64 (cf : Int), .int .i64 (ct : Int)] 55)) := ((Since.refl _).alloc _).alloc _
  have A := (Blk.new w #[.int .u32 q, .string d, .slice a n cap, .int .i64 r] 31).since ((Since.refl _).alloc (.cells #[.int .i64 (cf : Int), .int .i64 (ct : Int)] 55))
  have B := Blk.new (w.alloc (.cells #[.int .u32 q, .string d, .slice a n cap, .int .i64 r] 31)) #[.int .i64 (cf : Int), .int .i64 (ct : Int)] 55
  simp only [World.size_alloc] at B
  obtain ⟨ii, hi, hz0, hz1, hz2⟩ := info_parts info_B
  obtain ⟨F, hF⟩ : ∃ F, Hid (over (fun _ => 0) cf (ct - cf) g = F) := ⟨_, rfl⟩
  rw [hF.out]
  have hsrc2 : ∀ wx, Since w wx → ∀ j, j < ct - cf → wx.cell? (ad.add j) = some (.int .u8 (g j)) := fun wx hx j hj => (Below.cell hx (p := ad.add j) (by rw [add_block]; exact had)).trans (hsrc j hj)
  replace hsrc2 : Hid _ := hsrc2
  replace hkb : Hid _ := hkb
  clear hsrc hok
  go_enter Try.func34, Try.ntmps34
  go_wp2_with (first | (go_at_call 29; refine (hroom _).mono ?_; rintro _ w1 ⟨rfl, g1⟩; have hsz := g1.le; simp at hsz) | (refine wpList_make_full _ rfl (.tmp 11) (.tmp 11) 22 rfl (w.heap.size + 2) 5 ii (.int .u8 0) 1 Try.underlying22 hi hz0 hz1 .i64 .i64 _ _ W rfl rfl rfl rfl ?c1 ?c2 ?c3 ?_))
  case c1 => rw [hz2]; omega
  case c2 => unfold maxLen; omega
  case c3 => omega
  intro w2 hown hgrow
  have C2 : Byt w2 w1.heap.size W (fun _ => 0) := made_byt (B := w.heap.size + 2) (by rw [Nat.mul_one]; exact hown)
  have S2 : Since w1 w2 := ⟨hgrow.os, hgrow.tape, hgrow.output, hgrow.size, fun k hk => hgrow.block k hk (by simp)⟩
  have S12 := g1.trans S2
  have b0 := (B.since S12).cell 0
  simp at b0
  obtain ⟨c, hc⟩ : ∃ c, w1.heap.size = c := ⟨_, rfl⟩
  rw [hc] at C2 ⊢
  have hcw : w.heap.size + 2 ≤ c := by omega
  clear hown
  have hmin : ct - cf = Nat.min (ct - cf) (W - cf) := (Nat.min_eq_left (by omega)).symm
  replace hmin : Hid _ := hmin
  have hcW : ¬ W = cf := by omega
  have hs2 := hsrc2.out w2 (G.trans S12)
  replace hs2 : Hid _ := hs2
  have Rw := R.since G
  have aa2 := (A.since S12).cell 2
  simp at aa2
  go_wp2_with (refine copy_byt rfl (.tmp 16) (.tmp 17) rfl C2 (off := cf) (g := g) (some ⟨c, cf, none⟩) (some ad) (W - cf) (W - cf) (ct - cf) cp (ct - cf) rfl rfl hmin.out (fun _ => ⟨rfl, _, rfl, hs2.out⟩) (by omega) ?_; intro w3 C3 t3; have A3 := (A.since S12).touch t3 (by omega); have a2 := A3.cell 2; simp at a2)
  rw [hF.out] at C3
  have S3 := S12.touch t3 (by simp; omega)
  clear b0 aa2 hs2 hsrc2 a2 A3
  go_loopw [22] (fun i wr => ∃ (k : Nat), k ≤ n ∧ i = .int .i64 k ∧ Byt wr c W (lay q (ps.take k) F) ∧ Since ((w.alloc (.cells #[.int .u32 q, .string d, .slice a n cap, .int .i64 r] 31)).alloc (.cells #[.int .i64 (cf : Int), .int .i64 (ct : Int)] 55)) wr) (fun i _ => n - (intOf i).toNat)
  case atStart => exact ⟨0, by omega, rfl, by rw [List.take_zero]; exact C3, S3⟩
  case round =>
    obtain ⟨k, hk, rfl, C, S⟩ := hrel
    by_cases hlt : k < n
    · have hlt' : (k : Int) < (n : Int) := by omega
      obtain ⟨x, rfl, hb, p0, p1⟩ := (Rw.since S).prt k hlt
      obtain ⟨hp1, hp2⟩ := hp k hlt
      have hat := okB_at _ _ _ k hkb.out (by rw [spans_len]; omega)
      rw [spans_at q ps k (by omega)] at hat
      have hlay := lay_take q ps k (by omega) F
      have hdist := fun wx => implDist q (pAt ps k).1 (distI q (pAt ps k).1) hq hp1 (distI_is _ _) wx
      generalize pAt ps k = O at p0 p1 hp1 hp2 hlay hdist hat
      unfold spn at hat
      simp only at hat
      obtain ⟨tn, htn⟩ := Int.eq_ofNat_of_zero_le (show 0 ≤ distI q O.1 by omega)
      rw [htn] at hlay hdist hat
      rw [show ((tn : Nat) : Int).toNat = tn by omega] at hlay
      replace hlay : Hid _ := hlay
      have htW : tn + O.2.size ≤ W := by omega
      have htn2 : tn < W := by omega
      have htn3 : ¬ W = tn := by omega
      have htn4 : tn ≤ W := by omega
      have X := Blk.new wr #[.int .u32 O.1, .string O.2] 68
      have SY := S.alloc (.cells #[.int .u32 O.1, .string O.2] 68)
      have CY := C.since ((Since.refl wr).alloc (.cells #[.int .u32 O.1, .string O.2] 68))
      have AY := A.since SY
      clear htn hat
      go_wp2
      obtain ⟨Y, hY⟩ : ∃ Y, wr.alloc (.cells #[.int .u32 O.1, .string O.2] 68) = Y := ⟨_, rfl⟩
      rw [hY] at X SY CY AY ⊢
      clear hY p0 p1 hp R Rw
      refine wp_region_tail (wb := Y) 9 (fun i x v => match i with
          | 0 => v = .slice (some ⟨c, 0, none⟩) W W
          | 1 => v = .pointer (some ⟨w.heap.size, 0, none⟩)
          | 2 => v = .int .u32 q
          | 3 => v = .pointer (some ⟨wr.heap.size, 0, none⟩)
          | 4 => v = .int .u32 O.1
          | 5 => v = .int .i64 tn
          | 6 => v = .slice (some ⟨c, tn, none⟩) (W - tn) (W - tn)
          | 7 => v = .pointer (some ⟨wr.heap.size, 1, none⟩)
          | 8 => v = .string O.2
          | _ => True) (fun v => { tmps := #[Value.agg #[Value.int IntKind.u32 q, Value.string d, Value.slice (some x) n cap, Value.int IntKind.i64 r], Value.agg #[Value.int IntKind.i64 (cf : Int), Value.int IntKind.i64 (ct : Int)], Value.slice (some ad) (ct - cf) cp, Value.pointer (some ⟨w.heap.size, 0, none⟩), Value.pointer (some ⟨w.heap.size + 1, 0, none⟩), undef, Value.slice none 0 0, Value.slice (some ⟨c, 0, none⟩) W W, undef, Value.pointer (some ⟨wr.heap.size, 0, none⟩), Value.agg #[Value.int IntKind.u32 q, Value.string d, Value.slice (some x) n cap, Value.int IntKind.i64 r], Value.int IntKind.i64 (W : Int), Value.slice (some ⟨c, 0, none⟩) W W, Value.slice (some ⟨c, 0, none⟩) W W, Value.pointer (some ⟨w.heap.size + 1, 0, none⟩), Value.int IntKind.i64 (cf : Int), Value.slice (some ⟨c, cf, none⟩) (W - cf) (W - cf), Value.slice (some ad) (ct - cf) cp, Value.int IntKind.i64 ((ct - cf : Nat) : Int), Value.pointer (some ⟨w.heap.size, 2, none⟩), Value.slice (some x) n cap, Value.int IntKind.i64 (n : Int), Value.int IntKind.i64 (k : Int), Value.bool true, Value.pointer (some (x.add (k * 2))), Value.agg #[Value.int IntKind.u32 O.fst, Value.string O.snd], v 0, v 1, v 2, v 3, v 4, v 5, v 6, v 7, v 8, u35, u36, undef], defers := [] }) (by kernel_rfl) (by kernel_rfl) (by kernel_rfl) (Since.refl _) ?_ (fun vals => by kernel_rfl) ?_ ?_
      case refine_1 =>
        intro j x x' v h1 h2
        match j, h2 with
        | 0, h2 | 1, h2 | 2, h2 | 3, h2 | 4, h2 | 5, h2 | 6, h2 | 7, h2 | 8, h2 => exact h2
        | n + 9, _ => trivial
      case refine_2 =>
        repeat (first | exact eachDoes_nil | refine eachDoes_cons ?_ ?_)
        all_goals intro vals x hx hv
        all_goals simp [Region.binds] at hv
        · have e1 := (X.since hx).cell 1
          simp at e1
          simp [does, doesUpon, go_sem, hv, e1, Since.refl]
        · simp [does, doesUpon, go_sem, Since.refl]
        · obtain ⟨h0, h5⟩ := hv
          simp [does, doesUpon, go_sem, h0, h5, Since.refl, htn3, htn4]
        · obtain ⟨h2, h4⟩ := hv
          simp [does, doesUpon, go_sem, h2, h4]
          refine (hdist x).mono ?_
          rintro _ _ ⟨rfl, rfl⟩
          simp [Since.refl]
        · have e0 := (X.since hx).cell 0
          simp at e0
          simp [does, doesUpon, go_sem, hv, e0, Since.refl]
        · simp [does, doesUpon, go_sem, Since.refl]
        · have e0 := (AY.since hx).cell 0
          simp at e0
          simp [does, doesUpon, go_sem, hv, e0, Since.refl]
        · simp [does, doesUpon, go_sem, Since.refl]
        · simp [does, doesUpon, go_sem, Since.refl]
      case refine_3 =>
        intro vals x hx hv
        have h6 : vals 6 = _ := hv 6 (by decide)
        have h8 : vals 8 = _ := hv 8 (by decide)
        clear hv
        simp only [h6, h8]
        generalize vals 0 = v0
        generalize vals 1 = v1
        generalize vals 2 = v2
        generalize vals 3 = v3
        generalize vals 4 = v4
        generalize vals 5 = v5
        generalize vals 7 = v7
        have CY2 := CY.since hx
        simp only [List.drop_succ_cons, List.drop_zero]
        go_wp2_with (refine copy_text rfl (.tmp 32) (.tmp 34) rfl CY2 (W - tn) (W - tn) O.2 rfl rfl (by omega) (by omega) ?_)
        intro w5 C5 t5
        rw [← hlay.out] at C5
        have S5 := (SY.trans hx).touch t5 (by simp; omega)
        go_wp2
        go_roundw
        case rel => exact ⟨k + 1, by omega, by go_num, C5, S5⟩
        case measure => simp [intOf]; omega
    · have hkn : k = n := by omega
      rw [List.take_of_length_le (by omega)] at C
      clear hp R Rw
      go_wp2
      go_ret
      exact ⟨c, rfl, C, by omega, G.trans S⟩
end Go.Proofs.Ytmgaikpninblgaa
