/-
  Contract of spec's GetSeg, at every text of at most 1048576 bytes.
-/
import Derived.Test.YtneicghhggidnabGetSegI
import Derived.Test.YtneicghhggidnabSpecPutSeg
import Derived.Test.YtneicghhggidnabHalves10
namespace Go.Proofs.Ytneicghhggidnab
open Go.ChangeShapes Go.WideShapes Go.ChangeAt Go.RowKit
set_option linter.unusedVariables false

theorem specGetSegShort (src dst : Int) (s : ByteArray) (hs : s.size < 20) (w : World) :
    Calls Try.prog 19 #[.int .u32 src, .int .u32 dst, .string s] w fun e w' => e = .returned (.tuple #[segZero, .bool false]) ∧ Since w w' := by
  have h1 : (s.size : Int) < 20 := by omega
  go_enter Try.func19, Try.ntmps19
  go_wp2
  refine bodyPost_ret (v := .tuple #[segZero, .bool false]) ?_ rfl ⟨rfl, by repeat (first | exact Since.refl _ | apply Since.drew | apply Since.alloc)⟩
  simp [results, go_sem, segZero, segVal]

set_option maxHeartbeats 4000000 in
theorem specGetSegLong (src dst : Int) (s : ByteArray) (hsr : IsWord src) (hds : IsWord dst) (hs : 20 ≤ s.size) (hm : s.size ≤ 1048576) (ms : Int) (at_ : Nat)
    (hcase : (byteAt s 12 = 96 ∧ 24 ≤ s.size ∧ ms = halfAt s 22 ∧ at_ = 24) ∨ (¬ (byteAt s 12 = 96 ∧ 24 ≤ s.size) ∧ ms = 0 ∧ at_ = 20)) (ans : Value)
    (hyes : putSeg src dst (halfAt s 0) (halfAt s 2) (wordAt s 4) (wordAt s 8) (byteAt s 13) (halfAt s 14) ms (s.extract at_ s.size) = s → ans = .tuple #[segVal (halfAt s 0) (halfAt s 2) (wordAt s 4) (wordAt s 8) (byteAt s 13) (halfAt s 14) ms (s.extract at_ s.size), .bool true])
    (hno : putSeg src dst (halfAt s 0) (halfAt s 2) (wordAt s 4) (wordAt s 8) (byteAt s 13) (halfAt s 14) ms (s.extract at_ s.size) ≠ s → ans = .tuple #[segZero, .bool false]) (w : World) :
    Calls Try.prog 19 #[.int .u32 src, .int .u32 dst, .string s] w fun e w' => e = .returned ans ∧ Since w w' := by
  have h1 : ¬ (s.size : Int) < 20 := by omega
  have g4 : ∀ wx, Calls Try.prog 36 #[.string s, .int .i64 4] wx fun e w' => e = .returned (.int .u32 (wordAt s 4)) ∧ Since wx w' := fun wx => by
    have h := specGetIn s 4 (by omega) hm wx
    rw [← byteAt_in s 4 (by omega), ← byteAt_in s (4 + 1) (by omega), ← byteAt_in s (4 + 2) (by omega), ← byteAt_in s (4 + 3) (by omega)] at h
    exact h.mono fun _ _ ⟨h1, h2⟩ => ⟨h1, Since.of h2⟩
  have g8 : ∀ wx, Calls Try.prog 36 #[.string s, .int .i64 8] wx fun e w' => e = .returned (.int .u32 (wordAt s 8)) ∧ Since wx w' := fun wx => by
    have h := specGetIn s 8 (by omega) hm wx
    rw [← byteAt_in s 8 (by omega), ← byteAt_in s (8 + 1) (by omega), ← byteAt_in s (8 + 2) (by omega), ← byteAt_in s (8 + 3) (by omega)] at h
    exact h.mono fun _ _ ⟨h1, h2⟩ => ⟨h1, Since.of h2⟩
  have hh := fun wx => halves10 s hs hm wx
  have R := Rec8.new w (.int .i64 0) (.int .i64 0) (.int .u32 0) (.int .u32 0) (.int .i64 0) (.int .i64 0) (.int .i64 0) (.string ⟨#[]⟩) 31
  have HB : Since w (w.alloc (.cells #[.int .i64 0, .int .i64 0, .int .u32 0, .int .u32 0, .int .i64 0, .int .i64 0, .int .i64 0, .string ⟨#[]⟩] 31)) := (Since.refl _).alloc _
  go_enter Try.func19, Try.ntmps19
  go_wp2_with (go_at_call 37; refine (hh _).mono ?_; rintro _ wb ⟨gb, cb, rfl, hgb, hgc, g⟩)
  replace R := R.since g
  replace HB := HB.trans g
  have hsz : w.heap.size < wb.heap.size := R.lt
  clear g hh
  have r13 := byteAt_range s 13
  have m13 : IntKind.i64.wrap (byteAt s 13) = byteAt s 13 := by rw [IntWalk.i64_left]; exact IntWalk.wrap64_in _ ⟨by omega, by omega⟩
  have e13 := byteAt_in s 13 (by omega)
  have q13 : (13 : Int) < (s.size : Int) := by omega
  have hcx : ∀ x, Since wb x → x.cell? ⟨gb, 0, none⟩ = some (.int .i64 (halfAt s 0)) ∧ x.cell? ⟨gb, 1, none⟩ = some (.int .i64 (halfAt s 2)) ∧ x.cell? ⟨gb, 7, none⟩ = some (.int .i64 (halfAt s 14)) := fun x h =>
    ⟨(Below.cell h (p := ⟨gb, 0, none⟩) hgb).trans (hgc 0 (by omega)), (Below.cell h (p := ⟨gb, 1, none⟩) hgb).trans (hgc 1 (by omega)), (Below.cell h (p := ⟨gb, 7, none⟩) hgb).trans (hgc 7 (by omega))⟩
  refine wp_region_tail (wb := wb) 18 (fun i x v => match i with
        | 0 => v = .slice (some ⟨gb, 0, none⟩) 10 cb
        | 1 => v = .pointer (some ⟨gb, 0, none⟩)
        | 2 => v = .int .i64 (halfAt s 0)
        | 3 => v = .slice (some ⟨gb, 0, none⟩) 10 cb
        | 4 => v = .pointer (some ⟨gb, 1, none⟩)
        | 5 => v = .int .i64 (halfAt s 2)
        | 6 => v = .string s
        | 7 => v = .int .u32 (wordAt s 4)
        | 8 => v = .string s
        | 9 => v = .int .u32 (wordAt s 8)
        | 10 => v = .string s
        | 11 => v = .int .u8 (byteAt s 13)
        | 12 => v = .int .i64 (byteAt s 13)
        | 13 => v = .slice (some ⟨gb, 0, none⟩) 10 cb
        | 14 => v = .pointer (some ⟨gb, 7, none⟩)
        | 15 => v = .int .i64 (halfAt s 14)
        | 16 => v = .agg #[.int .i64 (halfAt s 0), .int .i64 (halfAt s 2), .int .u32 (wordAt s 4), .int .u32 (wordAt s 8), .int .i64 (byteAt s 13), .int .i64 (halfAt s 14), .int .i64 0, .string ⟨#[]⟩]
        | 17 => newSeg wb.heap.size x v
        | _ => True) (fun v => { tmps := #[.int .u32 src, .int .u32 dst, .string s, undef, undef, undef, .pointer (some ⟨w.heap.size, 0, none⟩), .bool false, .slice (some ⟨gb, 0, none⟩) 10 cb, v 17, undef, .string s, .int .i64 (s.size : Int), .bool false, undef, .string s, .slice (some ⟨gb, 0, none⟩) 10 cb, v 0, v 1, v 2, v 3, v 4, v 5, v 6, v 7, v 8, v 9, v 10, v 11, v 12, v 13, v 14, v 15, v 16, undef, undef, undef, undef, undef, undef, undef, undef, undef, undef, undef, undef, undef, undef, undef, undef, undef, undef, undef, undef, undef, undef, undef, undef, undef, undef, undef, undef, undef, undef, undef], defers := [] }) (by kernel_rfl) (by kernel_rfl) (by kernel_rfl) (Since.refl _) ?_ (fun vals => by kernel_rfl) ?_ ?_
  case refine_1 =>
    intro j x x' v h1 h2
    match j, h2 with
    | 17, h2 => exact newSeg_since h1 h2
    | 0, h2 | 1, h2 | 2, h2 | 3, h2 | 4, h2 | 5, h2 | 6, h2 | 7, h2 | 8, h2 | 9, h2 | 10, h2 | 11, h2 | 12, h2 | 13, h2 | 14, h2 | 15, h2 | 16, h2 => exact h2
    | n + 18, _ => trivial
  case refine_2 =>
    simp only [List.take_succ_cons, List.take_zero]
    repeat (first | exact eachDoes_nil | refine eachDoes_cons ?_ ?_)
    all_goals intro vals x hx hv
    all_goals obtain ⟨c0, c1, c7⟩ := hcx x hx
    all_goals try simp [Region.binds] at hv
    all_goals first
      | (simp [does, doesUpon, go_sem, hv, Since.refl, m13, c0, c1, c7]; done)
      | (simp [does, doesUpon, go_sem, hv, Since.refl, e13, q13]; done)
      | (simp [does, doesUpon, go_sem, hv]; go_at_call_of 36 (Value.int IntKind.i64 4); refine (g4 x).mono ?_; rintro _ x' ⟨rfl, h1⟩; exact ⟨rfl, h1⟩)
      | (simp [does, doesUpon, go_sem, hv]; go_at_call_of 36 (Value.int IntKind.i64 8); refine (g8 x).mono ?_; rintro _ x' ⟨rfl, h1⟩; exact ⟨rfl, h1⟩)
      | (simp [does, doesUpon, go_sem]; exact ⟨(Since.refl _).alloc _, newSeg_new x (Since.le hx) _⟩)
  case refine_3 =>
    intro vals x hx hv
    have h0 : vals 0 = _ := hv 0 (by decide)
    have h1 : vals 1 = _ := hv 1 (by decide)
    have h2 : vals 2 = _ := hv 2 (by decide)
    have h3 : vals 3 = _ := hv 3 (by decide)
    have h4 : vals 4 = _ := hv 4 (by decide)
    have h5 : vals 5 = _ := hv 5 (by decide)
    have h6 : vals 6 = _ := hv 6 (by decide)
    have h7 : vals 7 = _ := hv 7 (by decide)
    have h8 : vals 8 = _ := hv 8 (by decide)
    have h9 : vals 9 = _ := hv 9 (by decide)
    have h10 : vals 10 = _ := hv 10 (by decide)
    have h11 : vals 11 = _ := hv 11 (by decide)
    have h12 : vals 12 = _ := hv 12 (by decide)
    have h13 : vals 13 = _ := hv 13 (by decide)
    have h14 : vals 14 = _ := hv 14 (by decide)
    have h15 : vals 15 = _ := hv 15 (by decide)
    have h16 : vals 16 = _ := hv 16 (by decide)
    have h17 : newSeg wb.heap.size x (vals 17) := hv 17 (by decide)
    clear hv
    obtain ⟨b, h17, hB, hr⟩ := h17
    simp only [h0, h1, h2, h3, h4, h5, h6, h7, h8, h9, h10, h11, h12, h13, h14, h15, h16, h17, List.drop_succ_cons, List.drop_zero]
    clear h0 h1 h2 h3 h4 h5 h6 h7 h8 h9 h10 h11 h12 h13 h14 h15 h16 h17 m13 e13 q13 r13 g4 g8 hcx hgc hgb
    have R1 := R.since hx
    have hne : w.heap.size ≠ b := by omega
    have hne' : ¬ b = w.heap.size := fun h => hne h.symm
    have hwl : w.heap.size ≤ b := by omega
    have HX : Since w x := HB.trans hx
    clear HB hx R hB hsz
    have y0 := hr.stored (.int .i64 (halfAt s 0)) (.int .i64 (halfAt s 2)) (.int .u32 (wordAt s 4)) (.int .u32 (wordAt s 8)) (.int .i64 (byteAt s 13)) (.int .i64 (halfAt s 14)) (.int .i64 0) (.string ⟨#[]⟩)
    have yR := R1.other8 hne (.int .i64 (halfAt s 0)) (.int .i64 (halfAt s 2)) (.int .u32 (wordAt s 4)) (.int .u32 (wordAt s 8)) (.int .i64 (byteAt s 13)) (.int .i64 (halfAt s 14)) (.int .i64 0) (.string ⟨#[]⟩)
    have HY := since_stored HX hwl (.int .i64 (halfAt s 0)) (.int .i64 (halfAt s 2)) (.int .u32 (wordAt s 4)) (.int .u32 (wordAt s 8)) (.int .i64 (byteAt s 13)) (.int .i64 (halfAt s 14)) (.int .i64 0) (.string ⟨#[]⟩)
    unfold stored8 at y0 yR HY
    obtain ⟨y, hy⟩ : ∃ y, ((((((((x.setCell ⟨b, 0, none⟩ (.int .i64 (halfAt s 0))).setCell ⟨b, 1, none⟩ (.int .i64 (halfAt s 2))).setCell ⟨b, 2, none⟩ (.int .u32 (wordAt s 4))).setCell ⟨b, 3, none⟩ (.int .u32 (wordAt s 8))).setCell ⟨b, 4, none⟩ (.int .i64 (byteAt s 13))).setCell ⟨b, 5, none⟩ (.int .i64 (halfAt s 14))).setCell ⟨b, 6, none⟩ (.int .i64 0)).setCell ⟨b, 7, none⟩ (.string ⟨#[]⟩)) = y := ⟨_, rfl⟩
    rw [hy] at y0 yR HY
    obtain ⟨b0, b1, b2, b3, b4, b5, b6, b7, b8, b9⟩ := hr
    clear R1
    rw [wpList, if_pos (by simp [Region.wanted])]
    refine .inl ?_
    unfold Oper.wp
    simp [go_sem, b1, b2, b3, b4, b5, b6, b7, b8, b9]
    rw [hy]
    clear hy b0 b1 b2 b3 b4 b5 b6 b7 b8 b9
    have e12 := byteAt_in s 12 (by omega)
    have q12 : (12 : Int) < (s.size : Int) := by omega
    have q20 : (20 : Int) ≤ (s.size : Int) := by omega
    rcases hcase with ⟨h96, h24, rfl, rfl⟩ | ⟨hcs, rfl, rfl⟩
    · have t96 : ((s[12].toNat : Int) == 96) = true := by rw [← e12, h96]; rfl
      have h24' : (24 : Int) ≤ (s.size : Int) := by omega
      clear h96 e12
      have r22 := byteAt_range s 22
      have r23 := byteAt_range s 23
      have e22 := byteAt_in s 22 (by omega)
      have e23 := byteAt_in s 23 (by omega)
      have q22 : (22 : Int) < (s.size : Int) := by omega
      have q23 : (23 : Int) < (s.size : Int) := by omega
      have m0 : IntKind.i64.wrap (byteAt s 22) = byteAt s 22 := by rw [IntWalk.i64_left]; exact IntWalk.wrap64_in _ ⟨by omega, by omega⟩
      have m1 : IntKind.i64.wrap (byteAt s 23) = byteAt s 23 := by rw [IntWalk.i64_left]; exact IntWalk.wrap64_in _ ⟨by omega, by omega⟩
      have m2 : IntKind.i64.wrap (256 * byteAt s 22) = 256 * byteAt s 22 := by rw [IntWalk.i64_left]; exact IntWalk.wrap64_in _ ⟨by omega, by omega⟩
      have m3 : IntKind.i64.wrap (256 * byteAt s 22 + byteAt s 23) = halfAt s 22 := by
        rw [IntWalk.i64_left, IntWalk.wrap64_in _ ⟨by omega, by omega⟩, show halfAt s 22 = byteAt s 22 * 256 + byteAt s 23 from rfl]
        omega
      have hput := fun wx => specPutSeg src dst (halfAt s 0) (halfAt s 2) (wordAt s 4) (wordAt s 8) (byteAt s 13) (halfAt s 14) (halfAt s 22) (s.extract 24 s.size) hsr hds (word_range s 4) (word_range s 8) (byte_int s 13) wx
      unfold segVal at hput
      generalize hT : putSeg src dst (halfAt s 0) (halfAt s 2) (wordAt s 4) (wordAt s 8) (byteAt s 13) (halfAt s 14) (halfAt s 22) (s.extract 24 s.size) = T at hput hyes hno
      go_wp2
      refine wp_region_tail (wb := y) 9 (fun i x v => match i with
            | 0 => v = .string s
            | 1 => v = .int .u8 (byteAt s 22)
            | 2 => v = .int .i64 (byteAt s 22)
            | 3 => v = .int .i64 (256 * byteAt s 22)
            | 4 => v = .string s
            | 5 => v = .int .u8 (byteAt s 23)
            | 6 => v = .int .i64 (byteAt s 23)
            | 7 => v = .int .i64 (halfAt s 22)
            | 8 => v = .pointer (some ⟨b, 6, none⟩)
            | _ => True) (fun v => { tmps := #[.int .u32 src, .int .u32 dst, .string s, undef, undef, undef, .pointer (some ⟨w.heap.size, 0, none⟩), .bool false, .slice (some ⟨gb, 0, none⟩) 10 cb, .pointer (some ⟨b, 0, none⟩), .int .i64 20, .string s, .int .i64 (s.size : Int), .bool false, undef, .string s, .slice (some ⟨gb, 0, none⟩) 10 cb, .slice (some ⟨gb, 0, none⟩) 10 cb, .pointer (some ⟨gb, 0, none⟩), .int .i64 (halfAt s 0), .slice (some ⟨gb, 0, none⟩) 10 cb, .pointer (some ⟨gb, 1, none⟩), .int .i64 (halfAt s 2), .string s, .int .u32 (wordAt s 4), .string s, .int .u32 (wordAt s 8), .string s, .int .u8 (byteAt s 13), .int .i64 (byteAt s 13), .slice (some ⟨gb, 0, none⟩) 10 cb, .pointer (some ⟨gb, 7, none⟩), .int .i64 (halfAt s 14), .agg #[.int .i64 (halfAt s 0), .int .i64 (halfAt s 2), .int .u32 (wordAt s 4), .int .u32 (wordAt s 8), .int .i64 (byteAt s 13), .int .i64 (halfAt s 14), .int .i64 0, .string ⟨#[]⟩], .string s, .int .u8 (s[12].toNat : Int), .bool true, .bool true, .string s, .int .i64 (s.size : Int), .bool true, .bool true, v 0, v 1, v 2, v 3, v 4, v 5, v 6, v 7, v 8, undef, undef, undef, undef, undef, undef, undef, undef, undef, undef, undef, undef, undef, undef], defers := [] }) (by kernel_rfl) (by kernel_rfl) (by kernel_rfl) (Since.refl _) ?_ (fun vals => by kernel_rfl) ?_ ?_
      case refine_1 =>
        intro j x x' v h1 h2
        match j, h2 with
        | 0, h2 | 1, h2 | 2, h2 | 3, h2 | 4, h2 | 5, h2 | 6, h2 | 7, h2 | 8, h2 => exact h2
        | n + 9, _ => trivial
      case refine_2 =>
        clear hT hput hyes hno
        simp only [List.take_succ_cons, List.take_zero]
        repeat (first | exact eachDoes_nil | refine eachDoes_cons ?_ ?_)
        all_goals intro vals x hx hv
        all_goals try simp [Region.binds] at hv
        all_goals first
          | (simp [does, doesUpon, go_sem, hv, Since.refl, m0, m1, m2, m3]; done)
          | (simp [does, doesUpon, go_sem, hv, Since.refl, e22, e23, q22, q23]; done)
      case refine_3 =>
        intro vals x hx hv
        have h0 : vals 0 = _ := hv 0 (by decide)
        have h2 : vals 1 = _ := hv 1 (by decide)
        have h3 : vals 2 = _ := hv 2 (by decide)
        have h4 : vals 3 = _ := hv 3 (by decide)
        have h5 : vals 4 = _ := hv 4 (by decide)
        have h6 : vals 5 = _ := hv 5 (by decide)
        have h7 : vals 6 = _ := hv 6 (by decide)
        have h8 : vals 7 = _ := hv 7 (by decide)
        have h9 : vals 8 = _ := hv 8 (by decide)
        clear hv
        simp only [h0, h2, h3, h4, h5, h6, h7, h8, h9, List.drop_succ_cons, List.drop_zero]
        clear h0 h2 h3 h4 h5 h6 h7 h8 h9 m0 m1 m2 m3 e22 e23 q22 q23 r22 r23
        have k0 := y0.since hx
        have kR := yR.since hx
        have HX2 := HY.trans hx
        clear y0 yR HY hx HX
        have HX3 := since_put HX2 hwl 6 (.int .i64 (halfAt s 22))
        have kR3 := kR.other hne 6 (.int .i64 (halfAt s 22))
        have k3 := (k0.put (.int .i64 (halfAt s 22))).1
        obtain ⟨b0, b1, b2, b3, b4, b5, b6, b7, b8, b9⟩ := k0
        rw [wpList, if_pos (by simp [Region.wanted])]
        refine .inl ?_
        unfold Oper.wp
        simp [go_sem, b1, b8]
        clear b0 b1 b2 b3 b4 b5 b6 b7 b8 b9 kR HX2
        obtain ⟨u, hu⟩ : ∃ u, x.setCell ⟨b, 6, none⟩ (.int .i64 (halfAt s 22)) = u := ⟨_, rfl⟩
        rw [hu] at HX3 kR3 k3 ⊢
        clear hu
        have kR4 := kR3.other hne 7 (.string (s.extract 24 s.size))
        have HX4 := since_put HX3 hwl 7 (.string (s.extract 24 s.size))
        have k4 := (k3.put (.string (s.extract 24 s.size))).2
        obtain ⟨b0, b1, b2, b3, b4, b5, b6, b7, b8, b9⟩ := k3
        clear t96 kR3 HX3
        by_cases hts : T = s
        · obtain rfl := hyes hts
          rw [hts] at hput
          clear hyes hno hT hts
          go_wp2_with (go_at_call 14; refine (hput _).mono ?_; rintro _ z ⟨rfl, g⟩; replace k4 := k4.since g; replace kR4 := kR4.since g; replace HX4 := HX4.trans g; obtain ⟨s0, s1, s2, s3, s4, s5, s6, s7, s8, s9⟩ := k4; obtain ⟨r0, r1, r2, r3, r4, r5, r6, r7, r8, r9⟩ := kR4)
          refine bodyPost_ret (v := .tuple #[segVal (halfAt s 0) (halfAt s 2) (wordAt s 4) (wordAt s 8) (byteAt s 13) (halfAt s 14) (halfAt s 22) (s.extract 24 s.size), .bool true]) ?_ rfl ⟨rfl, since_stored HX4 (Nat.le_refl _) _ _ _ _ _ _ _ _⟩
          simp [results, go_sem, segVal, World.cell?_setCell_same', World.cell?_setCell_other, r2, r3, r4, r5, r6, r7, r8, r9]
        · obtain rfl := hno hts
          have htd : (T.toList == s.toList) = false := texts_differ hts
          clear hyes hno hT hts
          go_wp2_with (go_at_call 14; refine (hput _).mono ?_; rintro _ z ⟨rfl, g⟩; replace k4 := k4.since g; replace kR4 := kR4.since g; replace HX4 := HX4.trans g; obtain ⟨s0, s1, s2, s3, s4, s5, s6, s7, s8, s9⟩ := k4; obtain ⟨r0, r1, r2, r3, r4, r5, r6, r7, r8, r9⟩ := kR4)
          refine bodyPost_ret (v := .tuple #[segZero, .bool false]) ?_ rfl ⟨rfl, since_stored HX4 (Nat.le_refl _) _ _ _ _ _ _ _ _⟩
          simp [results, go_sem, segZero, segVal, World.cell?_setCell_same', World.cell?_setCell_other, r2, r3, r4, r5, r6, r7, r8, r9]
    · have hput := fun wx => specPutSeg src dst (halfAt s 0) (halfAt s 2) (wordAt s 4) (wordAt s 8) (byteAt s 13) (halfAt s 14) 0 (s.extract 20 s.size) hsr hds (word_range s 4) (word_range s 8) (byte_int s 13) wx
      unfold segVal at hput
      generalize hT : putSeg src dst (halfAt s 0) (halfAt s 2) (wordAt s 4) (wordAt s 8) (byteAt s 13) (halfAt s 14) 0 (s.extract 20 s.size) = T at hput hyes hno
      have kR4 := yR.other hne 7 (.string (s.extract 20 s.size))
      have HX4 := since_put HY hwl 7 (.string (s.extract 20 s.size))
      have k4 := (y0.put (.string (s.extract 20 s.size))).2
      obtain ⟨b0, b1, b2, b3, b4, b5, b6, b7, b8, b9⟩ := y0
      clear yR HY HX
      have t96 : ((s[12].toNat : Int) == 96) = false ∨ (((s[12].toNat : Int) == 96) = true ∧ ¬ (24 : Int) ≤ (s.size : Int)) := by
        by_cases h : byteAt s 12 = 96
        · exact .inr ⟨by rw [← e12, h]; rfl, fun h2 => hcs ⟨h, by omega⟩⟩
        · exact .inl (by rw [← e12]; simp [h])
      clear hcs e12
      by_cases hts : T = s
      · obtain rfl := hyes hts
        rw [hts] at hput
        clear hyes hno hT hts
        rcases t96 with t96 | ⟨t96, h24⟩
        all_goals
          go_wp2_with (go_at_call 14; refine (hput _).mono ?_; rintro _ z ⟨rfl, g⟩; replace k4 := k4.since g; replace kR4 := kR4.since g; replace HX4 := HX4.trans g; obtain ⟨s0, s1, s2, s3, s4, s5, s6, s7, s8, s9⟩ := k4; obtain ⟨r0, r1, r2, r3, r4, r5, r6, r7, r8, r9⟩ := kR4)
          refine bodyPost_ret (v := .tuple #[segVal (halfAt s 0) (halfAt s 2) (wordAt s 4) (wordAt s 8) (byteAt s 13) (halfAt s 14) 0 (s.extract 20 s.size), .bool true]) ?_ rfl ⟨rfl, since_stored HX4 (Nat.le_refl _) _ _ _ _ _ _ _ _⟩
          simp [results, go_sem, segVal, World.cell?_setCell_same', World.cell?_setCell_other, r2, r3, r4, r5, r6, r7, r8, r9]
      · obtain rfl := hno hts
        have htd : (T.toList == s.toList) = false := texts_differ hts
        clear hyes hno hT hts
        rcases t96 with t96 | ⟨t96, h24⟩
        all_goals
          go_wp2_with (go_at_call 14; refine (hput _).mono ?_; rintro _ z ⟨rfl, g⟩; replace k4 := k4.since g; replace kR4 := kR4.since g; replace HX4 := HX4.trans g; obtain ⟨s0, s1, s2, s3, s4, s5, s6, s7, s8, s9⟩ := k4; obtain ⟨r0, r1, r2, r3, r4, r5, r6, r7, r8, r9⟩ := kR4)
          refine bodyPost_ret (v := .tuple #[segZero, .bool false]) ?_ rfl ⟨rfl, since_stored HX4 (Nat.le_refl _) _ _ _ _ _ _ _ _⟩
          simp [results, go_sem, segZero, segVal, World.cell?_setCell_same', World.cell?_setCell_other, r2, r3, r4, r5, r6, r7, r8, r9]
end Go.Proofs.Ytneicghhggidnab
