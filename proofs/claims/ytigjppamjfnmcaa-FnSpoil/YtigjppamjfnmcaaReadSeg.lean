/-
  Contract of impl's readSeg, at every text of 20 to 1048576 bytes.
-/
import Derived.Test.YtigjppamjfnmcaaM4
namespace Go.Proofs.Ytigjppamjfnmcaa
open Go.ChangeShapes Go.WideShapes Go.ChangeAt Go.RowKit
set_option linter.unusedVariables false

set_option maxHeartbeats 4000000 in
theorem readSegLong (s : ByteArray) (hs : 20 ≤ s.size) (hm : s.size ≤ 1048576) (ans : Value)
    (hans : (byteAt s 12 = 96 ∧ 24 ≤ s.size ∧ ans = .tuple #[segVal (halfAt s 0) (halfAt s 2) (wordAt s 4) (wordAt s 8) (byteAt s 13) (halfAt s 14) (halfAt s 22) (s.extract 24 s.size), .bool true]) ∨ (byteAt s 12 = 96 ∧ s.size < 24 ∧ ans = .tuple #[segZero, .bool false]) ∨
      (byteAt s 12 ≠ 96 ∧ ans = .tuple #[segVal (halfAt s 0) (halfAt s 2) (wordAt s 4) (wordAt s 8) (byteAt s 13) (halfAt s 14) 0 (s.extract 20 s.size), .bool true])) (w : World) :
    Calls Try.prog 55 #[.string s] w fun e w' => e = .returned ans ∧ Since w w' := by
  have h1 : ¬ (s.size : Int) < 20 := by omega
  have hf : ∀ (i : Nat) wx, i + 1 < s.size → Calls Try.prog 73 #[.string s, .int .i64 (i : Int)] wx fun e w' => e = .returned (.int .i64 (halfAt s i)) ∧ Since wx w' := fun i wx h => halfIn s i hm h wx
  have f0 : ∀ wx, Calls Try.prog 73 #[.string s, .int .i64 0] wx fun e w' => e = .returned (.int .i64 (halfAt s 0)) ∧ Since wx w' := fun wx => hf 0 wx (by omega)
  have f2 : ∀ wx, Calls Try.prog 73 #[.string s, .int .i64 2] wx fun e w' => e = .returned (.int .i64 (halfAt s 2)) ∧ Since wx w' := fun wx => hf 2 wx (by omega)
  have f14 : ∀ wx, Calls Try.prog 73 #[.string s, .int .i64 14] wx fun e w' => e = .returned (.int .i64 (halfAt s 14)) ∧ Since wx w' := fun wx => hf 14 wx (by omega)
  have g4 : ∀ wx, Calls Try.prog 74 #[.string s, .int .i64 4] wx fun e w' => e = .returned (.int .u32 (wordAt s 4)) ∧ Since wx w' := fun wx => by
    have h := implGetIn s 4 (by omega) hm wx
    rw [← byteAt_in s 4 (by omega), ← byteAt_in s (4 + 1) (by omega), ← byteAt_in s (4 + 2) (by omega), ← byteAt_in s (4 + 3) (by omega)] at h
    exact h.mono fun _ _ ⟨h1, h2⟩ => ⟨h1, Since.of h2⟩
  have g8 : ∀ wx, Calls Try.prog 74 #[.string s, .int .i64 8] wx fun e w' => e = .returned (.int .u32 (wordAt s 8)) ∧ Since wx w' := fun wx => by
    have h := implGetIn s 8 (by omega) hm wx
    rw [← byteAt_in s 8 (by omega), ← byteAt_in s (8 + 1) (by omega), ← byteAt_in s (8 + 2) (by omega), ← byteAt_in s (8 + 3) (by omega)] at h
    exact h.mono fun _ _ ⟨h1, h2⟩ => ⟨h1, Since.of h2⟩
  have G := Since.refl (w.alloc (.cells #[.int .i64 0, .int .i64 0, .int .u32 0, .int .u32 0, .int .i64 0, .int .i64 0, .int .i64 0, .string ⟨#[]⟩] 28))
  have R := Rec8.new w (.int .i64 0) (.int .i64 0) (.int .u32 0) (.int .u32 0) (.int .i64 0) (.int .i64 0) (.int .i64 0) (.string ⟨#[]⟩) 28
  go_enter Try.func55, Try.ntmps55
  go_wp2
  obtain ⟨wb, hwb⟩ : ∃ wb, w.alloc (.cells #[.int .i64 0, .int .i64 0, .int .u32 0, .int .u32 0, .int .i64 0, .int .i64 0, .int .i64 0, .string ⟨#[]⟩] 28) = wb := ⟨_, rfl⟩
  have HB : Since w wb := by rw [← hwb]; exact (Since.refl _).alloc _
  have HS : wb.heap.size = w.heap.size + 1 := by rw [← hwb]; simp
  rw [hwb] at G R ⊢
  clear hwb
  have r13 := byteAt_range s 13
  have m13 : IntKind.i64.wrap (byteAt s 13) = byteAt s 13 := by rw [IntWalk.i64_left]; exact IntWalk.wrap64_in _ ⟨by omega, by omega⟩
  have e13 := byteAt_in s 13 (by omega)
  have q13 : (13 : Int) < (s.size : Int) := by omega
  refine wp_region_tail (wb := wb) 15 (fun i x v => match i with
        | 0 => v = .string s
        | 1 => v = .int .i64 (halfAt s 0)
        | 2 => v = .string s
        | 3 => v = .int .i64 (halfAt s 2)
        | 4 => v = .string s
        | 5 => v = .int .u32 (wordAt s 4)
        | 6 => v = .string s
        | 7 => v = .int .u32 (wordAt s 8)
        | 8 => v = .string s
        | 9 => v = .int .u8 (byteAt s 13)
        | 10 => v = .int .i64 (byteAt s 13)
        | 11 => v = .string s
        | 12 => v = .int .i64 (halfAt s 14)
        | 13 => v = .agg #[.int .i64 (halfAt s 0), .int .i64 (halfAt s 2), .int .u32 (wordAt s 4), .int .u32 (wordAt s 8), .int .i64 (byteAt s 13), .int .i64 (halfAt s 14), .int .i64 0, .string ⟨#[]⟩]
        | 14 => newSeg wb.heap.size x v
        | _ => True) (fun v => { tmps := #[.string s, undef, .pointer (some ⟨w.heap.size, 0, none⟩), .bool false, v 14, undef, .string s, .int .i64 (s.size : Int), .bool false, undef, v 0, v 1, v 2, v 3, v 4, v 5, v 6, v 7, v 8, v 9, v 10, v 11, v 12, v 13, undef, undef, undef, undef, undef, undef, undef, undef, undef, undef, undef, undef, undef, undef, undef, undef, undef, undef], defers := [] }) (by kernel_rfl) (by kernel_rfl) (by kernel_rfl) G ?_ (fun vals => by kernel_rfl) ?_ ?_
  case refine_1 =>
    intro j x x' v h1 h2
    match j, h2 with
    | 14, h2 => exact newSeg_since h1 h2
    | 0, h2 | 1, h2 | 2, h2 | 3, h2 | 4, h2 | 5, h2 | 6, h2 | 7, h2 | 8, h2 | 9, h2 | 10, h2 | 11, h2 | 12, h2 | 13, h2 => exact h2
    | n + 15, _ => trivial
  case refine_2 =>
    simp only [List.take_succ_cons, List.take_zero]
    repeat (first | exact eachDoes_nil | refine eachDoes_cons ?_ ?_)
    all_goals intro vals x hx hv
    all_goals try simp [Region.binds] at hv
    all_goals first
      | (simp [does, doesUpon, go_sem, hv, Since.refl, m13]; done)
      | (simp [does, doesUpon, go_sem, hv, Since.refl, e13, q13]; done)
      | (simp [does, doesUpon, go_sem, hv]; go_at_call_of 73 (Value.int IntKind.i64 0); refine (f0 x).mono ?_; rintro _ x' ⟨rfl, h1⟩; exact ⟨rfl, h1⟩)
      | (simp [does, doesUpon, go_sem, hv]; go_at_call_of 73 (Value.int IntKind.i64 2); refine (f2 x).mono ?_; rintro _ x' ⟨rfl, h1⟩; exact ⟨rfl, h1⟩)
      | (simp [does, doesUpon, go_sem, hv]; go_at_call_of 73 (Value.int IntKind.i64 14); refine (f14 x).mono ?_; rintro _ x' ⟨rfl, h1⟩; exact ⟨rfl, h1⟩)
      | (simp [does, doesUpon, go_sem, hv]; go_at_call_of 74 (Value.int IntKind.i64 4); refine (g4 x).mono ?_; rintro _ x' ⟨rfl, h1⟩; exact ⟨rfl, h1⟩)
      | (simp [does, doesUpon, go_sem, hv]; go_at_call_of 74 (Value.int IntKind.i64 8); refine (g8 x).mono ?_; rintro _ x' ⟨rfl, h1⟩; exact ⟨rfl, h1⟩)
      | (simp [does, doesUpon, go_sem]; exact ⟨(Since.refl _).alloc _, newSeg_new x (Since.le hx) _⟩)
  case refine_3 =>
    intro vals x hx hv
    have h0 : vals 0 = _ := hv 0 (by decide)
    have h1 : vals 1 = _ := hv 1 (by decide)
    have h2 : vals 2 = _ := hv 2 (by decide)
    have h3 : vals 3 = _ := hv 3 (by decide)
    have h4 : vals 4 = _ := hv 4 (by decide)
    have h5 : vals 5 = _ := hv 5 (by decide)
    have h6 : vals 6 = _ := hv 6 (by decide)
    have h7 : vals 7 = _ := hv 7 (by decide)
    have h8 : vals 8 = _ := hv 8 (by decide)
    have h9 : vals 9 = _ := hv 9 (by decide)
    have h10 : vals 10 = _ := hv 10 (by decide)
    have h11 : vals 11 = _ := hv 11 (by decide)
    have h12 : vals 12 = _ := hv 12 (by decide)
    have h13 : vals 13 = _ := hv 13 (by decide)
    have h14 : newSeg wb.heap.size x (vals 14) := hv 14 (by decide)
    clear hv
    obtain ⟨b, h14, hB, hr⟩ := h14
    simp only [h0, h1, h2, h3, h4, h5, h6, h7, h8, h9, h10, h11, h12, h13, h14, List.drop_succ_cons, List.drop_zero]
    clear h0 h1 h2 h3 h4 h5 h6 h7 h8 h9 h10 h11 h12 h13 h14 m13 e13 q13 r13 f0 f2 f14 g4 g8
    have R1 := R.since hx
    have hne : w.heap.size ≠ b := by omega
    have hwl : w.heap.size ≤ b := by omega
    have HX : Since w x := HB.trans hx
    clear HB hx G R HS hB
    have y0 := hr.stored (.int .i64 (halfAt s 0)) (.int .i64 (halfAt s 2)) (.int .u32 (wordAt s 4)) (.int .u32 (wordAt s 8)) (.int .i64 (byteAt s 13)) (.int .i64 (halfAt s 14)) (.int .i64 0) (.string ⟨#[]⟩)
    have yR := R1.other8 hne (.int .i64 (halfAt s 0)) (.int .i64 (halfAt s 2)) (.int .u32 (wordAt s 4)) (.int .u32 (wordAt s 8)) (.int .i64 (byteAt s 13)) (.int .i64 (halfAt s 14)) (.int .i64 0) (.string ⟨#[]⟩)
    have HY := since_stored HX hwl (.int .i64 (halfAt s 0)) (.int .i64 (halfAt s 2)) (.int .u32 (wordAt s 4)) (.int .u32 (wordAt s 8)) (.int .i64 (byteAt s 13)) (.int .i64 (halfAt s 14)) (.int .i64 0) (.string ⟨#[]⟩)
    unfold stored8 at y0 yR HY
    obtain ⟨y, hy⟩ : ∃ y, ((((((((x.setCell ⟨b, 0, none⟩ (.int .i64 (halfAt s 0))).setCell ⟨b, 1, none⟩ (.int .i64 (halfAt s 2))).setCell ⟨b, 2, none⟩ (.int .u32 (wordAt s 4))).setCell ⟨b, 3, none⟩ (.int .u32 (wordAt s 8))).setCell ⟨b, 4, none⟩ (.int .i64 (byteAt s 13))).setCell ⟨b, 5, none⟩ (.int .i64 (halfAt s 14))).setCell ⟨b, 6, none⟩ (.int .i64 0)).setCell ⟨b, 7, none⟩ (.string ⟨#[]⟩)) = y := ⟨_, rfl⟩
    rw [hy] at y0 yR HY
    obtain ⟨b0, b1, b2, b3, b4, b5, b6, b7, b8, b9⟩ := hr
    clear R1
    rw [wpList, if_pos (by simp [Region.wanted])]
    refine .inl ?_
    unfold Oper.wp
    simp [go_sem, b1, b2, b3, b4, b5, b6, b7, b8, b9]
    rw [hy]
    clear hy b0 b1 b2 b3 b4 b5 b6 b7 b8 b9
    have e12 := byteAt_in s 12 (by omega)
    have q12 : (12 : Int) < (s.size : Int) := by omega
    have q20 : (20 : Int) ≤ (s.size : Int) := by omega
    rcases hans with ⟨h96, h24, rfl⟩ | ⟨h96, h24, rfl⟩ | ⟨h96, rfl⟩
    · have t96 : ((s[12].toNat : Int) == 96) = true := by rw [← e12, h96]; rfl
      have hx4 : ¬ ((s.size - 20 : Nat) : Int) < 4 := by omega
      have hx4' : (4 : Int) ≤ ((s.size - 20 : Nat) : Int) := by omega
      have f22 : ∀ wx, Calls Try.prog 73 #[.string s, .int .i64 22] wx fun e w' => e = .returned (.int .i64 (halfAt s 22)) ∧ Since wx w' := fun wx => hf 22 wx (by omega)
      have hext : (s.extract 20 s.size).extract 4 (s.size - 20) = s.extract 24 s.size := by
        rw [ByteArray.extract_extract]
        congr 1
        omega
      clear hf h96 e12
      go_wp2_with (go_at_call 73; refine (f22 _).mono ?_; rintro _ z ⟨rfl, g⟩; have z0 := y0.since g; have zR := yR.since g; have zf := z0.fz; have z6 := z0.c6)
      have HZ := since_put (HY.trans g) hwl 6 (.int .i64 (halfAt s 22))
      have k0 := (z0.put (.int .i64 (halfAt s 22))).1
      have kR := zR.other hne 6 (.int .i64 (halfAt s 22))
      clear z0 zR zf z6 y0 yR HY HX g
      try rw [hext]
      refine (clone _ (by simp; omega) _).mono ?_
      rintro _ z2 ⟨rfl, g2⟩
      replace k0 := k0.since g2
      replace kR := kR.since g2
      replace HZ := HZ.trans g2
      obtain ⟨s0, s1, s2, s3, s4, s5, s6, s7, s8, s9⟩ := k0
      obtain ⟨r0, r1, r2, r3, r4, r5, r6, r7, r8, r9⟩ := kR
      have hne' : ¬ b = w.heap.size := fun h => hne h.symm
      clear f22 hext hx4 hx4' t96
      go_wp2
      refine bodyPost_ret (v := .tuple #[segVal (halfAt s 0) (halfAt s 2) (wordAt s 4) (wordAt s 8) (byteAt s 13) (halfAt s 14) (halfAt s 22) (s.extract 24 s.size), .bool true]) ?_ rfl ⟨rfl, since_stored (since_put HZ hwl 7 _) (Nat.le_refl _) _ _ _ _ _ _ _ _⟩
      simp [results, go_sem, segVal, World.cell?_setCell_same', World.cell?_setCell_other, r2, r3, r4, r5, r6, r7, r8, r9]
    · have t96 : ((s[12].toNat : Int) == 96) = true := by rw [← e12, h96]; rfl
      have hx4 : ((s.size - 20 : Nat) : Int) < 4 := by omega
      clear hf h96 e12
      obtain ⟨r0, r1, r2, r3, r4, r5, r6, r7, r8, r9⟩ := yR
      go_wp2
      refine bodyPost_ret (v := .tuple #[segZero, .bool false]) ?_ rfl ⟨rfl, since_stored HY (Nat.le_refl _) _ _ _ _ _ _ _ _⟩
      simp [results, go_sem, segZero, segVal, World.cell?_setCell_same', World.cell?_setCell_other, r2, r3, r4, r5, r6, r7, r8, r9]
    · have t96 : ((s[12].toNat : Int) == 96) = false := by rw [← e12]; simp [h96]
      clear hf h96 e12
      go_wp2_with (fail)
      refine (clone _ (by simp; omega) _).mono ?_
      rintro _ z2 ⟨rfl, g2⟩
      have k0 := y0.since g2
      have kR := yR.since g2
      have HZ := HY.trans g2
      obtain ⟨s0, s1, s2, s3, s4, s5, s6, s7, s8, s9⟩ := k0
      obtain ⟨r0, r1, r2, r3, r4, r5, r6, r7, r8, r9⟩ := kR
      have hne' : ¬ b = w.heap.size := fun h => hne h.symm
      clear t96
      go_wp2
      refine bodyPost_ret (v := .tuple #[segVal (halfAt s 0) (halfAt s 2) (wordAt s 4) (wordAt s 8) (byteAt s 13) (halfAt s 14) 0 (s.extract 20 s.size), .bool true]) ?_ rfl ⟨rfl, since_stored (since_put HZ hwl 7 _) (Nat.le_refl _) _ _ _ _ _ _ _ _⟩
      simp [results, go_sem, segVal, World.cell?_setCell_same', World.cell?_setCell_other, r2, r3, r4, r5, r6, r7, r8, r9]

/-- What readSeg answers. -/
def readSegAns (s : ByteArray) : Value := .tuple #[if segAt s ≤ s.size then segRead s else segZero, .bool (decide (segAt s ≤ s.size))]

theorem readSeg (s : ByteArray) (hm : s.size ≤ 1048576) (w : World) :
    Calls Try.prog 55 #[.string s] w fun e w' => e = .returned (readSegAns s) ∧ Since w w' := by
  have hat : segAt s = 24 ∧ byteAt s 12 = 96 ∨ segAt s = 20 ∧ byteAt s 12 ≠ 96 := by
    by_cases h : byteAt s 12 = 96
    · exact .inl ⟨by rw [segAt, if_pos h], h⟩
    · exact .inr ⟨by rw [segAt, if_neg h], h⟩
  by_cases hs : s.size < 20
  · rw [readSegAns, if_neg (by omega), decide_eq_false (by omega)]
    exact readSegShort s hs w
  · refine readSegLong s (by omega) hm _ ?_ w
    rcases hat with ⟨h1, h2⟩ | ⟨h1, h2⟩
    · by_cases h24 : 24 ≤ s.size
      · refine .inl ⟨h2, h24, ?_⟩
        rw [readSegAns, if_pos (by omega), decide_eq_true (by omega), segRead, segMs, if_pos h2, h1]
      · refine .inr (.inl ⟨h2, by omega, ?_⟩)
        rw [readSegAns, if_neg (by omega), decide_eq_false (by omega)]
    · refine .inr (.inr ⟨h2, ?_⟩)
      rw [readSegAns, if_pos (by omega), decide_eq_true (by omega), segRead, segMs, if_neg h2, h1]
end Go.Proofs.Ytigjppamjfnmcaa
