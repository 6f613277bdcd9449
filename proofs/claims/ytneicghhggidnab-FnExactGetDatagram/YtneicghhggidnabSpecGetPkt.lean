/-
  Contract of spec's GetPacket, at every text of at most 1048576 bytes.
-/
import Derived.Test.YtneicghhggidnabSpecPutPkt
import Derived.Test.YtneicghhggidnabDrawnLast
import Derived.Test.YtneicghhggidnabPktFacts
import Derived.Test.YtneicghhggidnabShows
namespace Go.Proofs.Ytneicghhggidnab
open Go.ChangeShapes Go.WideShapes Go.ChangeAt Go.RowKit
set_option linter.unusedVariables false

/-- A pointer to a zero packet in a block from B on. -/
def newPkt (B : Nat) (x : World) (v : Value) : Prop := ∃ b, v = .pointer (some ⟨b, 0, none⟩) ∧ B ≤ b ∧ b < x.heap.size ∧ (∀ i, x.frozen? ⟨b, i, none⟩ = false) ∧ x.cell? ⟨b, 0, none⟩ = some (.int .u32 0) ∧ x.cell? ⟨b, 1, none⟩ = some (.int .u32 0) ∧ x.cell? ⟨b, 2, none⟩ = some (.int .i64 0) ∧ x.cell? ⟨b, 3, none⟩ = some (.int .i64 0) ∧ x.cell? ⟨b, 4, none⟩ = some (.int .i64 0) ∧ x.cell? ⟨b, 5, none⟩ = some (.string ⟨#[]⟩)

theorem newPkt_since {B : Nat} {x x' : World} {v : Value} (h : Since x x') (k : newPkt B x v) : newPkt B x' v := by
  obtain ⟨b, e, hB, hb, hf, c0, c1, c2, c3, c4, c5⟩ := k
  have hc : ∀ i, x'.cell? ⟨b, i, none⟩ = x.cell? ⟨b, i, none⟩ := fun i => Below.cell h (p := ⟨b, i, none⟩) hb
  exact ⟨b, e, hB, Nat.lt_of_lt_of_le hb h.le, fun i => (Below.frozen h (p := ⟨b, i, none⟩) hb).trans (hf i), (hc 0).trans c0, (hc 1).trans c1, (hc 2).trans c2, (hc 3).trans c3, (hc 4).trans c4, (hc 5).trans c5⟩

theorem newPkt_new {B : Nat} (x : World) (hB : B ≤ x.heap.size) (t : TypeId) : newPkt B (x.alloc (.cells #[.int .u32 0, .int .u32 0, .int .i64 0, .int .i64 0, .int .i64 0, .string ⟨#[]⟩] t)) (.pointer (some ⟨x.heap.size, 0, none⟩)) :=
  ⟨x.heap.size, rfl, hB, by simp, fun i => by simp, by simp, by simp, by simp, by simp, by simp, by simp⟩

theorem specGetShort (s : ByteArray) (hs : s.size < 20) (w : World) :
    Calls Try.prog 18 #[.string s] w fun e w' => e = .returned (.tuple #[pktVal 0 0 0 0 0 ⟨#[]⟩, .bool false]) ∧ Since w w' := by
  have h1 : (s.size : Int) < 20 := by omega
  go_enter Try.func18, Try.ntmps18
  go_wp2
  refine bodyPost_ret (v := .tuple #[pktVal 0 0 0 0 0 ⟨#[]⟩, .bool false]) ?_ rfl ⟨rfl, by repeat (first | exact Since.refl _ | apply Since.drew | apply Since.alloc)⟩
  simp [results, go_sem, pktVal]

set_option maxHeartbeats 8000000 in
theorem specGetLong (s : ByteArray) (hs : 20 ≤ s.size) (hm : s.size ≤ 1048576) (ok : Bool) (hok : (putBack s = s) = (ok = true)) (w : World) :
    Calls Try.prog 18 #[.string s] w fun e w' => e = .returned (.tuple #[if ok then readVal s else pktVal 0 0 0 0 0 ⟨#[]⟩, .bool ok]) ∧ Since w w' := by
  have h1 : ¬ (s.size : Int) < 20 := by omega
  have g12 := fun wx => specGetIn s 12 (by omega) hm wx
  have g16 := fun wx => specGetIn s 16 (by omega) hm wx
  rw [← byteAt_in s 12 (by omega), ← byteAt_in s (12 + 1) (by omega), ← byteAt_in s (12 + 2) (by omega), ← byteAt_in s (12 + 3) (by omega)] at g12
  rw [← byteAt_in s 16 (by omega), ← byteAt_in s (16 + 1) (by omega), ← byteAt_in s (16 + 2) (by omega), ← byteAt_in s (16 + 3) (by omega)] at g16
  have G := Since.refl (w.alloc (.cells #[.int .u32 0, .int .u32 0, .int .i64 0, .int .i64 0, .int .i64 0, .string ⟨#[]⟩] 42))
  go_enter Try.func18, Try.ntmps18
  go_wp2
  obtain ⟨wb, hwb⟩ : ∃ wb, w.alloc (.cells #[.int .u32 0, .int .u32 0, .int .i64 0, .int .i64 0, .int .i64 0, .string ⟨#[]⟩] 42) = wb := ⟨_, rfl⟩
  have HB : Since w wb := by rw [← hwb]; exact (Since.refl _).alloc _
  have hk : ∀ x, Since wb x → Since (w.alloc (.cells #[.int .u32 0, .int .u32 0, .int .i64 0, .int .i64 0, .int .i64 0, .string ⟨#[]⟩] 42)) x := fun x h => by rw [hwb]; exact h
  have HS : wb.heap.size = w.heap.size + 1 := by rw [← hwb]; simp
  rw [hwb] at G ⊢
  clear hwb
  have r4 := byteAt_range s 4
  have r5 := byteAt_range s 5
  have r8 := byteAt_range s 8
  have r9 := byteAt_range s 9
  have m4 : IntKind.i64.wrap (byteAt s 4) = byteAt s 4 := by rw [IntWalk.i64_left]; exact IntWalk.wrap64_in _ ⟨by omega, by omega⟩
  have m5 : IntKind.i64.wrap (byteAt s 5) = byteAt s 5 := by rw [IntWalk.i64_left]; exact IntWalk.wrap64_in _ ⟨by omega, by omega⟩
  have m8 : IntKind.i64.wrap (byteAt s 8) = byteAt s 8 := by rw [IntWalk.i64_left]; exact IntWalk.wrap64_in _ ⟨by omega, by omega⟩
  have m9 : IntKind.i64.wrap (byteAt s 9) = byteAt s 9 := by rw [IntWalk.i64_left]; exact IntWalk.wrap64_in _ ⟨by omega, by omega⟩
  have m6 : IntKind.i64.wrap (256 * byteAt s 4) = 256 * byteAt s 4 := by rw [IntWalk.i64_left]; exact IntWalk.wrap64_in _ ⟨by omega, by omega⟩
  have m7 : IntKind.i64.wrap (256 * byteAt s 4 + byteAt s 5) = halfAt s 4 := by
    rw [IntWalk.i64_left, IntWalk.wrap64_in _ ⟨by omega, by omega⟩, show halfAt s 4 = byteAt s 4 * 256 + byteAt s 5 from rfl]
    omega
  have e4 := byteAt_in s 4 (by omega)
  have e5 := byteAt_in s 5 (by omega)
  have e8 := byteAt_in s 8 (by omega)
  have e9 := byteAt_in s 9 (by omega)
  have q4 : (4 : Int) < (s.size : Int) := by omega
  have q5 : (5 : Int) < (s.size : Int) := by omega
  have q8 : (8 : Int) < (s.size : Int) := by omega
  have q9 : (9 : Int) < (s.size : Int) := by omega
  have q20 : (20 : Int) ≤ (s.size : Int) := by omega
  refine wp_region_then (wb := wb) (fun i x v => match i with
      | 0 => v = .string s
      | 1 => v = .int .u32 (wordAt s 12)
      | 2 => v = .string s
      | 3 => v = .int .u32 (wordAt s 16)
      | 4 => v = .string s
      | 5 => v = .int .u8 (byteAt s 4)
      | 6 => v = .int .i64 (byteAt s 4)
      | 7 => v = .int .i64 (256 * byteAt s 4)
      | 8 => v = .string s
      | 9 => v = .int .u8 (byteAt s 5)
      | 10 => v = .int .i64 (byteAt s 5)
      | 11 => v = .int .i64 (halfAt s 4)
      | 12 => v = .string s
      | 13 => v = .int .u8 (byteAt s 8)
      | 14 => v = .int .i64 (byteAt s 8)
      | 15 => v = .string s
      | 16 => v = .int .u8 (byteAt s 9)
      | 17 => v = .int .i64 (byteAt s 9)
      | 18 => v = .string s
      | 19 => v = .string (s.extract 20 s.size)
      | 20 => v = .agg #[.int .u32 (wordAt s 12), .int .u32 (wordAt s 16), .int .i64 (halfAt s 4), .int .i64 (byteAt s 8), .int .i64 (byteAt s 9), .string (s.extract 20 s.size)]
      | 21 => newPkt wb.heap.size x v
      | _ => True) (fun vals => { tmps := #[.string s, undef, .pointer (some ⟨w.heap.size, 0, none⟩), .bool false, vals 21, .string s, .int .i64 (s.size : Int), .bool false, undef, vals 0, vals 1, vals 2, vals 3, vals 4, vals 5, vals 6, vals 7, vals 8, vals 9, vals 10, vals 11, vals 12, vals 13, vals 14, vals 15, vals 16, vals 17, vals 18, vals 19, vals 20, undef, undef, undef, undef, undef, undef], defers := [] }) (by kernel_rfl) (by kernel_rfl) (by kernel_rfl) G ?_ (fun vals => by kernel_rfl) ?_
  · intro j x x' v h1 h2
    match j, h2 with
    | 21, h2 => exact newPkt_since h1 h2
    | 0, h2 | 1, h2 | 2, h2 | 3, h2 | 4, h2 | 5, h2 | 6, h2 | 7, h2 | 8, h2 | 9, h2 | 10, h2 | 11, h2 | 12, h2 | 13, h2 | 14, h2 | 15, h2 | 16, h2 | 17, h2 | 18, h2 | 19, h2 | 20, h2 => exact h2
    | n + 22, _ => trivial
  repeat (first | refine eachThen_cons ?_ ?_ | refine eachThen_one ?_)
  case' refine_1.refine_1.refine_1.refine_1.refine_1.refine_1.refine_1.refine_1.refine_1.refine_1.refine_1.refine_1.refine_1.refine_1.refine_1.refine_1.refine_1.refine_1.refine_1.refine_1.refine_1.refine_1 =>
      intro vals x hx hv
      have v0 : vals 0 = _ := hv 0 (by decide)
      have v1 : vals 1 = _ := hv 1 (by decide)
      have v2 : vals 2 = _ := hv 2 (by decide)
      have v3 : vals 3 = _ := hv 3 (by decide)
      have v4 : vals 4 = _ := hv 4 (by decide)
      have v5 : vals 5 = _ := hv 5 (by decide)
      have v6 : vals 6 = _ := hv 6 (by decide)
      have v7 : vals 7 = _ := hv 7 (by decide)
      have v8 : vals 8 = _ := hv 8 (by decide)
      have v9 : vals 9 = _ := hv 9 (by decide)
      have v10 : vals 10 = _ := hv 10 (by decide)
      have v11 : vals 11 = _ := hv 11 (by decide)
      have v12 : vals 12 = _ := hv 12 (by decide)
      have v13 : vals 13 = _ := hv 13 (by decide)
      have v14 : vals 14 = _ := hv 14 (by decide)
      have v15 : vals 15 = _ := hv 15 (by decide)
      have v16 : vals 16 = _ := hv 16 (by decide)
      have v17 : vals 17 = _ := hv 17 (by decide)
      have v18 : vals 18 = _ := hv 18 (by decide)
      have v19 : vals 19 = _ := hv 19 (by decide)
      have v20 : vals 20 = _ := hv 20 (by decide)
      obtain ⟨b, v21, hB, hb, Z, c0, c1, c2, c3, c4, c5⟩ : newPkt wb.heap.size x (vals 21) := hv 21 (by decide)
      clear hv
      unfold Oper.wp
      simp [go_sem, v20, v21, c0, c1, c2, c3, c4, c5, Z]
      have hwb : ¬ w.heap.size = b := by omega
      have HX : Since w x := HB.trans hx
      have hbl : w.heap.size ≤ b := by omega
      obtain ⟨R0, R1, R2, R3, R4, R5⟩ := kept6 (hk x hx)
      have ZR : ∀ i, x.frozen? ⟨w.heap.size, i, none⟩ = false := fun i => (Below.frozen (hk x hx) (p := ⟨w.heap.size, i, none⟩) (by simp)).trans (by simp)
      obtain ⟨y, hy⟩ : ∃ y, ((((((x.setCell ⟨b, 0, none⟩ (.int .u32 (wordAt s 12))).setCell ⟨b, 1, none⟩ (.int .u32 (wordAt s 16))).setCell ⟨b, 2, none⟩ (.int .i64 (halfAt s 4))).setCell ⟨b, 3, none⟩ (.int .i64 (byteAt s 8))).setCell ⟨b, 4, none⟩ (.int .i64 (byteAt s 9))).setCell ⟨b, 5, none⟩ (.string (s.extract 20 s.size))) = y := ⟨_, rfl⟩
      have HY : Since w y := by
        rw [← hy]
        exact ((((((Below.setCell HX (p := ⟨b, 0, none⟩) hbl _).setCell (p := ⟨b, 1, none⟩) hbl _).setCell (p := ⟨b, 2, none⟩) hbl _).setCell (p := ⟨b, 3, none⟩) hbl _).setCell (p := ⟨b, 4, none⟩) hbl _).setCell (p := ⟨b, 5, none⟩) hbl _)
      have Y : y.cell? ⟨b, 0, none⟩ = some (.int .u32 (wordAt s 12)) ∧ y.cell? ⟨b, 1, none⟩ = some (.int .u32 (wordAt s 16)) ∧ y.cell? ⟨b, 2, none⟩ = some (.int .i64 (halfAt s 4)) ∧ y.cell? ⟨b, 3, none⟩ = some (.int .i64 (byteAt s 8)) ∧ y.cell? ⟨b, 4, none⟩ = some (.int .i64 (byteAt s 9)) ∧ y.cell? ⟨b, 5, none⟩ = some (.string (s.extract 20 s.size)) := by
        rw [← hy]
        simp [go_sem, World.cell?_setCell_same', World.cell?_setCell_other, c0, c1, c2, c3, c4, c5]
      have YR : ∀ i, y.cell? ⟨w.heap.size, i, none⟩ = x.cell? ⟨w.heap.size, i, none⟩ := fun i => by
        rw [← hy]
        simp [go_sem, World.cell?_setCell_other]
      have YZ : ∀ i, y.frozen? ⟨w.heap.size, i, none⟩ = false := fun i => by
        rw [← hy]
        simp [World.frozen?_setCell, ZR]
      have YS : b < y.heap.size ∧ w.heap.size < y.heap.size := by
        rw [← hy]
        simp [World.setCell]
        omega
      rw [hy]
      clear hy Z c0 c1 c2 c3 c4 c5
      obtain ⟨y0, y1, y2, y3, y4, y5⟩ := Y
      clear e4 e5 e8 e9 m4 m5 m6 m7 m8 m9 q4 q5 q8 q9 q20 r4 r5 r8 r9 g12 g16 v0 v1 v2 v3 v4 v5 v6 v7 v8 v9 v10 v11 v12 v13 v14 v15 v16 v17 v18 v19 v20 v21 h1
      have hput : ∀ wx, Calls Try.prog 15 #[.agg #[.int .u32 (wordAt s 12), .int .u32 (wordAt s 16), .int .i64 (halfAt s 4), .int .i64 (byteAt s 8), .int .i64 (byteAt s 9), .string (s.extract 20 s.size)]] wx fun e w' => e = .returned (.string (putBack s)) ∧ Since wx w' := fun wx => specPutPacket _ _ _ _ _ _ (word_range s 12) (word_range s 16) wx
      generalize putBack s = t at hput hok
      cases ok
      · have hts : (t.toList == s.toList) = false := texts_differ (fun h => by rw [h] at hok; simp at hok)
        clear hok
        go_wp2_with (go_at_call 15; refine (hput _).mono ?_; rintro _ z ⟨rfl, g⟩; have Z0 : ∀ i, z.cell? ⟨w.heap.size, i, none⟩ = x.cell? ⟨w.heap.size, i, none⟩ := (fun i => (Below.cell g (p := ⟨w.heap.size, i, none⟩) YS.2).trans (YR i)); have ZZ : ∀ i, z.frozen? ⟨w.heap.size, i, none⟩ = false := (fun i => (Below.frozen g (p := ⟨w.heap.size, i, none⟩) YS.2).trans (YZ i)); have z0 := (Z0 0).trans R0; have z1 := (Z0 1).trans R1; have z2 := (Z0 2).trans R2; have z3 := (Z0 3).trans R3; have z4 := (Z0 4).trans R4; have z5 := (Z0 5).trans R5; clear Z0)
        have HZ : Since w z := HY.trans g
        refine bodyPost_ret (v := .tuple #[pktVal 0 0 0 0 0 ⟨#[]⟩, .bool false]) ?_ rfl ⟨rfl, ((((((Below.setCell HZ (p := ⟨w.heap.size, 0, none⟩) (Nat.le_refl _) _).setCell (p := ⟨w.heap.size, 1, none⟩) (Nat.le_refl _) _).setCell (p := ⟨w.heap.size, 2, none⟩) (Nat.le_refl _) _).setCell (p := ⟨w.heap.size, 3, none⟩) (Nat.le_refl _) _).setCell (p := ⟨w.heap.size, 4, none⟩) (Nat.le_refl _) _).setCell (p := ⟨w.heap.size, 5, none⟩) (Nat.le_refl _) _)⟩
        simp [results, go_sem, pktVal, World.cell?_setCell_same', World.cell?_setCell_other, z0, z1, z2, z3, z4, z5]
      · have hts : t = s := by rw [hok]
        rw [hts] at hput
        clear hok hts
        go_wp2_with (go_at_call 15; refine (hput _).mono ?_; rintro _ z ⟨rfl, g⟩; have Z0 : ∀ i, z.cell? ⟨w.heap.size, i, none⟩ = x.cell? ⟨w.heap.size, i, none⟩ := (fun i => (Below.cell g (p := ⟨w.heap.size, i, none⟩) YS.2).trans (YR i)); have ZZ : ∀ i, z.frozen? ⟨w.heap.size, i, none⟩ = false := (fun i => (Below.frozen g (p := ⟨w.heap.size, i, none⟩) YS.2).trans (YZ i)); have z0 := (Z0 0).trans R0; have z1 := (Z0 1).trans R1; have z2 := (Z0 2).trans R2; have z3 := (Z0 3).trans R3; have z4 := (Z0 4).trans R4; have z5 := (Z0 5).trans R5; clear Z0; have ZY : ∀ i, z.cell? ⟨b, i, none⟩ = y.cell? ⟨b, i, none⟩ := (fun i => Below.cell g (p := ⟨b, i, none⟩) YS.1); have k0 := (ZY 0).trans y0; have k1 := (ZY 1).trans y1; have k2 := (ZY 2).trans y2; have k3 := (ZY 3).trans y3; have k4 := (ZY 4).trans y4; have k5 := (ZY 5).trans y5; clear ZY)
        have HZ : Since w z := HY.trans g
        refine bodyPost_ret (v := .tuple #[readVal s, .bool true]) ?_ rfl ⟨rfl, ((((((Below.setCell HZ (p := ⟨w.heap.size, 0, none⟩) (Nat.le_refl _) _).setCell (p := ⟨w.heap.size, 1, none⟩) (Nat.le_refl _) _).setCell (p := ⟨w.heap.size, 2, none⟩) (Nat.le_refl _) _).setCell (p := ⟨w.heap.size, 3, none⟩) (Nat.le_refl _) _).setCell (p := ⟨w.heap.size, 4, none⟩) (Nat.le_refl _) _).setCell (p := ⟨w.heap.size, 5, none⟩) (Nat.le_refl _) _)⟩
        simp [results, go_sem, readVal, pktVal, World.cell?_setCell_same', World.cell?_setCell_other, z0, z1, z2, z3, z4, z5]
  all_goals intro vals x hx hv
  all_goals try simp [Region.binds] at hv
  all_goals first
    | (simp [does, doesUpon, go_sem, hv, Since.refl, m4, m5, m6, m7, m8, m9, q20]; done)
    | (simp [does, doesUpon, go_sem, hv, Since.refl, e4, e5, e8, e9, q4, q5, q8, q9]; done)
    | (simp [does, doesUpon, go_sem, hv]; go_at_call_of 36 (Value.int IntKind.i64 12); refine (g12 x).mono ?_; rintro _ x' ⟨rfl, h1⟩; exact ⟨rfl, Since.of h1⟩)
    | (simp [does, doesUpon, go_sem, hv]; go_at_call_of 36 (Value.int IntKind.i64 16); refine (g16 x).mono ?_; rintro _ x' ⟨rfl, h1⟩; exact ⟨rfl, Since.of h1⟩)
    | (simp [does, doesUpon, go_sem]; exact ⟨(Since.refl _).alloc _, newPkt_new x (Since.le hx) _⟩)

/-- What GetPacket answers. -/
def getVal (ok : Bool) (s : ByteArray) : Value := .tuple #[if ok then readVal s else pktVal 0 0 0 0 0 ⟨#[]⟩, .bool ok]

theorem specGet (s : ByteArray) (hm : s.size ≤ 1048576) (ok : Bool) (hok : isPkt s ↔ ok = true) (w : World) :
    Calls Try.prog 18 #[.string s] w fun e w' => e = .returned (getVal ok s) ∧ Since w w' := by
  by_cases h : 20 ≤ s.size
  · exact specGetLong s h hm ok (propext ((put_back s h).trans hok)) w
  · have e : ok = false := by
      cases ok
      · rfl
      · exact absurd (hok.2 rfl).1.1 h
    subst e
    exact specGetShort s (by omega) w
end Go.Proofs.Ytneicghhggidnab
