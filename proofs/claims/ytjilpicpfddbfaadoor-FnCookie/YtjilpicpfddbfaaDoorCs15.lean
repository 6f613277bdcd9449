/-
  A contract of spec's Cookie.
-/
import Derived.Test.YtjilpicpfddbfaaDoorCk15
namespace Go.Proofs.YtjilpicpfddbfaaDoor
open Go.ChangeShapes Go.WideShapes Go.ChangeAt Go.RowKit Go.Deep
set_option linter.unusedVariables false
set_option maxRecDepth 10000

theorem specCookieNot (s h p j q e k : Int) (hc : (ckOk p q e && decide (0 ≤ k ∧ k ≤ 7)) = false) (w : World) :
    Calls Tryd.prog 9 #[.int .u32 s, addrVal h p, addrVal j q, .int .i64 e, .int .i64 k] w fun f w' => f = .returned (.int .u32 0) ∧ Since w w' := by
  have hh := fun wx => l15Ok h p j q e wx
  have h3 := fun wx => specIn k 0 7 wx
  generalize ckOk p q e = a at hh hc
  generalize decide (0 ≤ k ∧ k ≤ 7) = b at h3 hc
  unfold addrVal at *
  have A := (Blk.new w #[.int .u32 h, .int .i64 p] 26).since ((Since.refl _).alloc (.cells #[.int .u32 j, .int .i64 q] 26))
  have B := Blk.new (w.alloc (.cells #[.int .u32 h, .int .i64 p] 26)) #[.int .u32 j, .int .i64 q] 26
  have G : Since w ((w.alloc (.cells #[.int .u32 h, .int .i64 p] 26)).alloc (.cells #[.int .u32 j, .int .i64 q] 26)) := ((Since.refl _).alloc _).alloc _
  have a0 := A.cell 0
  have a1 := A.cell 1
  have b0 := B.cell 0
  have b1 := B.cell 1
  simp at a0 a1 b0 b1
  clear A B
  cases a
  · go_enter Tryd.func9, Tryd.ntmps9
    go_wp2_with (go_at_call 26; refine (hh _).mono ?_; rintro _ w1 ⟨rfl, g1⟩; replace G := G.trans g1)
    go_ret
    exact ⟨rfl, G⟩
  · obtain rfl : b = false := by simpa using hc
    go_enter Tryd.func9, Tryd.ntmps9
    go_wp2_with (first | (go_at_call 26; refine (hh _).mono ?_; rintro _ w1 ⟨rfl, g1⟩; replace G := G.trans g1) | (go_at_call 27; refine (h3 _).mono ?_; rintro _ w1 ⟨rfl, rfl⟩))
    go_ret
    exact ⟨rfl, G⟩

set_option maxHeartbeats 4000000 in
theorem specCookieOk (s h p j q e k : Int) (hc : (ckOk p q e && decide (0 ≤ k ∧ k ≤ 7)) = true) (w : World) :
    Calls Tryd.prog 9 #[.int .u32 s, addrVal h p, addrVal j q, .int .i64 e, .int .i64 k] w fun f w' => f = .returned (.int .u32 (e % 32 * 134217728 + k * 16777216 + ckMix s h p j q e k % 16777216)) ∧ Since w w' := by
  have hh := fun wx => l15Ok h p j q e wx
  have h3 := fun wx => specIn k 0 7 wx
  have hcc := hc
  simp only [Bool.and_eq_true] at hcc
  rw [hcc.1] at hh
  rw [hcc.2] at h3
  unfold ckOk at hcc
  simp only [Bool.and_eq_true, decide_eq_true_eq] at hcc
  obtain ⟨⟨⟨⟨hp0, hp1⟩, hq0, hq1⟩, he0, he1⟩, hk0, hk1⟩ := hcc
  clear hc
  have hr := ckMix_range s h p j q e k
  have hM := fun g wx (R : Rd shU wx (some ⟨g, 0, none⟩) 6 [h, p, j, q, e, k]) => specMix s (some ⟨g, 0, none⟩) 6 6 [h, p, j, q, e, k] (by omega) wx R
  have hW := fun x (h0 : 0 ≤ x ∧ x ≤ 1000000000) wx => specWord x x ⟨h0.1, by omega, by omega⟩ wx
  change ∀ g wx, _ → Calls _ _ _ _ (fun f w' => f = .returned (.int .u32 (ckMix s h p j q e k)) ∧ _) at hM
  generalize ckMix s h p j q e k = M at hr hM ⊢
  unfold addrVal at *
  have A := (Blk.new w #[.int .u32 h, .int .i64 p] 26).since ((Since.refl _).alloc (.cells #[.int .u32 j, .int .i64 q] 26))
  have B := Blk.new (w.alloc (.cells #[.int .u32 h, .int .i64 p] 26)) #[.int .u32 j, .int .i64 q] 26
  have G : Since w ((w.alloc (.cells #[.int .u32 h, .int .i64 p] 26)).alloc (.cells #[.int .u32 j, .int .i64 q] 26)) := ((Since.refl _).alloc _).alloc _
  have a0 := A.cell 0
  have a1 := A.cell 1
  have b0 := B.cell 0
  have b1 := B.cell 1
  simp at a0 a1 b0 b1 B
  have cp : IntKind.u32.wrap p = p := IntWalk.u32_in p (by omega)
  have cq : IntKind.u32.wrap q = q := IntWalk.u32_in q (by omega)
  have ck : IntKind.u32.wrap k = k := IntWalk.u32_in k (by omega)
  have dp : p % 4294967296 = p := by omega
  have dq : q % 4294967296 = q := by omega
  have dk : k % 4294967296 = k := by omega
  go_enter Tryd.func9, Tryd.ntmps9
  go_wp2_with (first | (go_at_call 26; refine (hh _).mono ?_; rintro _ w1 ⟨rfl, g1⟩; replace G := G.trans g1; replace A := A.since g1; replace B := B.since g1; clear a0 a1 b0 b1) | (go_at_call 27; refine (h3 _).mono ?_; rintro _ _ ⟨rfl, rfl⟩))
  refine wp_region_each (wb := w1) (fun i x v => match i with
      | 0 => v = .int .u32 s
      | 1 => v = .pointer (some ⟨w.heap.size, 0, none⟩)
      | 2 => v = .int .u32 h
      | 3 => v = .pointer (some ⟨w.heap.size, 1, none⟩)
      | 4 => v = .int .i64 p
      | 5 => v = .int .u32 p
      | 6 => v = .pointer (some ⟨w.heap.size + 1, 0, none⟩)
      | 7 => v = .int .u32 j
      | 8 => v = .pointer (some ⟨w.heap.size + 1, 1, none⟩)
      | 9 => v = .int .i64 q
      | 10 => v = .int .u32 q
      | 11 => v = .int .i64 e
      | 12 => v = .int .u32 e
      | 13 => v = .int .i64 k
      | 14 => v = .int .u32 k
      | 15 => RowU [h, p, j, q, e, k] x v
      | 16 => v = .int .u32 M
      | 17 => v = .int .u32 M
      | _ => True) (fun v => { tmps := #[Value.int IntKind.u32 s, Value.agg #[Value.int IntKind.u32 h, Value.int IntKind.i64 p], Value.agg #[Value.int IntKind.u32 j, Value.int IntKind.i64 q], Value.int IntKind.i64 e, Value.int IntKind.i64 k, undef, Value.pointer (some ⟨w.heap.size, 0, none⟩), Value.pointer (some ⟨w.heap.size + 1, 0, none⟩), undef, undef, Value.int IntKind.u32 0, v 17, Value.agg #[Value.int IntKind.u32 h, Value.int IntKind.i64 p], Value.agg #[Value.int IntKind.u32 j, Value.int IntKind.i64 q], Value.int IntKind.i64 e, Value.bool true, Value.bool false, Value.bool false, Value.int IntKind.i64 k, Value.bool true, Value.bool false, Value.bool false, v 0, v 1, v 2, v 3, v 4, v 5, v 6, v 7, v 8, v 9, v 10, v 11, v 12, v 13, v 14, v 15, v 16, undef, undef, undef, undef, undef, undef, undef, undef, undef, undef, undef], defers := [] }) (by kernel_rfl) (by kernel_rfl) (Since.refl _) ?_ (fun vals => by kernel_rfl) ?_ ?_
  case refine_1 =>
    intro j x x' v h1 h2
    match j, h2 with
    | 15, h2 =>
      exact h2.since h1
    | 0, h2 | 1, h2 | 2, h2 | 3, h2 | 4, h2 | 5, h2 | 6, h2 | 7, h2 | 8, h2 | 9, h2 | 10, h2 | 11, h2 | 12, h2 | 13, h2 | 14, h2 | 16, h2 | 17, h2 => exact h2
    | n + 18, _ => trivial
  case refine_2 =>
    repeat (first | exact eachDoes_nil | refine eachDoes_cons ?_ ?_)
    all_goals intro vals x hx hv
    all_goals simp [Region.binds] at hv
    · simp [does, doesUpon, go_sem, hv, Since.refl]
    · have hR : RowU [h, p, j, q, e, k] x (vals 15) := by first | exact hv | exact hv.1 | exact hv.2 | exact hv.2.1 | exact hv.2.2
      obtain ⟨gy, ey, Ry⟩ := hR
      simp [does, doesUpon, go_sem, hv, ey]
      refine (hM gy _ Ry).mono ?_
      rintro _ x' ⟨rfl, h1⟩
      simp [h1]
    · have hz := row6 h p j q e k x
      simp [does, doesUpon, go_sem, hv]
      exact ⟨(Since.refl _).alloc _, hz⟩
    · simp [does, doesUpon, go_sem, hv, ck, Since.refl]
    · simp [does, doesUpon, go_sem, Since.refl]
    · simp [does, doesUpon, go_sem, hv]
      refine (hW e (by omega) _).mono ?_
      rintro _ x' ⟨rfl, rfl⟩
      simp [Since.refl]
    · simp [does, doesUpon, go_sem, Since.refl]
    · simp [does, doesUpon, go_sem, hv, cq, Since.refl]
    · have f0 : x.cell? ⟨w.heap.size + 1, 1, none⟩ = some (.int .i64 q) := (B.since hx).cell 1
      simp [does, doesUpon, go_sem, hv, f0, Since.refl]
    · simp [does, doesUpon, go_sem, Since.refl]
    · have f0 : x.cell? ⟨w.heap.size + 1, 0, none⟩ = some (.int .u32 j) := (B.since hx).cell 0
      simp [does, doesUpon, go_sem, hv, f0, Since.refl]
    · simp [does, doesUpon, go_sem, Since.refl]
    · simp [does, doesUpon, go_sem, hv, cp, Since.refl]
    · have f0 : x.cell? ⟨w.heap.size, 1, none⟩ = some (.int .i64 p) := (A.since hx).cell 1
      simp [does, doesUpon, go_sem, hv, f0, Since.refl]
    · simp [does, doesUpon, go_sem, Since.refl]
    · have f0 : x.cell? ⟨w.heap.size, 0, none⟩ = some (.int .u32 h) := (A.since hx).cell 0
      simp [does, doesUpon, go_sem, hv, f0, Since.refl]
    · simp [does, doesUpon, go_sem, Since.refl]
    · simp [does, doesUpon, go_sem, Since.refl]
  case refine_3 =>
    intro vals x hx hv
    replace G := G.trans hx
    have hv0 : vals 0 = _ := hv 0 (by decide)
    have hv1 : vals 1 = _ := hv 1 (by decide)
    have hv2 : vals 2 = _ := hv 2 (by decide)
    have hv3 : vals 3 = _ := hv 3 (by decide)
    have hv4 : vals 4 = _ := hv 4 (by decide)
    have hv5 : vals 5 = _ := hv 5 (by decide)
    have hv6 : vals 6 = _ := hv 6 (by decide)
    have hv7 : vals 7 = _ := hv 7 (by decide)
    have hv8 : vals 8 = _ := hv 8 (by decide)
    have hv9 : vals 9 = _ := hv 9 (by decide)
    have hv10 : vals 10 = _ := hv 10 (by decide)
    have hv11 : vals 11 = _ := hv 11 (by decide)
    have hv12 : vals 12 = _ := hv 12 (by decide)
    have hv13 : vals 13 = _ := hv 13 (by decide)
    have hv14 : vals 14 = _ := hv 14 (by decide)
    have hv16 : vals 16 = _ := hv 16 (by decide)
    have hv17 : vals 17 = _ := hv 17 (by decide)
    simp only [hv0, hv1, hv2, hv3, hv4, hv5, hv6, hv7, hv8, hv9, hv10, hv11, hv12, hv13, hv14, hv16, hv17]
    clear hv hv0 hv1 hv2 hv3 hv4 hv5 hv6 hv7 hv8 hv9 hv10 hv11 hv12 hv13 hv14 hv16 hv17
    clear hh h3 hW hM A B g1 hx
    go_wp2_with (fail)
    go_ret
    exact ⟨rfl, G⟩

theorem specCookie (s h p j q e k : Int) (w : World) :
    Calls Tryd.prog 9 #[.int .u32 s, addrVal h p, addrVal j q, .int .i64 e, .int .i64 k] w fun f w' => f = .returned (.int .u32 (ckOf s h p j q e k)) ∧ Since w w' := by
  unfold ckOf
  cases hc : (ckOk p q e && decide (0 ≤ k ∧ k ≤ 7))
  · rw [if_neg (by simp)]
    exact specCookieNot s h p j q e k hc w
  · rw [if_pos rfl]
    exact specCookieOk s h p j q e k hc w
end Go.Proofs.YtjilpicpfddbfaaDoor
