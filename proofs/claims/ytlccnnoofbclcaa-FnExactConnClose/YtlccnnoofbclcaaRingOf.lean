/-
  Contract of impl.ringOf: the bytes of a buffer in a ring.
-/
import Derived.Test.YtlccnnoofbclcaaRingOps
import Derived.Test.YtlccnnoofbclcaaM1
namespace Go.Proofs.Ytlccnnoofbclcaa
open Go.ChangeShapes Go.WideShapes Go.ChangeAt Go.RowKit Go.Deep
set_option linter.unusedVariables false
set_option maxRecDepth 10000
set_option maxRecDepth 10000

/-- make([]byte, n) at a step of a region that draws its order. -/
theorem step_make_byt {ops : Array Oper} {o : Oper} {a : Act} {w : World} {K : Act → World → Prop} {Q : Exit → Act → World → Prop} {E : Prop} (hg : o.guard = none) (l c : Operand) (hop : o.op = Op.makeSlice 102 l c)
    (n : Nat) (hl : a.eval l = .int .i64 n) (hc : a.eval c = .int .i64 n) (hn : n ≤ 1073741824)
    (h : ∀ w', Byt w' w.heap.size n (fun _ => 0) → Since w w' → K (a.put o.dst (.slice (some ⟨w.heap.size, 0, none⟩) n n)) w') :
    if Region.wanted o (yielded ops a.tmps) = true then Oper.wp Try.prog o a w K Q else E := by
  have hw : Region.wanted o (yielded ops a.tmps) = true := by simp [Region.wanted, hg]
  rw [if_pos hw]
  obtain ⟨ii, hi, hz0, hz1, hz2⟩ := info_parts info_B
  obtain ⟨w', hrun, r1, r2⟩ := run_make_full (P := Try.prog) w w.heap.size 102 5 ii (.int .u8 0) 1 Try.underlying102 hi hz0 hz1 .i64 .i64 n (by rw [hz2]; omega) (by unfold maxLen; omega) (Nat.le_refl _)
  unfold Oper.wp
  simp [execOp, hop, hl, hc, hrun, Result.andThen]
  exact h w' (made_byt r1) ⟨r2.os, r2.tape, r2.output, r2.size, fun k hk => r2.block k hk (by simp)⟩

/-- The bytes of a text in a new block. -/
theorem bytesText (s : ByteArray) (w : World) : ∃ cap w1, (convert 9 102 (.string s)).run Try.prog w = .ok (.slice (some ⟨w.heap.size, 0, none⟩) s.size cap) w1 ∧ s.size ≤ cap ∧ Since w w1 ∧ w1.heap.size = w.heap.size + 1 ∧ ∀ i, i < s.size → w1.cell? ⟨w.heap.size, i, none⟩ = some (.int .u8 (byteAt s i)) := by
  refine ⟨_, _, run_bytes_of_string w 9 102 5 s Try.underlying9 Try.underlying102 Try.underlying5, grownCap_ge _ _ _ _, ?_, ?_, ?_⟩
  · exact ((Since.refl w).drew).alloc _
  · exact (World.size_alloc _ _)
  · intro i hi
    refine (World.cell?_alloc_mark w.drew _ _ _ i).trans ?_
    rw [bytesRow_at s _ i hi, byteAt_in s i hi]
    rfl

theorem ringOf (fi : Int) (d : ByteArray) (ro : Nat) (hf : IsWord fi) (h1' : 1 ≤ ro) (h2' : ro ≤ 4096) (hd : d.size ≤ ro) (w : World) :
    Calls Try.prog 71 #[outVal fi d ro] w fun e w' => ∃ r c f first, e = .returned (.pointer (some ⟨r, 0, none⟩)) ∧ w.heap.size ≤ r ∧ w.heap.size ≤ c ∧ Ring w' r c ro first d.size f ∧ (∀ j, j < d.size → f ((first + j) % ro) = byteAt d j) ∧ Since w w' := by
  obtain ⟨hf0, hf1⟩ := hf
  unfold outVal
  obtain ⟨u, rfl⟩ := Int.eq_ofNat_of_zero_le hf0
  have hmod : ((u : Nat) : Int).tmod (ro : Int) = ((u % ro : Nat) : Int) := by rw [Int.tmod_eq_emod_of_nonneg (by omega)]; simp
  have hlt : u % ro < ro := Nat.mod_lt _ (by omega)
  generalize u % ro = q at hmod hlt
  have hr0 : (ro : Int) ≠ 0 := by omega
  have hu : IntKind.i64.wrap (u : Int) = (u : Int) := by rw [IntWalk.i64_left]; exact IntWalk.wrap64_in _ ⟨by omega, by omega⟩
  have K : ∀ wx, Since (w.alloc (.cells #[.int .u32 u, .string d, .int .i64 ro] 35)) wx → wx.cell? ⟨w.heap.size, 0, none⟩ = some (.int .u32 u) ∧ wx.cell? ⟨w.heap.size, 1, none⟩ = some (.string d) ∧ wx.cell? ⟨w.heap.size, 2, none⟩ = some (.int .i64 ro) := fun wx h => by
    have k := (Blk.new w #[.int .u32 u, .string d, .int .i64 ro] 35).since h
    exact ⟨by simpa using k.cell 0, by simpa using k.cell 1, by simpa using k.cell 2⟩
  have G : Since w (w.alloc (.cells #[.int .u32 u, .string d, .int .i64 ro] 35)) := (Since.refl _).alloc _
  have K0 := K
  clear K
  go_enter Try.func71, Try.ntmps71
  go_wp2
  obtain ⟨wb, hwb⟩ : ∃ wb, w.alloc (.cells #[.int .u32 u, .string d, .int .i64 ro] 35) = wb := ⟨_, rfl⟩
  rw [hwb] at K0 G ⊢
  clear hwb
  refine wp_region_each (wb := wb) (fun i x v => match i with
      | 0 => v = .pointer (some ⟨w.heap.size, 2, none⟩)
      | 1 => v = .int .i64 ro
      | 2 => ∃ c, v = .slice (some ⟨c, 0, none⟩) ro ro ∧ Byt x c ro (fun _ => 0) ∧ w.heap.size ≤ c
      | 3 => v = .pointer (some ⟨w.heap.size, 0, none⟩)
      | 4 => v = .int .u32 u
      | 5 => v = .int .i64 u
      | 6 => v = .pointer (some ⟨w.heap.size, 2, none⟩)
      | 7 => v = .int .i64 ro
      | 8 => v = .int .i64 q
      | 9 => ∃ c, v = .agg #[.slice (some ⟨c, 0, none⟩) ro ro, .int .i64 q, .int .i64 0] ∧ Byt x c ro (fun _ => 0) ∧ w.heap.size ≤ c
      | 10 => ∃ r c, v = .pointer (some ⟨r, 0, none⟩) ∧ Blk r x #[.slice (some ⟨c, 0, none⟩) ro ro, .int .i64 q, .int .i64 0] ∧ Byt x c ro (fun _ => 0) ∧ w.heap.size ≤ r ∧ w.heap.size ≤ c ∧ r ≠ c
      | 11 => ∃ r c, v = .pointer (some ⟨r, 0, none⟩) ∧ Blk r x #[.slice (some ⟨c, 0, none⟩) ro ro, .int .i64 q, .int .i64 0] ∧ Byt x c ro (fun _ => 0) ∧ w.heap.size ≤ r ∧ w.heap.size ≤ c ∧ r ≠ c
      | _ => True) (fun v => { tmps := #[Value.agg #[Value.int IntKind.u32 (u : Int), Value.string d, Value.int IntKind.i64 (ro : Int)], Value.pointer (some ⟨w.heap.size, 0, none⟩), Value.pointer none, v 11, v 0, v 1, v 2, v 3, v 4, v 5, v 6, v 7, v 8, v 9, v 10, undef, undef, undef, undef, undef, undef], defers := [] }) (by kernel_rfl) (by kernel_rfl) (Since.refl _) ?_ (fun _ => by kernel_rfl) ?_ ?_
  case refine_1 =>
    intro j x x' v h1 h2
    match j, h2 with
    | 2, h2 =>
      obtain ⟨c, e, T, hc⟩ := h2
      exact ⟨c, e, T.since h1, hc⟩
    | 9, h2 =>
      obtain ⟨c, e, T, hc⟩ := h2
      exact ⟨c, e, T.since h1, hc⟩
    | 10, h2 =>
      obtain ⟨r, c, e, k1, T, hx⟩ := h2
      exact ⟨r, c, e, k1.since h1, T.since h1, hx⟩
    | 11, h2 =>
      obtain ⟨r, c, e, k1, T, hx⟩ := h2
      exact ⟨r, c, e, k1.since h1, T.since h1, hx⟩
    | 0, h2 | 1, h2 | 3, h2 | 4, h2 | 5, h2 | 6, h2 | 7, h2 | 8, h2 => exact h2
    | n + 12, _ => trivial
  case refine_2 =>
    repeat (first | exact eachDoes_nil | refine eachDoes_cons ?_ ?_)
    all_goals intro vals x hx hv
    all_goals simp [Region.binds] at hv
    · obtain ⟨r, e, hr⟩ := hv.1
      simp [does, doesUpon, go_sem, e, Since.refl]
      exact hr
    · obtain ⟨c, e, T, hc⟩ := hv
      simp [does, doesUpon, go_sem, e]
      refine ⟨(Since.refl _).alloc _, c, ?_, T.since ((Since.refl _).alloc _), ?_, hc, ?_⟩
      · exact Blk.new x _ _
      · exact Nat.le_trans G.le hx.le
      · have := T.lt
        omega
    · obtain ⟨⟨c, e, T, hc⟩, h8⟩ := hv
      simp [does, doesUpon, go_sem, e, h8, Since.refl]
      exact ⟨T, hc⟩
    · obtain ⟨h5, h7⟩ := hv
      simp [does, doesUpon, go_sem, h5, h7, Since.refl, hmod, show ro ≠ 0 by omega]
    · obtain ⟨k0, k1, k2⟩ := K0 x hx
      simp [does, doesUpon, go_sem, hv, k2, Since.refl]
    · simp [does, doesUpon, go_sem, Since.refl]
    · simp [does, doesUpon, go_sem, hv, Since.refl, hu]
    · obtain ⟨k0, k1, k2⟩ := K0 x hx
      simp [does, doesUpon, go_sem, hv, k0, Since.refl]
    · simp [does, doesUpon, go_sem, Since.refl]
    · obtain ⟨ii, hi, hz0, hz1, hz2⟩ := info_parts info_B
      obtain ⟨w', hrun, r1, r2⟩ := run_make_full (P := Try.prog) x x.heap.size 102 5 ii (.int .u8 0) 1 Try.underlying102 hi hz0 hz1 .i64 .i64 ro (by rw [hz2]; omega) (by unfold maxLen; omega) (Nat.le_refl _)
      simp [does, doesUpon, go_sem, hv, hrun]
      exact ⟨⟨r2.os, r2.tape, r2.output, r2.size, fun k hk => r2.block k hk (by simp)⟩, made_byt r1, Nat.le_trans G.le hx.le⟩
    · obtain ⟨k0, k1, k2⟩ := K0 x hx
      simp [does, doesUpon, go_sem, hv, k2, Since.refl]
    · simp [does, doesUpon, go_sem, Since.refl]
  case refine_3 =>
    intro vals x hx hv
    have h11 := hv 11 (by decide)
    clear hv
    obtain ⟨r, c, e, k1, T, h1, h2, h3⟩ := h11
    simp only [e]
    generalize vals 0 = v0
    generalize vals 1 = v1
    generalize vals 2 = v2
    generalize vals 3 = v3
    generalize vals 4 = v4
    generalize vals 5 = v5
    generalize vals 6 = v6
    generalize vals 7 = v7
    generalize vals 8 = v8
    generalize vals 9 = v9
    generalize vals 10 = v10
    obtain ⟨c0, c1, c2⟩ := K0 x hx
    obtain ⟨cap, w1, hconv, hcap, g1, hsz, hcell⟩ := bytesText d x
    have hR : Ring w1 r c ro q 0 (fun _ => 0) := ⟨k1.since g1, T.since g1, h3, by omega, h2', hlt, by omega⟩
    have hc := T.lt
    have hput := put r c ro q 0 (fun _ => 0) (byteAt d) x.heap.size d.size cap d.size (Nat.le_refl _) (by omega) (.inl rfl) hcap (by omega) w1 hR hcell (by omega) (by omega) w.heap.size h1 h2 (Nat.le_trans (G.trans hx).le g1.le)
    replace hcell : Hid _ := hcell
    go_wp2_with (fail)
    refine hput.mono ?_
    rintro _ w2 ⟨rfl, hB, f', R', hold, hnew⟩
    replace hnew : Hid _ := hnew
    go_wp2
    go_ret
    refine ⟨r, c, f', q, rfl, h1, h2, by simpa using R', fun j hj => ?_, ?_⟩
    · have := hnew.out j hj
      rwa [Nat.zero_add] at this
    · exact Below.trans ((G.trans hx).trans g1) hB
end Go.Proofs.Ytlccnnoofbclcaa
