/-
  Contracts of impl's freshOut, hasPlace and OutPut.
  Contract of impl's OutTake.
-/
import Derived.Test.YtlccnnoofbclcaaGreatM6
import Derived.Test.YtlccnnoofbclcaaGreatM5
import Derived.Test.YtlccnnoofbclcaaGreatM1
import Derived.Test.YtlccnnoofbclcaaGreatM25
namespace Go.Proofs.YtlccnnoofbclcaaGreat
open Go.ChangeShapes Go.WideShapes Go.ChangeAt Go.RowKit Go.Deep
set_option linter.unusedVariables false
set_option maxRecDepth 10000
set_option maxRecDepth 10000

theorem freshOut (f : Int) (d : ByteArray) (r : Int) (hd : d.size ≤ 1048576) (w : World) :
    Calls Tryz.prog 83 #[outVal f d r] w fun e w' => e = .returned (outVal f d r) ∧ Since w w' := by
  unfold outVal
  have G : Since w ((w.alloc (.cells #[.int .u32 f, .string d, .int .i64 r] 35)).alloc (.cells #[.int .u32 0, .string ⟨#[]⟩, .int .i64 0] 35)) := ((Since.refl _).alloc _).alloc _
  have A := (Blk.new w #[.int .u32 f, .string d, .int .i64 r] 35).since ((Since.refl _).alloc (.cells #[.int .u32 0, .string ⟨#[]⟩, .int .i64 0] 35))
  have B := Blk.new (w.alloc (.cells #[.int .u32 f, .string d, .int .i64 r] 35)) #[.int .u32 0, .string ⟨#[]⟩, .int .i64 0] 35
  simp only [World.size_alloc] at A B
  go_enter Tryz.func83, Tryz.ntmps83
  go_wp2
  obtain ⟨wb, hwb⟩ : ∃ wb, (w.alloc (.cells #[.int .u32 f, .string d, .int .i64 r] 35)).alloc (.cells #[.int .u32 0, .string ⟨#[]⟩, .int .i64 0] 35) = wb := ⟨_, rfl⟩
  rw [hwb] at A B G ⊢
  clear hwb
  refine wp_region_tail (wb := wb) 8 (fun i x v => match i with
      | 0 => v = .pointer (some ⟨w.heap.size, 0, none⟩)
      | 1 => v = .int .u32 f
      | 2 => v = .pointer (some ⟨w.heap.size, 1, none⟩)
      | 3 => v = .string d
      | 4 => v = .string d
      | 5 => v = .pointer (some ⟨w.heap.size, 2, none⟩)
      | 6 => v = .int .i64 r
      | 7 => v = .agg #[.int .u32 f, .string d, .int .i64 r]
      | _ => True) (fun v => { tmps := #[Value.agg #[Value.int IntKind.u32 f, Value.string d, Value.int IntKind.i64 r], Value.pointer (some ⟨w.heap.size, 0, none⟩), Value.pointer (some ⟨w.heap.size + 1, 0, none⟩), v 0, v 1, v 2, v 3, v 4, v 5, v 6, v 7], defers := [] }) (by kernel_rfl) (by kernel_rfl) (by kernel_rfl) (Since.refl _) ?_ (fun vals => by kernel_rfl) ?_ ?_
  case refine_1 =>
    intro j x x' v h1 h2
    match j, h2 with
    | 0, h2 | 1, h2 | 2, h2 | 3, h2 | 4, h2 | 5, h2 | 6, h2 | 7, h2 => exact h2
    | n + 8, _ => trivial
  case refine_2 =>
    repeat (first | exact eachDoes_nil | refine eachDoes_cons ?_ ?_)
    all_goals intro vals x hx hv
    all_goals simp [Region.binds] at hv
    · simp [does, doesUpon, go_sem, hv, Since.refl]
    · have e := (A.since hx).cell 2
      simp at e
      simp [does, doesUpon, go_sem, hv, e, Since.refl]
    · simp [does, doesUpon, go_sem, Since.refl]
    · simp [does, doesUpon, go_sem, hv]
      refine (clone d hd x).mono ?_
      rintro _ x' ⟨rfl, h1⟩
      simp [h1]
    · have e := (A.since hx).cell 1
      simp at e
      simp [does, doesUpon, go_sem, hv, e, Since.refl]
    · simp [does, doesUpon, go_sem, Since.refl]
    · have e := (A.since hx).cell 0
      simp at e
      simp [does, doesUpon, go_sem, hv, e, Since.refl]
    · simp [does, doesUpon, go_sem, Since.refl]
  case refine_3 =>
    intro vals x hx hv
    have h7 : vals 7 = _ := hv 7 (by decide)
    clear hv
    simp only [h7]
    have B1 := B.since hx
    have b0 := B1.cell 0
    have b1 := B1.cell 1
    have b2 := B1.cell 2
    simp at b0 b1 b2
    have z0 := B1.fz 0
    have z1 := B1.fz 1
    have z2 := B1.fz 2
    go_wp2
    refine bodyPost_ret (v := .agg #[.int .u32 f, .string d, .int .i64 r]) ?_ rfl ⟨rfl, ?_⟩
    · simp [results, go_sem, (stored3 B1 (.int .u32 f) (.string d) (.int .i64 r)).1, (stored3 B1 (.int .u32 f) (.string d) (.int .i64 r)).2.1, (stored3 B1 (.int .u32 f) (.string d) (.int .i64 r)).2.2]
    · exact since_put3 (G.trans hx) (by omega) _ _ _

theorem hasPlace (f : Int) (d : ByteArray) (r q m : Int) (hf : IsWord f) (hq : IsWord q) (hm : IsAhead f q m) (hd : d.size ≤ 1048576) (w : World) :
    Calls Tryz.prog 121 #[outVal f d r, .int .u32 q] w fun e w' => e = .returned (.bool (decide (m < (d.size : Int) + 1))) ∧ Since w w' := by
  unfold outVal
  have hw := fun wx => within q f ((d.size : Int) + 1) m hq hf hm wx
  generalize decide (m < (d.size : Int) + 1) = b at hw
  go_enter Tryz.func121, Tryz.ntmps121
  go_wp2_with (go_at_call 130; refine (hw _).mono ?_; rintro _ _ ⟨rfl, rfl⟩)
  go_ret
  exact ⟨rfl, (Since.refl _).alloc _⟩
end Go.Proofs.YtlccnnoofbclcaaGreat

namespace Go.Proofs.YtlccnnoofbclcaaGreat
open Go.ChangeShapes Go.WideShapes Go.ChangeAt Go.RowKit Go.Deep
set_option linter.unusedVariables false
set_option maxRecDepth 10000
set_option maxRecDepth 10000

theorem place_dist (f q m at' : Int) (n : Nat) (hm : IsAhead f q m) (ha : IsDist f q at') (hn : n ≤ 1048576) : decide (m < (n : Int) + 1) = decide (0 ≤ at' ∧ at' ≤ (n : Int)) := by
  obtain ⟨h1, h2, h3⟩ := hm
  obtain ⟨k1, k2, k3⟩ := ha
  have : (m < (n : Int) + 1) ↔ (0 ≤ at' ∧ at' ≤ (n : Int)) := by omega
  simp [this]

theorem implOutTake (f : Int) (d : ByteArray) (r q n at' : Int) (hf : IsWord f) (hq : IsWord q) (ha : IsDist f q at') (hd : d.size ≤ 1048576) (hn : IsInt n) (w : World) :
    Calls Tryz.prog 101 #[outVal f d r, .int .u32 q, .int .i64 n] w fun e w' => e = .returned (.string (takeT f d r q n at')) ∧ Since w w' := by
  have ho := fun wx => implOutOk f d r wx
  have hi1 := fun wx => isAmount n wx
  have hdist := fun wx => implDist f q at' hf hq ha wx
  obtain ⟨mm, hm⟩ := isAhead_ex f q
  have hpl := fun wx => hasPlace f d r q mm hf hq hm hd wx
  rw [place_dist f q mm at' d.size hm ha hd] at hpl
  have G : Since w (w.alloc (.cells #[.int .u32 f, .string d, .int .i64 r] 35)) := (Since.refl _).alloc _
  have A := Blk.new w #[.int .u32 f, .string d, .int .i64 r] 35
  clear hm
  unfold takeT
  cases hk : outOk d r
  · rw [if_neg (by simp)]
    rw [hk] at ho
    unfold outVal at *
    go_enter Tryz.func101, Tryz.ntmps101
    go_wp2_with (first | (go_at_call 85; refine (ho _).mono ?_; rintro _ w1 ⟨rfl, g1⟩; replace G := G.trans g1; replace A := A.since g1; have a0 := A.cell 0; have a1 := A.cell 1; have a2 := A.cell 2; simp at a0 a1 a2) | (go_at_call 120; refine (hi1 _).mono ?_; rintro _ _ ⟨rfl, rfl⟩) | (go_at_call 121; refine (hpl _).mono ?_; rintro _ w4 ⟨rfl, g4⟩; replace G := G.trans g4; replace A := A.since g4))
    go_ret
    exact ⟨rfl, G⟩
  · rw [hk] at ho
    obtain ⟨h1, h2, h3⟩ := (outOk_iff d r).1 hk
    obtain ⟨m, rfl⟩ := Int.eq_ofNat_of_zero_le (show 0 ≤ r by omega)
    by_cases c1 : 0 ≤ n ∧ n ≤ 4096
    · rw [show decide (0 ≤ n ∧ n ≤ 4096) = true by simp; omega] at hi1
      by_cases c2 : 0 ≤ at' ∧ at' ≤ d.size
      · rw [show decide (0 ≤ at' ∧ at' ≤ (d.size : Int)) = true by simp; omega] at hpl
        rw [if_pos ⟨rfl, c1, c2⟩]
        obtain ⟨k, rfl⟩ := Int.eq_ofNat_of_zero_le c2.1
        obtain ⟨nn, rfl⟩ := Int.eq_ofNat_of_zero_le c1.1
        obtain ⟨_, c3⟩ := c2
        obtain ⟨_, c5⟩ := c1
        have hri := fun wx => ringOf f d m hf (by omega) (by omega) (by omega) wx
        rw [show ((k : Nat) : Int).toNat = k by omega]
        obtain ⟨t, ht⟩ : ∃ t, min ((nn : Nat) : Int).toNat (d.size - k) = t := ⟨_, rfl⟩
        rw [ht]
        have ht1 : t ≤ nn := by omega
        have ht2 : k + t ≤ d.size := by omega
        have ht3 : t = nn ∨ k + t = d.size := by omega
        replace ht3 : Hid _ := ht3
        have hD : textOf (fun j => byteAt d (k + j)) t = d.extract k (k + t) := textOf_is _ _ _ (by rw [ByteArray.size_extract]; omega) fun i hi => (bt_cut d k (k + t) i (by omega) (by omega)).symm
        replace hD : Hid _ := hD
        clear ht hk ha hn
        unfold outVal at *
        go_enter Tryz.func101, Tryz.ntmps101
        go_wp2_with (first | (go_at_call 85; refine (ho _).mono ?_; rintro _ w1 ⟨rfl, g1⟩; replace G := G.trans g1; replace A := A.since g1; have a0 := A.cell 0; have a1 := A.cell 1; have a2 := A.cell 2; simp at a0 a1 a2) | (go_at_call 120; refine (hi1 _).mono ?_; rintro _ _ ⟨rfl, rfl⟩) | (go_at_call 121; refine (hpl _).mono ?_; rintro _ w4 ⟨rfl, g4⟩; replace G := G.trans g4; replace A := A.since g4))
        refine wp_region_each (wb := w4) (fun i x v => match i with
            | 0 => v = .agg #[.int .u32 f, .string d, .int .i64 m]
            | 1 => ∃ rg, v = .pointer (some ⟨rg, 0, none⟩) ∧ ∃ c f3 fi, Ring x rg c m fi d.size f3 ∧ ∀ j, j < d.size → f3 ((fi + j) % m) = byteAt d j
            | 2 => v = .pointer (some ⟨w.heap.size, 0, none⟩)
            | 3 => v = .int .u32 f
            | 4 => v = .int .u32 q
            | 5 => v = .int .i64 k
            | 6 => v = .int .i64 nn
            | 7 => ∃ b, (∃ cap, v = .slice (some ⟨b, 0, none⟩) t cap) ∧ ∀ j, j < t → x.cell? ⟨b, j, none⟩ = some (.int .u8 (byteAt d (k + j)))
            | 8 => v = .string (d.extract k (k + t))
            | 9 => v = .string (d.extract k (k + t))
            | _ => True) (fun v => { tmps := #[Value.agg #[Value.int IntKind.u32 f, Value.string d, Value.int IntKind.i64 (m : Int)], Value.int IntKind.u32 q, Value.int IntKind.i64 (nn : Int), Value.pointer (some ⟨w.heap.size, 0, none⟩), undef, undef, v 9, Value.agg #[Value.int IntKind.u32 f, Value.string d, Value.int IntKind.i64 (m : Int)], Value.bool true, Value.bool false, Value.bool false, Value.int IntKind.i64 (nn : Int), Value.bool true, Value.bool false, Value.bool false, Value.bool false, Value.agg #[Value.int IntKind.u32 f, Value.string d, Value.int IntKind.i64 (m : Int)], Value.int IntKind.u32 q, Value.bool true, Value.bool false, Value.bool false, v 0, v 1, v 2, v 3, v 4, v 5, v 6, v 7, v 8], defers := [] }) (by kernel_rfl) (by kernel_rfl) (Since.refl _) ?_ (fun vals => by kernel_rfl) ?_ ?_
        case refine_1 =>
          intro j x x' v h1 h2
          match j, h2 with
          | 1, h2 =>
            obtain ⟨rg, e, c, f3, fi, R3, hb⟩ := h2
            exact ⟨rg, e, c, f3, fi, R3.since h1, hb⟩
          | 7, h2 =>
            obtain ⟨b, e, hc⟩ := h2
            exact ⟨b, e, fun j hj => (Below.cell h1 (p := ⟨b, j, none⟩) (World.block_lt_of_cell? _ _ (hc j hj))).trans (hc j hj)⟩
          | 0, h2 | 2, h2 | 3, h2 | 4, h2 | 5, h2 | 6, h2 | 8, h2 | 9, h2 => exact h2
          | n + 10, _ => trivial
        case refine_2 =>
          repeat (first | exact eachDoes_nil | refine eachDoes_cons ?_ ?_)
          all_goals intro vals x hx hv
          all_goals simp [Region.binds] at hv
          · simp [does, doesUpon, go_sem, hv, Since.refl]
          · obtain ⟨b, ⟨cap, e⟩, hc⟩ := hv
            have hb := bytesBack (fun j => byteAt d (k + j)) t cap b x hc
            rw [hD.out] at hb
            simp [does, doesUpon, go_sem, e, hb, Since.refl]
          · obtain ⟨⟨rg, e, c, f3, fi, R3, hb⟩, h5, h6⟩ := hv
            simp [does, doesUpon, go_sem, e, h5, h6]
            refine (taken rg c m fi d.size f3 k nn t (by omega) ht1 ht2 ht3.out (by omega) x R3).mono ?_
            rintro _ x' ⟨b, cap, rfl, hc, _, h1⟩
            exact ⟨_, rfl, h1, b, ⟨cap, rfl⟩, fun j hj => by rw [hc j hj, hb (k + j) (by omega)]⟩
          · simp [does, doesUpon, go_sem, Since.refl]
          · obtain ⟨h3, h4⟩ := hv
            simp [does, doesUpon, go_sem, h3, h4]
            refine (hdist x).mono ?_
            rintro _ _ ⟨rfl, rfl⟩
            simp [Since.refl]
          · simp [does, doesUpon, go_sem, Since.refl]
          · have e := (A.since hx).cell 0
            simp at e
            simp [does, doesUpon, go_sem, hv, e, Since.refl]
          · simp [does, doesUpon, go_sem, Since.refl]
          · simp [does, doesUpon, go_sem, hv]
            refine (hri x).mono ?_
            rintro _ x' ⟨rg, c, f3, fi, rfl, _, _, R3, hb, h1⟩
            exact ⟨_, rfl, h1, rg, rfl, c, f3, fi, R3, hb⟩
          · have e0 := (A.since hx).cell 0
            have e1 := (A.since hx).cell 1
            have e2 := (A.since hx).cell 2
            simp at e0 e1 e2
            simp [does, doesUpon, go_sem, e0, e1, e2, Since.refl]
        case refine_3 =>
          intro vals x hx hv
          have h9 : vals 9 = _ := hv 9 (by decide)
          clear hv
          simp only [h9]
          go_wp2
          go_ret
          exact ⟨rfl, G.trans hx⟩
      · rw [show decide (0 ≤ at' ∧ at' ≤ (d.size : Int)) = false by simp; omega] at hpl
        rw [if_neg (fun h => c2 h.2.2)]
        clear c2 ha hn
        unfold outVal at *
        go_enter Tryz.func101, Tryz.ntmps101
        go_wp2_with (first | (go_at_call 85; refine (ho _).mono ?_; rintro _ w1 ⟨rfl, g1⟩; replace G := G.trans g1; replace A := A.since g1; have a0 := A.cell 0; have a1 := A.cell 1; have a2 := A.cell 2; simp at a0 a1 a2) | (go_at_call 120; refine (hi1 _).mono ?_; rintro _ _ ⟨rfl, rfl⟩) | (go_at_call 121; refine (hpl _).mono ?_; rintro _ w4 ⟨rfl, g4⟩; replace G := G.trans g4; replace A := A.since g4))
        go_ret
        exact ⟨rfl, G⟩
    · rw [show decide (0 ≤ n ∧ n ≤ 4096) = false by simp; omega] at hi1
      rw [if_neg (fun h => c1 h.2.1)]
      clear c1 ha hn
      unfold outVal at *
      go_enter Tryz.func101, Tryz.ntmps101
      go_wp2_with (first | (go_at_call 85; refine (ho _).mono ?_; rintro _ w1 ⟨rfl, g1⟩; replace G := G.trans g1; replace A := A.since g1; have a0 := A.cell 0; have a1 := A.cell 1; have a2 := A.cell 2; simp at a0 a1 a2) | (go_at_call 120; refine (hi1 _).mono ?_; rintro _ _ ⟨rfl, rfl⟩) | (go_at_call 121; refine (hpl _).mono ?_; rintro _ w4 ⟨rfl, g4⟩; replace G := G.trans g4; replace A := A.since g4))
      go_ret
      exact ⟨rfl, G⟩
end Go.Proofs.YtlccnnoofbclcaaGreat
