/-
  Contract of spec's InOk.
-/
import Derived.Test.YtpkenhcglnognaaInPure
import Derived.BigQuiet
namespace Go.Proofs.Ytpkenhcglnognaa
open Go.ChangeShapes Go.WideShapes Go.ChangeAt Go.RowKit Go.Deep
set_option linter.unusedVariables false
set_option maxRecDepth 10000
set_option maxRecDepth 10000

set_option maxHeartbeats 2000000 in
theorem specInOk (q : Int) (d : ByteArray) (r : Int) (a : Option Addr) (n cap : Nat) (ps : List (Int × ByteArray)) (g : Good q d r n ps) (w : World) (R : Rd shP w a n ps) :
    Calls Try.prog 29 #[inVal q d (.slice a n cap) r] w fun e w' => e = .returned (.bool (inOk q d r ps)) ∧ Since w w' := by
  have G : Since w (w.alloc (.cells #[.int .u32 q, .string d, .slice a n cap, .int .i64 r] 47)) := (Since.refl _).alloc _
  have A := Blk.new w #[.int .u32 q, .string d, .slice a n cap, .int .i64 r] 47
  have a0 := A.cell 0
  have a1 := A.cell 1
  have a2 := A.cell 2
  have a3 := A.cell 3
  simp at a0 a1 a2 a3
  have hlen := R.len
  obtain ⟨hq, hd, ⟨hr1, hr2⟩, hn, hp⟩ := g
  have i1 := fun wx => specIn r 1 4096 wx
  unfold inVal inOk
  by_cases c1 : 1 ≤ r ∧ r ≤ 4096
  · rw [show decide (1 ≤ r ∧ r ≤ 4096) = true by simp; omega] at i1 ⊢
    rw [Bool.true_and]
    by_cases c2 : (d.size : Int) ≤ r
    · rw [show decide ((d.size : Int) ≤ r) = true by simp; omega, Bool.true_and]
      obtain ⟨c1, c1'⟩ := c1
      by_cases c3 : (4096 : Int) < (n : Int)
      · rw [okB_great (by omega) (by omega) (by rw [spans_len, hlen]; omega)]
        clear R hp
        go_enter Try.func29, Try.ntmps29
        go_wp2_with (go_at_call 15; refine (i1 _).mono ?_; rintro _ _ ⟨rfl, rfl⟩)
        go_ret
        exact ⟨rfl, G⟩
      · have Rw := R.since G
        obtain ⟨W, hW⟩ : ∃ W, r - (d.size : Int) = W := ⟨_, rfl⟩
        obtain ⟨z, hz⟩ : ∃ z, Hid (okB 0 (r - d.size) (spans q ps) = z) := ⟨_, rfl⟩
        rw [hz.out]
        go_enter Try.func29, Try.ntmps29
        go_wp2_with (go_at_call 15; refine (i1 _).mono ?_; rintro _ _ ⟨rfl, rfl⟩)
        go_loopw [3, 4] (fun e i wr => ∃ (k : Nat) (ev : Int), k ≤ n ∧ i = .int .i64 k ∧ e = .int .i64 ev ∧ 0 ≤ ev ∧ ev ≤ 4096 ∧ Hid (okB ev (r - d.size) ((spans q ps).drop k) = z) ∧ Since (w.alloc (.cells #[.int .u32 q, .string d, .slice a n cap, .int .i64 r] 47)) wr) (fun _ i _ => n - (intOf i).toNat)
        case atStart => exact ⟨0, 0, by omega, rfl, rfl, by omega, by omega, by simpa using hz, Since.refl _⟩
        case round =>
          obtain ⟨k, ev, hk, rfl, rfl, he0, he1, hz', S⟩ := hrel
          have A2 := A.since S
          have b0 := A2.cell 0
          have b1 := A2.cell 1
          have b2 := A2.cell 2
          have b3 := A2.cell 3
          simp at b0 b1 b2 b3
          clear a0 a1 a2 a3 i1
          by_cases hlt : k < n
          · obtain ⟨x, rfl, hb, p0, p1⟩ := (Rw.since S).prt k hlt
            obtain ⟨hp1, hp2⟩ := hp k hlt
            have hz2 := hz'.out
            rw [okB_step (by omega)] at hz2
            unfold spn at hz2
            have hdist := fun wx => specDist q (pAt ps k).1 (distI q (pAt ps k).1) hq hp1 (distI_is _ _) wx
            obtain ⟨hd1, hd2, _⟩ := distI_is q (pAt ps k).1
            generalize hO : pAt ps k = O at p0 p1 hp1 hp2 hz2 hdist hd1 hd2
            generalize distI q O.1 = t at hz2 hdist hd1 hd2
            have hlt' : (k : Int) < (n : Int) := by omega
            have hadd : IntKind.i64.wrap (t + (O.2.size : Int)) = t + (O.2.size : Int) := by rw [IntWalk.i64_left]; exact IntWalk.wrap64_in _ ⟨by omega, by omega⟩
            have hsub : IntKind.i64.wrap (r - (d.size : Int)) = r - (d.size : Int) := by rw [IntWalk.i64_left]; exact IntWalk.wrap64_in _ ⟨by omega, by omega⟩
            clear hp R Rw hz'
            replace hz2 : Hid _ := hz2
            have xb : (x.add (k * 2)).block = x.block := add_block _ _
            have k0 : ∀ z : Later wr, z.val.cell? ⟨w.heap.size, 0, none⟩ = some (.int .u32 q) := fun z => (Below.cell z.ok (p := ⟨w.heap.size, 0, none⟩) A2.lt).trans b0
            have k1 : ∀ z : Later wr, z.val.cell? ⟨w.heap.size, 1, none⟩ = some (.string d) := fun z => (Below.cell z.ok (p := ⟨w.heap.size, 1, none⟩) A2.lt).trans b1
            have k2 : ∀ z : Later wr, z.val.cell? ⟨w.heap.size, 2, none⟩ = some (.slice (some x) n cap) := fun z => (Below.cell z.ok (p := ⟨w.heap.size, 2, none⟩) A2.lt).trans b2
            have k3 : ∀ z : Later wr, z.val.cell? ⟨w.heap.size, 3, none⟩ = some (.int .i64 r) := fun z => (Below.cell z.ok (p := ⟨w.heap.size, 3, none⟩) A2.lt).trans b3
            have m0 : ∀ z : Later wr, z.val.cell? (x.add (k * 2)) = some (.int .u32 O.1) := fun z => (Below.cell z.ok (p := x.add (k * 2)) (by rw [xb]; exact hb)).trans p0
            have m1 : ∀ z : Later wr, z.val.cell? ⟨(x.add (k * 2)).block, (x.add (k * 2)).off + 1, none⟩ = some (.string O.2) := fun z => (Below.cell z.ok (p := ⟨(x.add (k * 2)).block, (x.add (k * 2)).off + 1, none⟩) (by show (x.add (k * 2)).block < _; rw [xb]; exact hb)).trans p1
            have hcall : ∀ z : Later wr, Calls Try.prog 32 #[.int .u32 q, .int .u32 O.1] z.val fun e w'' => e = .returned (.int .i64 t) ∧ ∃ y : Later wr, w'' = y.val := fun z => (hdist z.val).mono (by rintro _ _ ⟨h1, rfl⟩; exact ⟨h1, z, rfl⟩)
            clear hdist xb hb
            by_cases hc : ev < t ∧ t < t + (O.2.size : Int) ∧ t + (O.2.size : Int) ≤ r - (d.size : Int)
            · obtain ⟨hc1, hc2, hc3⟩ := hc
              have hd3 : ((O.2.size : Int) == 0) = false := by rw [beq_eq_false_iff_ne]; omega
              have hd4 : decide ((4096 : Int) < (O.2.size : Int)) = false := decide_eq_false (by omega)
              have hd5 : decide (t ≤ ev) = false := decide_eq_false (by omega)
              have hd6 : decide (r - (d.size : Int) < t + (O.2.size : Int)) = false := decide_eq_false (by omega)
              go_wp2
              have hne : Nonempty (Later wr) := ⟨⟨wr, Since.refl _⟩⟩
              refine wp_region_calm (wb := wr) (by kernel_rfl) (by kernel_rfl) (Since.refl _) ?_
              repeat (go_big_quiet_step (exact hcall _))
              refine wpQuiet_nil ?_
              rintro _ ⟨y, rfl⟩
              have d0 := k0 y
              have d1 := k1 y
              have d2 := k2 y
              have d3 := k3 y
              have e1 := m1 y
              clear k0 k1 k2 k3 m0 m1 hcall b0 b1 b2 b3 p0 p1
              go_wp2
              go_quiet (fail)
              go_wp2
              have hz3 := hz2.out
              rw [show decide (ev < t ∧ t < t + (O.2.size : Int) ∧ t + (O.2.size : Int) ≤ r - (d.size : Int)) = true from decide_eq_true ⟨hc1, hc2, hc3⟩, Bool.true_and] at hz3
              clear hz2
              replace hz3 : Hid _ := hz3
              go_roundw
              case rel => exact ⟨k + 1, t + O.2.size, by omega, by go_num, rfl, by omega, by omega, hz3, since_drews (S.trans y.ok) _⟩
              case measure => simp [intOf]; omega
            · by_cases s3 : (O.2.size : Int) = 0
              · have hz3 : z = false := by rw [← hz2.out, decide_eq_false hc, Bool.false_and]
                subst hz3
                clear hz2 hc
                have hd3 : ((O.2.size : Int) == 0) = true := by rw [beq_iff_eq]; omega
                go_wp2
                have hne : Nonempty (Later wr) := ⟨⟨wr, Since.refl _⟩⟩
                refine wp_region_calm (wb := wr) (by kernel_rfl) (by kernel_rfl) (Since.refl _) ?_
                repeat (go_big_quiet_step (exact hcall _))
                refine wpQuiet_nil ?_
                rintro _ ⟨y, rfl⟩
                have d0 := k0 y
                have d1 := k1 y
                have d2 := k2 y
                have d3 := k3 y
                have e1 := m1 y
                clear k0 k1 k2 k3 m0 m1 hcall b0 b1 b2 b3 p0 p1
                go_wp2
                go_quiet (fail)
                go_wp2
                go_ret
                exact ⟨rfl, G.trans (since_drews (S.trans y.ok) _)⟩
              by_cases s4 : (4096 : Int) < (O.2.size : Int)
              · have hz3 : z = false := by rw [← hz2.out, decide_eq_false hc, Bool.false_and]
                subst hz3
                clear hz2 hc
                have hd3 : ((O.2.size : Int) == 0) = false := by rw [beq_eq_false_iff_ne]; omega
                have hd4 : decide ((4096 : Int) < (O.2.size : Int)) = true := decide_eq_true (by omega)
                go_wp2
                have hne : Nonempty (Later wr) := ⟨⟨wr, Since.refl _⟩⟩
                refine wp_region_calm (wb := wr) (by kernel_rfl) (by kernel_rfl) (Since.refl _) ?_
                repeat (go_big_quiet_step (exact hcall _))
                refine wpQuiet_nil ?_
                rintro _ ⟨y, rfl⟩
                have d0 := k0 y
                have d1 := k1 y
                have d2 := k2 y
                have d3 := k3 y
                have e1 := m1 y
                clear k0 k1 k2 k3 m0 m1 hcall b0 b1 b2 b3 p0 p1
                go_wp2
                go_quiet (fail)
                go_wp2
                go_ret
                exact ⟨rfl, G.trans (since_drews (S.trans y.ok) _)⟩
              by_cases s5 : t ≤ ev
              · have hz3 : z = false := by rw [← hz2.out, decide_eq_false hc, Bool.false_and]
                subst hz3
                clear hz2 hc
                have hd3 : ((O.2.size : Int) == 0) = false := by rw [beq_eq_false_iff_ne]; omega
                have hd4 : decide ((4096 : Int) < (O.2.size : Int)) = false := decide_eq_false (by omega)
                have hd5 : decide (t ≤ ev) = true := decide_eq_true (by omega)
                go_wp2
                have hne : Nonempty (Later wr) := ⟨⟨wr, Since.refl _⟩⟩
                refine wp_region_calm (wb := wr) (by kernel_rfl) (by kernel_rfl) (Since.refl _) ?_
                repeat (go_big_quiet_step (exact hcall _))
                refine wpQuiet_nil ?_
                rintro _ ⟨y, rfl⟩
                have d0 := k0 y
                have d1 := k1 y
                have d2 := k2 y
                have d3 := k3 y
                have e1 := m1 y
                clear k0 k1 k2 k3 m0 m1 hcall b0 b1 b2 b3 p0 p1
                go_wp2
                go_quiet (fail)
                go_wp2
                go_ret
                exact ⟨rfl, G.trans (since_drews (S.trans y.ok) _)⟩
              have s6 : r - (d.size : Int) < t + (O.2.size : Int) := by omega
              have hz3 : z = false := by rw [← hz2.out, decide_eq_false hc, Bool.false_and]
              subst hz3
              clear hz2 hc
              have hd3 : ((O.2.size : Int) == 0) = false := by rw [beq_eq_false_iff_ne]; omega
              have hd4 : decide ((4096 : Int) < (O.2.size : Int)) = false := decide_eq_false (by omega)
              have hd5 : decide (t ≤ ev) = false := decide_eq_false (by omega)
              have hd6 : decide (r - (d.size : Int) < t + (O.2.size : Int)) = true := decide_eq_true (by omega)
              go_wp2
              have hne : Nonempty (Later wr) := ⟨⟨wr, Since.refl _⟩⟩
              refine wp_region_calm (wb := wr) (by kernel_rfl) (by kernel_rfl) (Since.refl _) ?_
              repeat (go_big_quiet_step (exact hcall _))
              refine wpQuiet_nil ?_
              rintro _ ⟨y, rfl⟩
              have d0 := k0 y
              have d1 := k1 y
              have d2 := k2 y
              have d3 := k3 y
              have e1 := m1 y
              clear k0 k1 k2 k3 m0 m1 hcall b0 b1 b2 b3 p0 p1
              go_wp2
              go_quiet (fail)
              go_wp2
              go_ret
              exact ⟨rfl, G.trans (since_drews (S.trans y.ok) _)⟩
          · have hkn : k = n := by omega
            subst hkn
            have hz2 := hz'.out
            rw [okB_end (by omega)] at hz2
            subst hz2
            clear hp R Rw hz' hz
            go_wp2
            go_ret
            exact ⟨rfl, G.trans S⟩
    · rw [show decide ((d.size : Int) ≤ r) = false from decide_eq_false c2, Bool.false_and]
      obtain ⟨c1, c1'⟩ := c1
      clear R hp
      go_enter Try.func29, Try.ntmps29
      go_wp2_with (go_at_call 15; refine (i1 _).mono ?_; rintro _ _ ⟨rfl, rfl⟩)
      go_ret
      exact ⟨rfl, G⟩
  · rw [show decide (1 ≤ r ∧ r ≤ 4096) = false from decide_eq_false c1] at i1 ⊢
    rw [Bool.false_and]
    clear R hp c1
    go_enter Try.func29, Try.ntmps29
    go_wp2_with (go_at_call 15; refine (i1 _).mono ?_; rintro _ _ ⟨rfl, rfl⟩)
    go_ret
    exact ⟨rfl, G⟩
end Go.Proofs.Ytpkenhcglnognaa
