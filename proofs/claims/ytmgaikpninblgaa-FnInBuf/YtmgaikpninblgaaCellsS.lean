/-
  Contract of spec's l07Cells: the window byte by byte.
-/
import Derived.Test.YtmgaikpninblgaaPutFact
import Derived.Test.YtmgaikpninblgaaInOkS
import Derived.Test.YtmgaikpninblgaaNum
namespace Go.Proofs.Ytmgaikpninblgaa
open Go.ChangeShapes Go.WideShapes Go.ChangeAt Go.RowKit Go.Deep
set_option linter.unusedVariables false
set_option maxRecDepth 10000

/-- The first n of the numbers f as a list. -/
def cl (f : Nat → Int) (n : Nat) : List Int := (List.range n).map f

theorem cl_len (f : Nat → Int) (n : Nat) : (cl f n).length = n := by simp [cl]

theorem cl_at (f : Nat → Int) (n i : Nat) (h : i < n) : iAt (cl f n) i = f i := by simp [cl, iAt, List.getD, h]

theorem cl_next (f : Nat → Int) (n : Nat) : cl f (n + 1) = cl f n ++ [f n] := by simp [cl, List.range_succ]

theorem cl_ext (f g : Nat → Int) (n : Nat) (h : ∀ i, i < n → f i = g i) : cl f n = cl g n := by
  unfold cl
  apply List.map_congr_left
  intro i hi
  exact h i (List.mem_range.1 hi)

theorem cl_set (f : Nat → Int) (n j : Nat) (x : Int) : (cl f n).set j x = cl (fun i => if i = j then x else f i) n := by
  apply List.ext_getElem?
  intro i
  by_cases h : i = j
  · subst h
    by_cases hi : i < n <;> simp [cl, hi]
  · rw [List.getElem?_set_ne (Ne.symm h)]
    by_cases hi : i < n <;> simp [cl, hi, h]

theorem over_next (f : Nat → Int) (off k : Nat) (g : Nat → Int) : over f off (k + 1) g = fun i => if i = off + k then g k else over f off k g i := by
  funext i
  unfold over
  by_cases h : i = off + k
  · subst h
    rw [if_pos (by omega), if_pos rfl]
    congr 1
    omega
  · rw [if_neg h]
    by_cases h2 : off ≤ i ∧ i < off + k
    · rw [if_pos (by omega), if_pos h2]
    · rw [if_neg (by omega), if_neg h2]

set_option maxHeartbeats 4000000 in
theorem cellsS (q : Int) (d : ByteArray) (r : Int) (a : Option Addr) (n cap : Nat) (ps : List (Int × ByteArray)) (gd : Good q d r n ps) (hok : inOk q d r ps = true) (W : Nat) (hW : r - d.size = (W : Int)) (w : World) (R : Rd shP w a n ps) :
    Calls Try.prog 39 #[inVal q d (.slice a n cap) r] w fun e w' => ∃ g c, e = .returned (.slice (some ⟨g, 0, none⟩) W c) ∧ Held shI w' w.heap.size g W c (cl (lay q ps (fun _ => -1)) W) ∧ Since w w' := by
  have hlen := R.len
  obtain ⟨⟨hr1, hr2⟩, hr3, hkb⟩ := inOk_room hok
  rw [hW] at hkb
  obtain ⟨hq, hd, hr, hn, hp⟩ := gd
  unfold inVal
  have hsub : IntKind.i64.wrap (r - (d.size : Int)) = (W : Int) := by rw [IntWalk.i64_left, ← hW]; exact IntWalk.wrap64_in _ ⟨by omega, by omega⟩
  have T0 : Held shI ((w.alloc (.cells #[.int .u32 q, .string d, .slice a n cap, .int .i64 r] 31)).alloc (.cells #[] 3)) (w.heap.size + 1) (w.heap.size + 1) 0 0 [] := by
    have := Held.empty (S := shI) (w.alloc (.cells #[.int .u32 q, .string d, .slice a n cap, .int .i64 r] 31))
    rwa [World.size_alloc] at this
  have G1 : Since w (w.alloc (.cells #[.int .u32 q, .string d, .slice a n cap, .int .i64 r] 31)) := (Since.refl _).alloc _
  have A := Blk.new w #[.int .u32 q, .string d, .slice a n cap, .int .i64 r] 31
  replace hkb : Hid _ := hkb
  go_enter Try.func39, Try.ntmps39
  go_wp2
  go_loopw [3, 4] (fun v i wr => ∃ (k g c : Nat), k ≤ W ∧ i = .int .i64 k ∧ v = .slice (some ⟨g, 0, none⟩) k c ∧ Held shI wr (w.heap.size + 1) g k c (cl (fun _ => -1) k) ∧ Since (w.alloc (.cells #[.int .u32 q, .string d, .slice a n cap, .int .i64 r] 31)) wr) (fun _ i _ => W - (intOf i).toNat)
  case atStart => exact ⟨0, w.heap.size + 1, 0, by omega, rfl, rfl, T0, (Since.refl _).alloc _⟩
  case round =>
    obtain ⟨k, g, c, hk, rfl, rfl, T, S⟩ := hrel
    have A2 := A.since S
    have b1 := A2.cell 1
    have b2 := A2.cell 2
    have b3 := A2.cell 3
    simp at b1 b2 b3
    have hsz := S.le
    simp at hsz
    by_cases hlt : k < W
    · have hlt' : (k : Int) < (W : Int) := by omega
      have gZ := (Since.refl wr).alloc (.cells #[.int .i64 (-1)] 3)
      have TZ := T.since gZ
      have RZ := Rd.one (S := shI) wr (-1) 3 wr.heap.size rfl
      clear R hp T0
      go_wp2_with (at_builtin; refine app_own (v := .slice (some ⟨g, 0, none⟩) k c) laidI rfl _ _ rfl rfl TZ rfl RZ (by omega) (by unfold maxLen; omega) (by omega) (by simp; omega) _ rfl ?_; intro g' c' w5 T5 hg5 hat5)
      have S5 := since_grown (S.trans gZ) hg5 (fun j e => by have := T.low'; have e' : g = j := (by simpa [Value.ownBlock] using e); simp; omega)
      go_roundw
      case rel => exact ⟨k + 1, g', c', by omega, by go_num, rfl, by rw [cl_next]; exact T5, S5⟩
      case measure => simp [intOf]; omega
    · have hkW : k = W := by omega
      subst hkW
      have hlo := T.low'
      clear T0
      go_wp2
      go_loopw [5] (fun i wr' => ∃ (j : Nat), j ≤ n ∧ i = .int .i64 j ∧ Held shI wr' (w.heap.size + 1) g k c (cl (lay q (ps.take j) (fun _ => -1)) k) ∧ Since (w.alloc (.cells #[.int .u32 q, .string d, .slice a n cap, .int .i64 r] 31)) wr') (fun i _ => n - (intOf i).toNat)
      case atStart => exact ⟨0, by omega, rfl, by rw [List.take_zero]; exact T, S⟩
      case round =>
        obtain ⟨j, hj, rfl, T2, S2⟩ := hrel
        have A3 := A.since S2
        have d0 := A3.cell 0
        have d2 := A3.cell 2
        simp at d0 d2
        clear b1 b2 b3 T S A2 hsz
        by_cases hlt2 : j < n
        · have hlt2' : (j : Int) < (n : Int) := by omega
          obtain ⟨x, rfl, hb, p0, p1⟩ := (R.since (G1.trans S2)).prt j hlt2
          obtain ⟨hp1, hp2⟩ := hp j hlt2
          have hat := okB_at _ _ _ j hkb.out (by rw [spans_len]; omega)
          rw [spans_at q ps j (by omega)] at hat
          have hdist := fun wx => specDist q (pAt ps j).1 (distI q (pAt ps j).1) hq hp1 (distI_is _ _) wx
          have hlay : lay q (ps.take (j + 1)) (fun _ => -1) = over (lay q (ps.take j) (fun _ => -1)) (distI q (pAt ps j).1).toNat (pAt ps j).2.size (byteAt (pAt ps j).2) := by
            rw [shP.take_next ps j (by omega), lay_snoc]
            rfl
          have Rj := R
          have hO : pAt ps j = pAt ps j := rfl
          generalize hOO : pAt ps j = O at p0 p1 hp1 hp2 hlay hdist hat
          unfold spn at hat
          simp only at hat
          obtain ⟨tn, htn⟩ := Int.eq_ofNat_of_zero_le (show 0 ≤ distI q O.1 by omega)
          rw [htn] at hlay hdist hat
          rw [show ((tn : Nat) : Int).toNat = tn by omega] at hlay
          have htW : tn + O.2.size ≤ k := by omega
          generalize lay q (ps.take j) (fun _ => -1) = L at hlay T2
          replace hlay : Hid _ := hlay
          have xb : (x.add (j * 2)).block = x.block := add_block _ _
          have k0 : ∀ z : Later wr, z.val.cell? ⟨w.heap.size, 0, none⟩ = some (.int .u32 q) := fun z => by simpa using (A3.since z.ok).cell 0
          have k2 : ∀ z : Later wr, z.val.cell? ⟨w.heap.size, 2, none⟩ = some (.slice (some x) n cap) := fun z => by simpa using (A3.since z.ok).cell 2
          have m0 : ∀ z : Later wr, z.val.cell? (x.add (j * 2)) = some (.int .u32 O.1) := fun z => (Below.cell z.ok (p := x.add (j * 2)) (by rw [xb]; exact hb)).trans p0
          have hcall : ∀ z : Later wr, Calls Try.prog 36 #[.int .u32 q, .int .u32 O.1] z.val fun e w'' => e = .returned (.int .i64 tn) ∧ ∃ y : Later wr, w'' = y.val := fun z => (hdist z.val).mono (by rintro _ _ ⟨h1, rfl⟩; exact ⟨h1, z, rfl⟩)
          have hne : Nonempty (Later wr) := ⟨⟨wr, Since.refl _⟩⟩
          clear hat htn hdist
          go_wp2
          refine wp_region_calm (wb := wr) (by kernel_rfl) (by kernel_rfl) (Since.refl _) ?_
          repeat (go_big_quiet_step (exact hcall _))
          refine wpQuiet_nil ?_
          rintro _ ⟨y, rfl⟩
          have S3 := S2.trans y.ok
          have T3 := T2.since y.ok
          clear k0 k2 m0 hcall hne d0 d2 p0 p1 xb
          go_wp2
          go_loopw [7] (fun i wr' => ∃ (m : Nat), m ≤ O.2.size ∧ i = .int .i64 m ∧ Held shI wr' (w.heap.size + 1) g k c (cl (over L tn m (byteAt O.2)) k) ∧ Since (w.alloc (.cells #[.int .u32 q, .string d, .slice (some x) n cap, .int .i64 r] 31)) wr') (fun i _ => O.2.size - (intOf i).toNat)
          case atStart => exact ⟨0, by omega, rfl, by rw [over_none]; exact T3, S3⟩
          case round =>
            obtain ⟨m, hm, rfl, T4, S4⟩ := hrel
            have A4 := A.since S4
            have d2 := A4.cell 2
            simp at d2
            obtain ⟨x', hx', hb', p0, p1⟩ := (R.since (G1.trans S4)).prt j hlt2
            cases hx'
            rw [hOO] at p0 p1
            by_cases hlt3 : m < O.2.size
            · have hlt3' : (m : Int) < (O.2.size : Int) := by omega
              have c0 := T4.num (tn + m) (by omega)
              have f0 := T4.free (tn + m)
              have hT := T4.setI (tn + m) (by omega) (byteAt O.2 m)
              rw [cl_set, ← over_next] at hT
              have hby := byteAt_in O.2 m hlt3
              have hin1 : (tn : Int) + (m : Int) < (k : Int) := by omega
              replace hT : Hid _ := hT
              have hw : wrap64 ((O.2[m]'hlt3).toNat : Int) = byteAt O.2 m := by
                have hr := byteAt_range O.2 m
                rw [← hby]
                exact IntWalk.wrap64_in _ ⟨by omega, by omega⟩
              have hgl := T4.low'
              clear hp R Rj
              go_wp2
              go_roundw
              case rel => exact ⟨m + 1, by omega, by go_num, by rw [← byteAt_in O.2 m hlt3]; exact hT.out, since_put1 S4 (by simp; omega) _ _⟩
              case measure => simp [intOf]; omega
            · have hmo : m = O.2.size := by omega
              clear hp R Rj
              go_wp2
              go_roundw
              case rel => exact ⟨j + 1, by omega, by go_num, by rw [hlay.out, ← hmo]; exact T4, S4⟩
              case measure => simp [intOf]; omega
        · have hjn : j = n := by omega
          rw [List.take_of_length_le (by omega)] at T2
          clear hp R
          go_wp2
          go_ret
          exact ⟨g, c, rfl, T2.raise (by omega), G1.trans S2⟩
end Go.Proofs.Ytmgaikpninblgaa
