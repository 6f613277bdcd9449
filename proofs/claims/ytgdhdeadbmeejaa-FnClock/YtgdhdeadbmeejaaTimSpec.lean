/-
  Contracts of spec's l06Without, l06Copy and ClockStop, and of impl's freshClock.
-/
import Derived.Test.YtgdhdeadbmeejaaTabApp
import Derived.Test.YtgdhdeadbmeejaaTimPure
import Derived.Test.YtgdhdeadbmeejaaDrawnTail
namespace Go.Proofs.Ytgdhdeadbmeejaa
open Go.ChangeShapes Go.WideShapes Go.ChangeAt Go.RowKit Go.Deep Go.Sort Go.Maps
set_option linter.unusedVariables false

theorem without_next (ts : List (Int × Int)) (x : Int) (k : Nat) (hk : k < ts.length) : without (ts.take (k + 1)) x = if (tAt ts k).1 ≠ x then without (ts.take k) x ++ [tAt ts k] else without (ts.take k) x := by
  rw [take_nextT ts k hk]
  unfold without
  rw [List.filter_append]
  by_cases h : (tAt ts k).1 = x <;> simp [h]

theorem without_le (ts : List (Int × Int)) (x : Int) (k : Nat) : (without (ts.take k) x).length ≤ k := Nat.le_trans (List.length_filter_le _ _) (by rw [List.length_take]; omega)

theorem Own.tag {α : Type} {S : Shape α} {w : World} {B n g : Nat} {v : Value} {xs : List α} (h : Own S w B v n xs) (hg : v.ownBlock = some g) : ∃ cur, w.heap[g]? = some (.cells cur S.ty (0, 0)) := by
  rcases h.2.2 with ⟨h1, _⟩ | ⟨g', cap', cur, h1, h2, h3, _⟩
  · rw [h1] at hg; cases hg
  · rw [h1] at hg
    have : g' = g := by simpa [Value.ownBlock] using hg
    exact ⟨cur, this ▸ h3⟩

/-- Lists of two shapes lie apart. -/
theorem Own.apart {α β : Type} {S : Shape α} {S' : Shape β} {w : World} {B B' n n' : Nat} {v v' : Value} {xs : List α} {ys : List β} (h : Own S w B v n xs) (h' : Own S' w B' v' n' ys) (hty : S.ty ≠ S'.ty) : v.ownBlock = none ∨ v.ownBlock ≠ v'.ownBlock := by
  cases hv : v.ownBlock with
  | none => exact .inl rfl
  | some g =>
    right
    intro e
    obtain ⟨c1, h1⟩ := h.tag hv
    obtain ⟨c2, h2⟩ := h'.tag e.symm
    rw [h1] at h2
    injection h2 with h2
    injection h2 with _ h2
    exact hty h2

theorem since_grown {w x y : World} (h : Since w x) {row : Option Nat} (g : x.grownBy y row) (hv : ∀ k, row = some k → w.heap.size ≤ k) : Since w y :=
  ⟨g.os.trans h.os, g.tape.trans h.tape, g.output.trans h.output, Nat.le_trans h.size g.size, fun k hk => (g.block k (Nat.lt_of_lt_of_le hk h.size) (fun e => by have := hv k e.symm; omega)).trans (h.block k hk)⟩

set_option maxHeartbeats 1000000 in
theorem specWithout (a : Option Addr) (n cap : Nat) (ts : List (Int × Int)) (id : Int) (w : World) (R : Rd shT w a n ts) (hn : n ≤ 1048576) :
    Calls Try.prog 52 #[.slice a n cap, .int .i64 id] w fun e w' => ∃ g m c, e = .returned (.slice (some ⟨g, 0, none⟩) m c) ∧ Held shT w' w.heap.size g m c (without ts id) ∧ Since w w' := by
  have hlen := R.len
  have T0 : Held shT (w.alloc (.cells #[] 47)) w.heap.size w.heap.size 0 0 [] := Held.empty w
  have S0 : Since w (w.alloc (.cells #[] 47)) := (Since.refl _).alloc _
  go_enter Try.func52, Try.ntmps52
  go_wp2
  go_loopw [5, 6] (fun v i wr => ∃ (k g m c : Nat), k ≤ n ∧ i = .int .i64 k ∧ v = .slice (some ⟨g, 0, none⟩) m c ∧ Held shT wr w.heap.size g m c (without (ts.take k) id) ∧ Since w wr) (fun _ i _ => n - (intOf i).toNat)
  case atStart => exact ⟨0, w.heap.size, 0, 0, by omega, rfl, rfl, by rw [List.take_zero]; exact T0, S0⟩
  case round =>
    obtain ⟨k, g, m, c, hk, rfl, rfl, T, Sr⟩ := hrel
    by_cases hlt : k < n
    · have hlt' : (k : Int) < (n : Int) := by omega
      obtain ⟨x, rfl, hb, q0, q1⟩ := (R.since Sr).tim k hlt
      have hnx := without_next ts id k (by omega)
      have hml : m ≤ n := by rw [← T.1]; exact Nat.le_trans (without_le ts id k) hk
      generalize tAt ts k = O at q0 q1 hnx
      by_cases he : O.1 = id
      · rw [if_neg (by simpa using he)] at hnx
        rw [he] at q0
        replace hnx : Hid _ := hnx
        go_wp2
        go_roundw
        case rel => exact ⟨k + 1, g, m, c, by omega, by go_num, rfl, by rw [hnx.out]; exact T, Sr⟩
        case measure => simp [intOf]; omega
      · rw [if_pos (by simpa using he)] at hnx
        have hne : (O.1 == id) = false := by simpa using he
        replace hnx : Hid _ := hnx
        have hY : Since wr (wr.alloc (.cells #[.int .i64 O.1, .int .i64 O.2] 47)) := (Since.refl _).alloc _
        have TY := T.since hY
        have RY := Rd.one (S := shT) wr O 47 wr.heap.size rfl
        have hsz : w.heap.size ≤ wr.heap.size := Sr.size
        go_wp2_with (at_builtin; refine app_own (v := .slice (some ⟨g, 0, none⟩) m c) laidT rfl _ _ rfl rfl TY rfl RY (by omega) (by unfold maxLen; omega) (by omega) (by simp; omega) _ rfl ?_; intro g' c' w1 T1 hg1 hat1)
        have S1 := since_grown (Sr.trans hY) hg1 (fun j e => by have := T.low'; have e' : g = j := (by simpa [Value.ownBlock] using e); omega)
        go_roundw
        case rel => exact ⟨k + 1, g', m + 1, c', by omega, by go_num, rfl, by rw [hnx.out]; exact T1, S1⟩
        case measure => simp [intOf]; omega
    · have hkn : k = n := by omega
      subst hkn
      rw [List.take_of_length_le (by omega)] at T
      go_wp2
      go_ret
      exact ⟨g, m, c, rfl, T, Sr⟩

set_option maxHeartbeats 1000000 in
theorem specCopy (now : Int) (a : Option Addr) (n cap : Nat) (ts : List (Int × Int)) (w : World) (R : Rd shT w a n ts) (hn : n ≤ 1048576) (hnil : a = none → cap = 0) :
    Calls Try.prog 24 #[.agg #[.int .i64 now, .slice a n cap]] w fun e w' => ∃ g c, e = .returned (.agg #[.int .i64 now, .slice (some ⟨g, 0, none⟩) n c]) ∧ Held shT w' w.heap.size g n c ts ∧ Since w w' := by
  have A := (Blk.new w #[.int .i64 now, .slice a n cap] 26).since ((Since.refl _).alloc (.cells #[.int .i64 0, .slice none 0 0] 26))
  have B := Blk.new (w.alloc (.cells #[.int .i64 now, .slice a n cap] 26)) #[.int .i64 0, .slice none 0 0] 26
  have G : Since w ((w.alloc (.cells #[.int .i64 now, .slice a n cap] 26)).alloc (.cells #[.int .i64 0, .slice none 0 0] 26)) := ((Since.refl _).alloc _).alloc _
  simp only [World.size_alloc] at A B
  go_enter Try.func24, Try.ntmps24
  go_wp2_with (fail)
  generalize hZ : (w.alloc (.cells #[.int .i64 now, .slice a n cap] 26)).alloc (.cells #[.int .i64 0, .slice none 0 0] 26) = Z at A B G ⊢
  clear hZ
  have RZ := R.since G
  have hlt := A.lt
  have hltB := B.lt
  refine wp_region_tail (wb := Z) 6 (fun i x v => match i with
    | 0 => v = .pointer (some ⟨w.heap.size, 0, none⟩)
    | 1 => v = .int .i64 now
    | 2 => ∃ g, v = .slice (some ⟨g, 0, none⟩) 0 0 ∧ Held shT x Z.heap.size g 0 0 []
    | 3 => v = .pointer (some ⟨w.heap.size, 1, none⟩)
    | 4 => v = .slice a n cap
    | 5 => ∃ g c, v = .slice (some ⟨g, 0, none⟩) n c ∧ Held shT x Z.heap.size g n c ts
    | _ => True) (fun v => { tmps := #[Value.agg #[Value.int IntKind.i64 now, Value.slice a n cap], Value.pointer (some ⟨w.heap.size, 0, none⟩), Value.pointer (some ⟨w.heap.size + 1, 0, none⟩), v 0, v 1, v 2, v 3, v 4, v 5, undef], defers := [] }) (by kernel_rfl) (by kernel_rfl) (by kernel_rfl) (Since.refl _) ?_ (fun vals => by kernel_rfl) ?_ ?_
  case refine_1 =>
    intro j' x x' v h1 h2
    match j', h2 with
    | 2, h2 =>
      obtain ⟨g, e, T⟩ := h2
      exact ⟨g, e, T.since h1⟩
    | 5, h2 =>
      obtain ⟨g, c, e, T⟩ := h2
      exact ⟨g, c, e, T.since h1⟩
    | 0, h2 | 1, h2 | 3, h2 | 4, h2 => exact h2
    | n + 6, _ => trivial
  case refine_2 =>
    simp only [List.take_succ_cons, List.take_zero]
    repeat (first | exact eachDoes_nil | refine eachDoes_cons ?_ ?_)
    all_goals intro vals x hx hv
    all_goals simp [Region.binds] at hv
    · obtain ⟨⟨g, h2, T⟩, h4⟩ := hv
      obtain ⟨g', c', w', hr, T', S'⟩ := run_append_empty laidT 24 x T (RZ.since hx) hnil (by omega) hx.le
      simp [does, execOp, resolve, invoke, builtin, Act.eval, h2, h4, hr, doesUpon, Result.andThen]
      exact ⟨S', g', c', ⟨rfl, rfl⟩, T'⟩
    · have e1 := (A.since hx).cell 1
      simp at e1
      simp [does, doesUpon, go_sem, hv, e1, Since.refl]
    · simp [does, doesUpon, go_sem, Since.refl]
    · simp [does, doesUpon, go_sem]
      exact ⟨(Since.refl _).alloc _, (Held.empty (S := shT) x).raise hx.le⟩
    · have e0 := (A.since hx).cell 0
      simp at e0
      simp [does, doesUpon, go_sem, hv, e0, Since.refl]
    · simp [does, doesUpon, go_sem, Since.refl]
  case refine_3 =>
    intro vals x hx hv
    have h0 : vals 0 = _ := hv 0 (by decide)
    have h1 : vals 1 = _ := hv 1 (by decide)
    have h2 : ∃ g, vals 2 = _ ∧ Held shT x Z.heap.size g 0 0 [] := hv 2 (by decide)
    have h3 : vals 3 = _ := hv 3 (by decide)
    have h4 : vals 4 = _ := hv 4 (by decide)
    have h5 : ∃ g c, vals 5 = _ ∧ Held shT x Z.heap.size g n c ts := hv 5 (by decide)
    obtain ⟨g0, h2, _⟩ := h2
    obtain ⟨g, c, h5, T⟩ := h5
    clear hv
    simp only [h0, h1, h2, h3, h4, h5, List.drop_succ_cons, List.drop_zero]
    clear h0 h1 h2 h3 h4 h5 RZ
    replace B := B.since hx
    replace G := G.trans hx
    have b0 := B.cell 0
    have b1 := B.cell 1
    simp at b0 b1
    have f0 := B.fz 0
    have f1 := B.fz 1
    have hlow := T.low'
    go_wp2
    refine bodyPost_ret (v := .agg #[.int .i64 now, .slice (some ⟨g, 0, none⟩) n c]) ?_ rfl ⟨g, c, rfl, ?_, ?_⟩
    · simp [results, go_sem, b0, b1]
    · exact ((T.other (by omega) _ _).other (by omega) _ _).raise (by omega)
    · exact since_put1 (since_put1 G (by omega) _ _) (by omega) _ _

set_option maxHeartbeats 1000000 in
theorem implFresh (now : Int) (a : Option Addr) (n cap : Nat) (ts : List (Int × Int)) (w : World) (R : Rd shT w a n ts) (hn : n ≤ 1048576) (hnil : a = none → cap = 0) :
    Calls Try.prog 20 #[.agg #[.int .i64 now, .slice a n cap]] w fun e w' => ∃ g c, e = .returned (.agg #[.int .i64 now, .slice (some ⟨g, 0, none⟩) n c]) ∧ Held shT w' w.heap.size g n c ts ∧ Since w w' := by
  have A := (Blk.new w #[.int .i64 now, .slice a n cap] 26).since ((Since.refl _).alloc (.cells #[.int .i64 0, .slice none 0 0] 26))
  have B := Blk.new (w.alloc (.cells #[.int .i64 now, .slice a n cap] 26)) #[.int .i64 0, .slice none 0 0] 26
  have G : Since w ((w.alloc (.cells #[.int .i64 now, .slice a n cap] 26)).alloc (.cells #[.int .i64 0, .slice none 0 0] 26)) := ((Since.refl _).alloc _).alloc _
  simp only [World.size_alloc] at A B
  go_enter Try.func20, Try.ntmps20
  go_wp2_with (fail)
  generalize hZ : (w.alloc (.cells #[.int .i64 now, .slice a n cap] 26)).alloc (.cells #[.int .i64 0, .slice none 0 0] 26) = Z at A B G ⊢
  clear hZ
  have RZ := R.since G
  have hlt := A.lt
  have hltB := B.lt
  refine wp_region_tail (wb := Z) 6 (fun i x v => match i with
    | 0 => v = .pointer (some ⟨w.heap.size, 0, none⟩)
    | 1 => v = .int .i64 now
    | 2 => ∃ g, v = .slice (some ⟨g, 0, none⟩) 0 0 ∧ Held shT x Z.heap.size g 0 0 []
    | 3 => v = .pointer (some ⟨w.heap.size, 1, none⟩)
    | 4 => v = .slice a n cap
    | 5 => ∃ g c, v = .slice (some ⟨g, 0, none⟩) n c ∧ Held shT x Z.heap.size g n c ts
    | _ => True) (fun v => { tmps := #[Value.agg #[Value.int IntKind.i64 now, Value.slice a n cap], Value.pointer (some ⟨w.heap.size, 0, none⟩), Value.pointer (some ⟨w.heap.size + 1, 0, none⟩), v 0, v 1, v 2, v 3, v 4, v 5, undef], defers := [] }) (by kernel_rfl) (by kernel_rfl) (by kernel_rfl) (Since.refl _) ?_ (fun vals => by kernel_rfl) ?_ ?_
  case refine_1 =>
    intro j' x x' v h1 h2
    match j', h2 with
    | 2, h2 =>
      obtain ⟨g, e, T⟩ := h2
      exact ⟨g, e, T.since h1⟩
    | 5, h2 =>
      obtain ⟨g, c, e, T⟩ := h2
      exact ⟨g, c, e, T.since h1⟩
    | 0, h2 | 1, h2 | 3, h2 | 4, h2 => exact h2
    | n + 6, _ => trivial
  case refine_2 =>
    simp only [List.take_succ_cons, List.take_zero]
    repeat (first | exact eachDoes_nil | refine eachDoes_cons ?_ ?_)
    all_goals intro vals x hx hv
    all_goals simp [Region.binds] at hv
    · obtain ⟨⟨g, h2, T⟩, h4⟩ := hv
      obtain ⟨g', c', w', hr, T', S'⟩ := run_append_empty laidT 24 x T (RZ.since hx) hnil (by omega) hx.le
      simp [does, execOp, resolve, invoke, builtin, Act.eval, h2, h4, hr, doesUpon, Result.andThen]
      exact ⟨S', g', c', ⟨rfl, rfl⟩, T'⟩
    · have e1 := (A.since hx).cell 1
      simp at e1
      simp [does, doesUpon, go_sem, hv, e1, Since.refl]
    · simp [does, doesUpon, go_sem, Since.refl]
    · simp [does, doesUpon, go_sem]
      exact ⟨(Since.refl _).alloc _, (Held.empty (S := shT) x).raise hx.le⟩
    · have e0 := (A.since hx).cell 0
      simp at e0
      simp [does, doesUpon, go_sem, hv, e0, Since.refl]
    · simp [does, doesUpon, go_sem, Since.refl]
  case refine_3 =>
    intro vals x hx hv
    have h0 : vals 0 = _ := hv 0 (by decide)
    have h1 : vals 1 = _ := hv 1 (by decide)
    have h2 : ∃ g, vals 2 = _ ∧ Held shT x Z.heap.size g 0 0 [] := hv 2 (by decide)
    have h3 : vals 3 = _ := hv 3 (by decide)
    have h4 : vals 4 = _ := hv 4 (by decide)
    have h5 : ∃ g c, vals 5 = _ ∧ Held shT x Z.heap.size g n c ts := hv 5 (by decide)
    obtain ⟨g0, h2, _⟩ := h2
    obtain ⟨g, c, h5, T⟩ := h5
    clear hv
    simp only [h0, h1, h2, h3, h4, h5, List.drop_succ_cons, List.drop_zero]
    clear h0 h1 h2 h3 h4 h5 RZ
    replace B := B.since hx
    replace G := G.trans hx
    have b0 := B.cell 0
    have b1 := B.cell 1
    simp at b0 b1
    have f0 := B.fz 0
    have f1 := B.fz 1
    have hlow := T.low'
    go_wp2
    refine bodyPost_ret (v := .agg #[.int .i64 now, .slice (some ⟨g, 0, none⟩) n c]) ?_ rfl ⟨g, c, rfl, ?_, ?_⟩
    · simp [results, go_sem, b0, b1]
    · exact ((T.other (by omega) _ _).other (by omega) _ _).raise (by omega)
    · exact since_put1 (since_put1 G (by omega) _ _) (by omega) _ _

set_option maxHeartbeats 2000000 in
theorem specStop (now : Int) (a : Option Addr) (n cap : Nat) (ts : List (Int × Int)) (id : Int) (w : World) (R : Rd shT w a n ts) (hn : n ≤ 1048576) (hnil : a = none → cap = 0) :
    Calls Try.prog 45 #[.agg #[.int .i64 now, .slice a n cap], .int .i64 id] w fun e w' => ∃ g m c, e = .returned (.tuple #[.agg #[.int .i64 now, .slice (some ⟨g, 0, none⟩) m c], .bool (stopC now ts id).2]) ∧ Held shT w' w.heap.size g m c (stopC now ts id).1 ∧ Since w w' := by
  obtain ⟨r, hr⟩ : ∃ r, Hid (r = stopC now ts id) := ⟨_, rfl⟩
  rw [← hr.out]
  have hlen := R.len
  have G : Since w ((w.alloc (.cells #[.int .i64 now, .slice a n cap] 26)).alloc (.cells #[.int .i64 0, .slice none 0 0] 26)) := ((Since.refl _).alloc _).alloc _
  have A := (Blk.new w #[.int .i64 now, .slice a n cap] 26).since ((Since.refl _).alloc (.cells #[.int .i64 0, .slice none 0 0] 26))
  have B := Blk.new (w.alloc (.cells #[.int .i64 now, .slice a n cap] 26)) #[.int .i64 0, .slice none 0 0] 26
  simp only [World.size_alloc] at A B
  have hwo := specWithout a n cap ts id _ (R.since G) hn
  go_enter Try.func45, Try.ntmps45
  go_wp2_with (go_at_call 52; refine hwo.mono ?_; rintro _ w1 ⟨g1, m1, c1, rfl, T1, k1⟩; replace A := A.since k1; replace B := B.since k1; replace G := G.trans k1; have cA0 := A.cell 0; have cA1 := A.cell 1; simp at cA0 cA1)
  refine (specClockOk now a n cap ts _ (R.since G)).mono ?_
  rintro _ w2 ⟨rfl, k2⟩
  replace A := A.since k2
  replace B := B.since k2
  replace G := G.trans k2
  replace T1 := T1.since k2
  replace cA0 := A.cell 0
  replace cA1 := A.cell 1
  have b0 := B.cell 0
  have b1 := B.cell 1
  simp at cA0 cA1 b0 b1
  have f0 := B.fz 0
  have f1 := B.fz 1
  have hcp := fun wx (hx : Since w wx) => specCopy now a n cap ts wx (R.since hx) hn hnil
  have hlow := T1.low'
  simp at hlow
  have hBl := B.lt
  have hm1 := T1.1
  by_cases hok : okC now ts
  · have hd : decide (okC now ts) = true := by simpa using hok
    rw [hd]
    by_cases hid : id ∈ idsOf ts
    · have hne : m1 ≠ n := fun e => (stop_len hok.2.2.2.2 id).1 (by rw [hm1, hlen]; exact e) hid
      have hneb : ((m1 : Int) == (n : Int)) = false := by simp; omega
      have hre : Hid (r = (without ts id, true)) := hr.out.trans (by unfold stopC; rw [if_pos ⟨hok, hid⟩])
      go_wp2
      refine bodyPost_ret (v := .tuple #[.agg #[.int .i64 now, .slice (some ⟨g1, 0, none⟩) m1 c1], .bool true]) ?_ rfl ⟨g1, m1, c1, by rw [hre.out], ?_, ?_⟩
      · simp [results, go_sem, b0, b1]
      · rw [hre.out]
        exact ((T1.other (by omega) _ _).other (by omega) _ _).raise (by omega)
      · exact since_put1 (since_put1 G (by omega) _ _) (by omega) _ _
    · have he : m1 = n := by rw [← hm1, ← hlen]; exact (stop_len hok.2.2.2.2 id).2 hid
      subst he
      have hre : Hid (r = (ts, false)) := hr.out.trans (by unfold stopC; rw [if_neg (fun h => hid h.2)])
      go_wp2_with (go_at_call 24; refine (hcp _ G).mono ?_; rintro _ w3 ⟨g3, c3, rfl, T3, k3⟩; replace B := B.since k3; have b0 := B.cell 0; have b1 := B.cell 1; simp at b0 b1; have f0 := B.fz 0; have f1 := B.fz 1)
      have hlow3 := T3.low'
      have hl2 := k2.le
      have hl1 := B.lt
      refine bodyPost_ret (v := .tuple #[.agg #[.int .i64 now, .slice (some ⟨g3, 0, none⟩) m1 c3], .bool false]) ?_ rfl ⟨g3, m1, c3, by rw [hre.out], ?_, ?_⟩
      · simp [results, go_sem, b0, b1]
      · rw [hre.out]
        exact ((T3.other (by omega) _ _).other (by omega) _ _).raise (by omega)
      · exact since_put1 (since_put1 (G.trans k3) (by omega) _ _) (by omega) _ _
  · have hd : decide (okC now ts) = false := by simpa using hok
    rw [hd]
    have hre : Hid (r = (ts, false)) := hr.out.trans (by unfold stopC; rw [if_neg (fun h => hok h.1)])
    go_wp2_with (go_at_call 24; refine (hcp _ G).mono ?_; rintro _ w3 ⟨g3, c3, rfl, T3, k3⟩; replace B := B.since k3; have b0 := B.cell 0; have b1 := B.cell 1; simp at b0 b1; have f0 := B.fz 0; have f1 := B.fz 1)
    have hlow3 := T3.low'
    have hl2 := k2.le
    refine bodyPost_ret (v := .tuple #[.agg #[.int .i64 now, .slice (some ⟨g3, 0, none⟩) n c3], .bool false]) ?_ rfl ⟨g3, n, c3, by rw [hre.out], ?_, ?_⟩
    · simp [results, go_sem, b0, b1]
    · rw [hre.out]
      exact ((T3.other (by omega) _ _).other (by omega) _ _).raise (by omega)
    · exact since_put1 (since_put1 (G.trans k3) (by omega) _ _) (by omega) _ _
end Go.Proofs.Ytgdhdeadbmeejaa
