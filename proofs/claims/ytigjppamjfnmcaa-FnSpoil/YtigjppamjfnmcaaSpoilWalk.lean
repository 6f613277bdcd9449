/-
  The walk of FnSpoil: for every code.
-/
import Derived.Test.YtigjppamjfnmcaaDrawDg
import Derived.Test.YtigjppamjfnmcaaDgSpoil
import Derived.Test.YtigjppamjfnmcaaCode
import Derived.Test.YtigjppamjfnmcaaNetBox
import Derived.Test.YtigjppamjfnmcaaDrawnStore
namespace Go.Proofs.Ytigjppamjfnmcaa
open Go.ChangeShapes Go.WideShapes Go.ChangeAt Go.RowKit
set_option linter.unusedVariables false
set_option maxRecDepth 10000

theorem big_ (a : Option Addr) (len cap : Nat) (w : World) :
    Calls Try.prog 4 #[.slice a len cap] w fun e w' => e = .returned (.bool (decide ((1048576 : Int) < (len : Int)))) ∧ w = w' := by
  go_enter Try.func4, Try.ntmps4
  go_wp2
  go_ret
  exact ⟨rfl, rfl⟩

theorem implNetOkNil (w : World) :
    Calls Try.prog 22 #[.agg #[.slice none 0 0]] w fun e w' => e = .returned (.bool (netOk [])) ∧ Since w w' := by
  have hc := fun wx => Try.slices_ContainsFunc_empty (α := Nat) none 0 (.func (.func 47) #[] #[]) wx
  have e : netOk [] = true := rfl
  rw [e]
  go_enter Try.func22, Try.ntmps22
  go_wp2_with (go_at_call 48; refine (hc _).mono ?_; rintro _ _ ⟨rfl, rfl⟩)
  go_ret
  exact ⟨rfl, (Since.refl _).alloc _⟩

theorem nilReads (w : World) : Reads w none 0 [] := ⟨rfl, Nat.zero_le _, fun i hi => by omega⟩

theorem implNetSendNil (s : ByteArray) (hs : s.size ≤ 2000) (w : World) :
    Calls Try.prog 8 #[.agg #[.slice none 0 0], .string s] w fun e w' => ∃ g c, e = .returned (.agg #[.slice (some ⟨g, 0, none⟩) 1 c]) ∧ Texts w' w.heap.size g 1 c [s] ∧ Since w w' := by
  refine (implNetSend none 0 0 [] s (by omega) (fun i hi => by omega) (by omega) w (nilReads w) (fun wx _ => implNetOkNil wx)).mono ?_
  rintro _ w' ⟨g, m, c, rfl, T, k⟩
  have e : netSend [] s = [s] := by simp [netSend, takes, netOk, hs]
  rw [e] at T
  have hm : m = 1 := T.len.symm
  subst hm
  exact ⟨g, c, rfl, T, k⟩

/-- What the law needs of a datagram that was put. -/
theorem dg_put (sh sp dh dp id sq ak fl wn ms : Int) (d : ByteArray) (hs : IsWord sh) (hd : IsWord dh) (hsq : IsWord sq) (hak : IsWord ak) (h0 : (putDgram sh sp dh dp id sq ak fl wn ms d).size ≠ 0) :
    isDg (putDgram sh sp dh dp id sq ak fl wn ms d) ∧ (putDgram sh sp dh dp id sq ak fl wn ms d).size ≤ 580 := by
  unfold putDgram at h0 ⊢
  by_cases ht : (putSeg sh dh sp dp sq ak fl wn ms d).size = 0
  · rw [if_pos ht] at h0
    exact absurd rfl h0
  rw [if_neg ht] at h0 ⊢
  have hok := putSeg_full _ _ _ _ _ _ _ _ _ _ ht
  have hpk := putOf_full _ _ _ _ _ _ h0
  simp only [pktOk, Bool.and_eq_true, decide_eq_true_eq] at hpk
  obtain ⟨hid, _, _, _⟩ := hpk
  obtain ⟨a1, a2, a3, a4, a5⟩ := dg_reads sh sp dh dp id 64 sq ak fl wn ms d hs hd hsq hak hok hid ⟨by omega, by omega⟩
  exact ⟨a1, a5⟩

theorem placeOf_one (a : Int) : placeOf a 1 = 0 := by
  have := placeOf_lt a 1 (by omega)
  omega

theorem netDo_spoil (s : ByteArray) (h2 : s.size ≤ 2000) (a : Int) (k : Nat) (x : Int) (hk : 2 * k + 1 < s.size) (hx : 1 ≤ x ∧ x ≤ 65534) : netDo [s] 2 a (k : Int) x = ([turnOf s (k : Int) x], ByteArray.empty, false) := by
  have hok : netOk [s] = true := by simp [netOk, fits, h2]
  have hsh := shows_turn s k x hk h2 hx
  have e : placeOf a 1 = 0 := placeOf_one a
  have t : txt [s] 0 = s := rfl
  simp [netDo, hok, e, befallen, t, hsh]

theorem netDo_give (s : ByteArray) (h2 : s.size ≤ 2000) (a b c : Int) : netDo [s] 4 a b c = ([], s, true) := by
  have hok : netOk [s] = true := by simp [netOk, fits, h2]
  have e : placeOf a 1 = 0 := placeOf_one a
  have t : txt [s] 0 = s := rfl
  simp [netDo, hok, e, befallen, without, t]

theorem netDoOwn (B g n cap : Nat) (ss : List ByteArray) (kind at_ half turn : Int) (hn : n ≤ 1048576) (hsm : ∀ i, i < n → (txt ss i).size ≤ 1048576) (w : World) (T : Texts w B g n cap ss) :
    Calls Try.prog 9 #[.agg #[.slice (some ⟨g, 0, none⟩) n cap], .agg #[.int .i64 kind, .int .i64 at_, .int .i64 half, .int .i64 turn]] w fun e w' => ∃ v, e = .returned v ∧ Since w w' ∧ IsDone w.heap.size (netDo ss kind at_ half turn) w' v := by
  refine (implNetDo _ n cap ss kind at_ half turn hn hsm w T.reads (fun wx h => implNetOk g n cap ss B wx (T.since h))).mono ?_
  rintro _ w' ⟨g', m, c, rfl, T', k⟩
  exact ⟨_, rfl, k, g', m, c, rfl, T'⟩

/-- FROM HERE ON BY PROGRAM. -/
def atOf (zs : List Int) (len k : Nat) : Int := if k < len then zs.getD k 0 else ((k : Int) * 7 + len) % 256

theorem at_range (a : Option Addr) (len : Nat) (zs : List Int) (w : World) (hb : Bytes w a len zs) (k : Nat) : 0 ≤ atOf zs len k ∧ atOf zs len k ≤ 255 := by
  unfold atOf
  by_cases h : k < len
  · rw [if_pos h]
    rcases hb with h0 | ⟨b, off, rfl, hl, hz⟩
    · omega
    · exact (hz k h).2
  · rw [if_neg h]
    omega

set_option maxHeartbeats 4000000 in
set_option maxRecDepth 20000 in
theorem walkSpoil (a0 : Option Addr) (len0 cap0 : Nat) (z0 : List Int) (w : World) (hb : Bytes w a0 len0 z0) :
    Calls Try.prog 3 #[.slice a0 len0 cap0] w fun e w' => e = .returned (.bool true) ∧ Below w.heap.size w w' := by
  have hbig := fun wx => big_ a0 len0 cap0 wx
  by_cases hm : len0 ≤ 1048576
  case neg =>
    rw [show decide ((1048576 : Int) < (len0 : Int)) = true by simp; omega] at hbig
    clear hb
    go_enter Try.func3, Try.ntmps3
    go_wp2_with (go_at_call 4; refine (hbig _).mono ?_; rintro _ _ ⟨rfl, rfl⟩)
    go_ret
    exact ⟨rfl, Below.refl _ _⟩
  rw [show decide ((1048576 : Int) < (len0 : Int)) = false by simp; omega] at hbig
  have hdr := drawDg a0 len0 cap0 z0 w hb hm
  have hat : Hid (∀ (k : Nat), k ≤ 1000 → ∀ wx, Since w wx → Calls Try.prog 10 #[.slice a0 len0 cap0, .int .i64 (k : Int)] wx fun e w' => e = .returned (.int .i64 (atOf z0 len0 k)) ∧ wx = w') := fun k hk wx h => (at_ a0 len0 cap0 z0 k hk w hb hm wx h).mono fun e w' ⟨h1, _, _, h2⟩ => ⟨h1, h2⟩
  have r3 := at_range a0 len0 z0 w hb 3
  have r4 := at_range a0 len0 z0 w hb 4
  have r5 := at_range a0 len0 z0 w hb 5
  clear hb
  go_enter Try.func3, Try.ntmps3
  go_wp2_with (first | (go_at_call 4; refine (hbig _).mono ?_; rintro _ _ ⟨rfl, rfl⟩) | (go_at_call 5; refine hdr.mono ?_; clear hdr; rintro _ w1 ⟨sh, sp, dh, dp, id, fr, to, sq, ak, fl, wn, ms, d, rfl, ⟨hsh, hdh, hsq, hak, hfl⟩, g1⟩; unfold addrVal segVal))
  have hi := fun wx => implPutDg sh sp dh dp id fr to sq ak fl wn ms d hsh hdh hsq hak hfl wx
  have hs := fun wx => specPutDg sh sp dh dp id fr to sq ak fl wn ms d hsh hdh hsq hak hfl wx
  have hbk := dg_put sh sp dh dp id sq ak fl wn ms d hsh hdh hsq hak
  generalize putDgram sh sp dh dp id sq ak fl wn ms d = P at hi hs hbk
  unfold addrVal segVal at hi hs
  have H := held3 w1 sh sp dh dp fr to sq ak fl wn ms d
  have G := ((Since.trans (Since.refl w) g1).alloc (.cells #[.int .u32 sh, .int .i64 sp] 26)).alloc (.cells #[.int .u32 dh, .int .i64 dp] 26)
  replace G := G.alloc (.cells #[.int .i64 fr, .int .i64 to, .int .u32 sq, .int .u32 ak, .int .i64 fl, .int .i64 wn, .int .i64 ms, .string d] 28)
  clear g1 hsh hdh hsq hak hfl
  refine (hs _).mono ?_
  rintro _ z1 ⟨rfl, g1⟩
  replace H := H.since g1
  replace G := G.trans g1
  obtain ⟨⟨r0', r1', h0, h1⟩, ⟨r4', r5', h2, h3⟩, r8, r9, ra, rb, rc, rd, re, rf, rg, rh⟩ := H
  clear hs g1
  by_cases hz : P.size = 0
  · obtain rfl := text_empty P hz
    clear hbk hz
    go_wp2_with (go_at_call 7; refine (hi _).mono ?_; rintro _ z2 ⟨rfl, g2⟩; replace G := G.trans g2)
    go_ret
    exact ⟨rfl, G⟩
  obtain ⟨hdg, h580⟩ := hbk hz
  have htx := text_full P hz
  have hP2 : 2 ≤ P.size := by have := hdg.1.1.1; omega
  clear hbk hi r0' r1' h0 h1 r4' r5' h2 h3 r8 r9 ra rb rc rd re rf rg rh
  have hsend := fun wx => implNetSendNil P (by omega) wx
  go_wp2_with (go_at_call 8; refine (hsend _).mono ?_; rintro _ w3 ⟨gn, cn, rfl, Tn, k3⟩; replace G := G.trans k3)
  clear hsend
  have N := Rec1.new w3 (.slice (some ⟨gn, 0, none⟩) 1 cn) 34
  have kN := (Since.refl w3).alloc (.cells #[.slice (some ⟨gn, 0, none⟩) 1 cn] 34)
  replace G := G.trans kN
  replace Tn := Tn.since kN
  generalize w3.alloc (.cells #[.slice (some ⟨gn, 0, none⟩) 1 cn] 34) = w4 at G N Tn ⊢
  generalize w3.heap.size = bN at N ⊢
  clear kN k3
  have hat3 := hat.out 3 (by omega)
  have hat4 := hat.out 4 (by omega)
  have hat5 := hat.out 5 (by omega)
  clear hat
  generalize atOf z0 len0 3 = q3 at r3 hat3
  generalize atOf z0 len0 4 = q4 at r4 hat4
  generalize atOf z0 len0 5 = q5 at r5 hat5
  have hP20 : P.size ≤ 1048576 := by omega
  obtain ⟨kk, hkk⟩ : ∃ kk : Nat, kk = q3.toNat % (P.size / 2) := ⟨_, rfl⟩
  have hk2 : kk < P.size / 2 := by rw [hkk]; exact Nat.mod_lt _ (by omega)
  have hquo : (P.size : Int).tdiv 2 = (P.size : Int) / 2 := Int.tdiv_eq_ediv_of_nonneg (by omega)
  have hwq : IntKind.i64.wrap ((P.size : Int) / 2) = (P.size : Int) / 2 := by rw [IntWalk.i64_left]; exact IntWalk.wrap64_in _ ⟨by omega, by omega⟩
  have hrem : q3.tmod ((P.size : Int) / 2) = (kk : Int) := by rw [Int.tmod_eq_emod_of_nonneg r3.1, hkk, Int.natCast_emod, Int.toNat_of_nonneg r3.1]; rfl
  have hne0 : ¬ (P.size : Int) / 2 = 0 := by omega
  have hmul : IntKind.i64.wrap (q4 * 255) = q4 * 255 := by rw [IntWalk.i64_left]; exact IntWalk.wrap64_in _ ⟨by omega, by omega⟩
  have hadd : IntKind.i64.wrap (1 + q4 * 255) = 1 + q4 * 255 := by rw [IntWalk.i64_left]; exact IntWalk.wrap64_in _ ⟨by omega, by omega⟩
  have hneg : IntKind.i64.wrap (-q5) = -q5 := by rw [IntWalk.i64_left]; exact IntWalk.wrap64_in _ ⟨by omega, by omega⟩
  clear hkk
  obtain ⟨tt, htt⟩ : ∃ tt : Int, tt = 1 + q4 * 255 := ⟨_, rfl⟩
  rw [← htt] at hadd
  have ht1 : 1 ≤ tt ∧ tt ≤ 65534 := by omega
  replace htt : Hid _ := htt
  obtain ⟨Y, hY⟩ : ∃ Y, Hid (Y = turnOf P (kk : Int) tt) := ⟨_, rfl⟩
  have hYn : ¬ isDg Y := by rw [hY.out]; exact dg_turned_not P hdg (by omega) kk (by omega) tt ht1
  have hYP : Y ≠ P := by rw [hY.out]; exact turn_differs P kk tt (by omega) ⟨by omega, by omega⟩
  have hYs : Y.size = P.size := by rw [hY.out]; exact turnOf_size _ _ _
  have hY20 : Y.size ≤ 1048576 := by omega
  obtain ⟨r8, hr8⟩ : ∃ r, Hid (r = netDo [P] 2 0 (kk : Int) tt) := ⟨_, rfl⟩
  have e8 : Hid (r8 = ([Y], ByteArray.empty, false)) := by unfold Hid; rw [hr8.out, hY.out]; exact netDo_spoil P (by omega) 0 kk tt (by omega) ht1
  obtain ⟨r9, hr9⟩ : ∃ r, Hid (r = netDo [P] 4 q5 0 0) := ⟨_, rfl⟩
  have e9 : Hid (r9 = ([], P, true)) := by unfold Hid; rw [hr9.out]; exact netDo_give P (by omega) _ _ _
  obtain ⟨r10, hr10⟩ : ∃ r, Hid (r = netDo [Y] 4 (-q5) 0 0) := ⟨_, rfl⟩
  have e10 : Hid (r10 = ([], Y, true)) := by unfold Hid; rw [hr10.out]; exact netDo_give Y (by omega) _ _ _
  refine wp_region_store (wb := w4) 18 (fun i x v => match i with
      | 0 => v = .agg #[.slice (some ⟨gn, 0, none⟩) 1 cn]
      | 1 => v = .slice a0 len0 cap0
      | 2 => v = .int .i64 q3
      | 3 => v = .string P
      | 4 => v = .int .i64 (P.size : Int)
      | 5 => v = .int .i64 ((P.size : Int) / 2)
      | 6 => v = .int .i64 (kk : Int)
      | 7 => v = .slice a0 len0 cap0
      | 8 => v = .int .i64 q4
      | 9 => v = .int .i64 (q4 * 255)
      | 10 => v = .int .i64 tt
      | 11 => v = .agg #[.int .i64 2, .int .i64 0, .int .i64 (kk : Int), .int .i64 tt]
      | 12 => IsDone w4.heap.size r8 x v
      | 13 => IsDone w4.heap.size r8 x v
      | 14 => SomeNet w4.heap.size r8.1 x v
      | 15 => v = .string r8.2.1
      | 16 => v = .bool r8.2.2
      | 17 => IsBox w4.heap.size x v
      | 18 => True
      | 19 => v = .string r8.2.1
      | 20 => v = .bool r8.2.2
      | _ => True) (fun vals x => Stored w4.heap.size 17 14 vals x) (fun v => { tmps := #[Value.slice a0 len0 cap0, undef, Value.bool false, Value.pointer (some ⟨w1.heap.size, 0, none⟩), Value.pointer (some ⟨w1.heap.size + 1, 0, none⟩), Value.int IntKind.i64 id, Value.pointer (some ⟨w1.heap.size + 1 + 1, 0, none⟩), Value.string P, Value.pointer (some ⟨bN, 0, none⟩), v 17, v 19, v 20, undef, undef, undef, undef, undef, undef, undef, undef, undef, undef, undef, undef, undef, undef, Value.slice a0 len0 cap0, Value.bool false, Value.tuple #[Value.agg #[Value.int IntKind.u32 sh, Value.int IntKind.i64 sp], Value.agg #[Value.int IntKind.u32 dh, Value.int IntKind.i64 dp], Value.int IntKind.i64 id, Value.agg #[Value.int IntKind.i64 fr, Value.int IntKind.i64 to, Value.int IntKind.u32 sq, Value.int IntKind.u32 ak, Value.int IntKind.i64 fl, Value.int IntKind.i64 wn, Value.int IntKind.i64 ms, Value.string d]], Value.slice a0 len0 cap0, Value.tuple #[Value.agg #[Value.int IntKind.u32 sh, Value.int IntKind.i64 sp], Value.agg #[Value.int IntKind.u32 dh, Value.int IntKind.i64 dp], Value.int IntKind.i64 id, Value.agg #[Value.int IntKind.i64 fr, Value.int IntKind.i64 to, Value.int IntKind.u32 sq, Value.int IntKind.u32 ak, Value.int IntKind.i64 fl, Value.int IntKind.i64 wn, Value.int IntKind.i64 ms, Value.string d]], Value.agg #[Value.int IntKind.u32 sh, Value.int IntKind.i64 sp], Value.agg #[Value.int IntKind.u32 dh, Value.int IntKind.i64 dp], Value.int IntKind.i64 id, Value.agg #[Value.int IntKind.i64 fr, Value.int IntKind.i64 to, Value.int IntKind.u32 sq, Value.int IntKind.u32 ak, Value.int IntKind.i64 fl, Value.int IntKind.i64 wn, Value.int IntKind.i64 ms, Value.string d], Value.agg #[Value.int IntKind.u32 sh, Value.int IntKind.i64 sp], Value.agg #[Value.int IntKind.u32 dh, Value.int IntKind.i64 dp], Value.int IntKind.i64 id, Value.agg #[Value.int IntKind.i64 fr, Value.int IntKind.i64 to, Value.int IntKind.u32 sq, Value.int IntKind.u32 ak, Value.int IntKind.i64 fl, Value.int IntKind.i64 wn, Value.int IntKind.i64 ms, Value.string d], Value.string P, Value.string P, Value.bool false, undef, undef, undef, undef, undef, undef, Value.agg #[Value.slice none 0 0], Value.string P, Value.agg #[Value.slice (some ⟨gn, 0, none⟩) 1 cn], v 13, v 0, v 1, v 2, v 3, v 4, v 5, v 6, v 7, v 8, v 9, v 10, v 11, v 12, v 14, v 15, v 16, undef, undef, undef, undef, undef, undef, undef, undef, undef, undef, undef, undef, undef, undef, undef, undef, undef, undef, undef, undef, undef, undef, undef, undef, undef, undef, undef, undef, undef, undef, undef, undef, undef, undef, undef, undef, undef, undef, undef, undef, undef, undef, undef, undef, undef, undef, undef, undef, undef, undef, undef, undef], defers := [] }) (by kernel_rfl) (by decide) (by kernel_rfl) (Since.refl _) (fun vals => by kernel_rfl) ?_ ?_ ?_ ?_ ?_ ?_ ?_
  case refine_1 =>
    intro j x x' v h1 h2
    match j, h2 with
    | 12, h2 => exact h2.since h1
    | 13, h2 => exact h2.since h1
    | 14, h2 => exact h2.since h1
    | 17, h2 => exact h2.since h1
    | 0, h2 | 1, h2 | 2, h2 | 3, h2 | 4, h2 | 5, h2 | 6, h2 | 7, h2 | 8, h2 | 9, h2 | 10, h2 | 11, h2 | 15, h2 | 16, h2 | 18, h2 | 19, h2 | 20, h2 => exact h2
    | n + 21, _ => trivial
  case refine_2 => exact fun _ _ => trivial
  case refine_3 => exact fun _ _ _ h1 h2 => h2.since h1
  case refine_4 => exact fun _ _ _ h h2 => h2.congr (h _ rfl { on := 17, ground := .data } (by simp) rfl) (h _ rfl { on := 14, ground := .data } (by simp) rfl)
  case refine_5 =>
    repeat (first | exact eachBut_nil | refine eachBut_skip ?_ | refine eachBut_cons ?_ ?_)
    all_goals intro vals x hx hv
    all_goals simp [Region.binds] at hv
    · simp [does, doesUpon, go_sem, hv, Since.refl]
    · simp [does, doesUpon, go_sem, hv, Since.refl]
    · simp [does, doesUpon, go_sem]
      exact ⟨(Since.refl _).alloc _, IsBox.new hx.le⟩
    · obtain ⟨g, m, c, h1, T⟩ := hv
      simp [does, doesUpon, go_sem, h1, Since.refl]
    · obtain ⟨g, m, c, h1, T⟩ := hv
      simp [does, doesUpon, go_sem, h1, Since.refl]
    · obtain ⟨g, m, c, h1, T⟩ := hv
      simp [does, doesUpon, go_sem, h1, Since.refl]
      exact ⟨g, m, c, rfl, T⟩
    · obtain ⟨g, m, c, h1, T⟩ := hv
      simp [does, doesUpon, go_sem, h1, Since.refl]
      exact ⟨g, m, c, rfl, T⟩
    · obtain ⟨h0, h1⟩ := hv
      simp [does, doesUpon, go_sem, h0, h1]
      have Tq := Tn.since hx
      refine (netDoOwn _ gn 1 cn [P] 2 0 (kk : Int) tt (by omega) (fun i hi => by obtain rfl : i = 0 := (by omega); show ByteArray.size _ ≤ _; first | exact hP20 | exact hY20) _ Tq).mono ?_
      rintro _ x' ⟨v, rfl, h5, g, m, c, h6, T'⟩
      rw [← hr8.out] at T' h6
      exact ⟨_, rfl, h5, g, m, c, h6, T'.mono hx.le⟩
    · obtain ⟨h0, h1⟩ := hv
      simp [does, doesUpon, go_sem, h0, h1, Since.refl]
    · rw [htt.out]
      rw [htt.out] at hadd
      simp [does, doesUpon, go_sem, hv, hadd, Since.refl]
    · simp [does, doesUpon, go_sem, hv, hmul, Since.refl]
    · simp [does, doesUpon, go_sem, hv]
      refine (hat4 _ (G.trans hx)).mono ?_
      rintro _ _ ⟨rfl, rfl⟩
      simp [Since.refl]
    · simp [does, doesUpon, go_sem, Since.refl]
    · obtain ⟨h0, h1⟩ := hv
      simp [does, doesUpon, go_sem, h0, h1, hrem, hne0, Since.refl]
    · simp [does, doesUpon, go_sem, hv, hquo, hwq, Since.refl]
    · simp [does, doesUpon, go_sem, hv, Since.refl]
    · simp [does, doesUpon, go_sem, Since.refl]
    · simp [does, doesUpon, go_sem, hv]
      refine (hat3 _ (G.trans hx)).mono ?_
      rintro _ _ ⟨rfl, rfl⟩
      simp [Since.refl]
    · simp [does, doesUpon, go_sem, Since.refl]
    · simp [does, doesUpon, go_sem, (N.since hx).c0, Since.refl]
  case refine_6 =>
    intro o ho vals x hx hv
    obtain rfl := Option.some.inj ho
    simp [Region.binds] at hv
    have hpb : IsBox w4.heap.size x (vals 17) := by first | exact hv.1 | exact hv.2.1 | exact hv.2.2.1
    have hqb : SomeNet w4.heap.size r8.1 x (vals 14) := by first | exact hv.2.1 | exact hv.1 | exact hv.2.2.1
    obtain ⟨b, u, h9, lb, hb⟩ := hpb
    obtain ⟨g, m, c, h6, T⟩ := hqb
    have hc := (Rec1.of_heap hb).c0
    have hf := (Rec1.of_heap hb).fz 0
    simp [does, doesUpon, go_sem, h9, h6, hc, hf]
    refine ⟨since_put1 hx lb 0 _, ?_, ⟨b, _, h9, h6, lb, box_put hb⟩⟩
    intro j v h2
    match j, h2 with
    | 12, h2 => exact h2.put hb
    | 13, h2 => exact h2.put hb
    | 14, h2 => exact h2.put hb
    | 17, h2 => exact h2.put hb
    | 0, h2 | 1, h2 | 2, h2 | 3, h2 | 4, h2 | 5, h2 | 6, h2 | 7, h2 | 8, h2 | 9, h2 | 10, h2 | 11, h2 | 15, h2 | 16, h2 | 18, h2 | 19, h2 | 20, h2 => exact h2
    | n + 21, _ => trivial
  intro vals w8 k_w8 hv hS
  have h0 : vals 0 = _ := hv 0 (by decide)
  have h1 : vals 1 = _ := hv 1 (by decide)
  have h2 : vals 2 = _ := hv 2 (by decide)
  have h3 : vals 3 = _ := hv 3 (by decide)
  have h4 : vals 4 = _ := hv 4 (by decide)
  have h5 : vals 5 = _ := hv 5 (by decide)
  have h6 : vals 6 = _ := hv 6 (by decide)
  have h7 : vals 7 = _ := hv 7 (by decide)
  have h8 : vals 8 = _ := hv 8 (by decide)
  have h9 : vals 9 = _ := hv 9 (by decide)
  have h10 : vals 10 = _ := hv 10 (by decide)
  have h11 : vals 11 = _ := hv 11 (by decide)
  have h12 : IsDone w4.heap.size r8 w8 (vals 12) := hv 12 (by decide)
  obtain ⟨ga0_w8, ma0_w8, ca0_w8, h12, _⟩ := h12
  have h13 : IsDone w4.heap.size r8 w8 (vals 13) := hv 13 (by decide)
  obtain ⟨ga1_w8, ma1_w8, ca1_w8, h13, _⟩ := h13
  have h14 : SomeNet w4.heap.size r8.1 w8 (vals 14) := hv 14 (by decide)
  obtain ⟨g_T8, m_T8, c_T8, h14, T8⟩ := h14
  have h15 : vals 15 = _ := hv 15 (by decide)
  have h16 : vals 16 = _ := hv 16 (by decide)
  have h19 : vals 19 = _ := hv 19 (by decide)
  have h20 : vals 20 = _ := hv 20 (by decide)
  obtain ⟨b_B8, u_B8, h17, hu_B8, lb_B8, hb_B8⟩ := hS
  rw [h14] at hu_B8
  obtain rfl : u_B8 = .slice (some ⟨g_T8, 0, none⟩) m_T8 c_T8 := by simpa using hu_B8.symm
  clear hv hu_B8
  simp only [h0, h1, h2, h3, h4, h5, h6, h7, h8, h9, h10, h11, h12, h13, h14, h15, h16, h17, h19, h20]
  clear h0 h1 h2 h3 h4 h5 h6 h7 h8 h9 h10 h11 h12 h13 h14 h15 h16 h17 h19 h20
  have l_T8 := T8.len
  have z_k_w8 := k_w8.le
  try simp only [World.size_alloc] at z_k_w8
  replace G := G.trans k_w8
  replace N := N.since k_w8
  replace Tn := Tn.since k_w8
  have B8 := Rec1.of_heap hb_B8
  obtain rfl := e8.out
  have hm8 : m_T8 = 1 := l_T8.symm
  subst hm8
  clear hquo hwq hrem hne0 hmul hadd hr8 htt
  have cN := N.c0
  have cB8 := B8.c0
  go_wp2_with (fail)
  refine wp_region_store (wb := w8) 10 (fun i x v => match i with
      | 0 => v = .agg #[.slice (some ⟨gn, 0, none⟩) 1 cn]
      | 1 => v = .slice a0 len0 cap0
      | 2 => v = .int .i64 q5
      | 3 => v = .agg #[.int .i64 4, .int .i64 q5, .int .i64 0, .int .i64 0]
      | 4 => IsDone w8.heap.size r9 x v
      | 5 => IsDone w8.heap.size r9 x v
      | 6 => SomeNet w8.heap.size r9.1 x v
      | 7 => v = .string r9.2.1
      | 8 => v = .bool r9.2.2
      | 9 => IsBox w8.heap.size x v
      | 10 => True
      | 11 => v = .string r9.2.1
      | 12 => v = .bool r9.2.2
      | _ => True) (fun vals x => Stored w8.heap.size 9 6 vals x) (fun v => { tmps := #[Value.slice a0 len0 cap0, undef, Value.bool false, Value.pointer (some ⟨w1.heap.size, 0, none⟩), Value.pointer (some ⟨w1.heap.size + 1, 0, none⟩), Value.int IntKind.i64 id, Value.pointer (some ⟨w1.heap.size + 1 + 1, 0, none⟩), Value.string P, Value.pointer (some ⟨bN, 0, none⟩), Value.pointer (some ⟨b_B8, 0, none⟩), Value.string ByteArray.empty, Value.bool false, v 9, v 11, v 12, undef, undef, undef, undef, undef, undef, undef, undef, undef, undef, undef, Value.slice a0 len0 cap0, Value.bool false, Value.tuple #[Value.agg #[Value.int IntKind.u32 sh, Value.int IntKind.i64 sp], Value.agg #[Value.int IntKind.u32 dh, Value.int IntKind.i64 dp], Value.int IntKind.i64 id, Value.agg #[Value.int IntKind.i64 fr, Value.int IntKind.i64 to, Value.int IntKind.u32 sq, Value.int IntKind.u32 ak, Value.int IntKind.i64 fl, Value.int IntKind.i64 wn, Value.int IntKind.i64 ms, Value.string d]], Value.slice a0 len0 cap0, Value.tuple #[Value.agg #[Value.int IntKind.u32 sh, Value.int IntKind.i64 sp], Value.agg #[Value.int IntKind.u32 dh, Value.int IntKind.i64 dp], Value.int IntKind.i64 id, Value.agg #[Value.int IntKind.i64 fr, Value.int IntKind.i64 to, Value.int IntKind.u32 sq, Value.int IntKind.u32 ak, Value.int IntKind.i64 fl, Value.int IntKind.i64 wn, Value.int IntKind.i64 ms, Value.string d]], Value.agg #[Value.int IntKind.u32 sh, Value.int IntKind.i64 sp], Value.agg #[Value.int IntKind.u32 dh, Value.int IntKind.i64 dp], Value.int IntKind.i64 id, Value.agg #[Value.int IntKind.i64 fr, Value.int IntKind.i64 to, Value.int IntKind.u32 sq, Value.int IntKind.u32 ak, Value.int IntKind.i64 fl, Value.int IntKind.i64 wn, Value.int IntKind.i64 ms, Value.string d], Value.agg #[Value.int IntKind.u32 sh, Value.int IntKind.i64 sp], Value.agg #[Value.int IntKind.u32 dh, Value.int IntKind.i64 dp], Value.int IntKind.i64 id, Value.agg #[Value.int IntKind.i64 fr, Value.int IntKind.i64 to, Value.int IntKind.u32 sq, Value.int IntKind.u32 ak, Value.int IntKind.i64 fl, Value.int IntKind.i64 wn, Value.int IntKind.i64 ms, Value.string d], Value.string P, Value.string P, Value.bool false, undef, undef, undef, undef, undef, undef, Value.agg #[Value.slice none 0 0], Value.string P, Value.agg #[Value.slice (some ⟨gn, 0, none⟩) 1 cn], Value.tuple #[Value.agg #[Value.slice (some ⟨ga1_w8, 0, none⟩) ma1_w8 ca1_w8], Value.string ByteArray.empty, Value.bool false], Value.agg #[Value.slice (some ⟨gn, 0, none⟩) 1 cn], Value.slice a0 len0 cap0, Value.int IntKind.i64 q3, Value.string P, Value.int IntKind.i64 P.size, Value.int IntKind.i64 (P.size / 2), Value.int IntKind.i64 kk, Value.slice a0 len0 cap0, Value.int IntKind.i64 q4, Value.int IntKind.i64 (q4 * 255), Value.int IntKind.i64 tt, Value.agg #[Value.int IntKind.i64 2, Value.int IntKind.i64 0, Value.int IntKind.i64 kk, Value.int IntKind.i64 tt], Value.tuple #[Value.agg #[Value.slice (some ⟨ga0_w8, 0, none⟩) ma0_w8 ca0_w8], Value.string ByteArray.empty, Value.bool false], Value.agg #[Value.slice (some ⟨g_T8, 0, none⟩) 1 c_T8], Value.string ByteArray.empty, Value.bool false, v 5, v 0, v 1, v 2, v 3, v 4, v 6, v 7, v 8, undef, undef, undef, undef, undef, undef, undef, undef, undef, undef, undef, undef, undef, undef, undef, undef, undef, undef, undef, undef, undef, undef, undef, undef, undef, undef, undef, undef, undef, undef, undef, undef, undef, undef, undef, undef, undef, undef, undef, undef, undef, undef, undef], defers := [] }) (by kernel_rfl) (by decide) (by kernel_rfl) (Since.refl _) (fun vals => by kernel_rfl) ?_ ?_ ?_ ?_ ?_ ?_ ?_
  case refine_1 =>
    intro j x x' v h1 h2
    match j, h2 with
    | 4, h2 => exact h2.since h1
    | 5, h2 => exact h2.since h1
    | 6, h2 => exact h2.since h1
    | 9, h2 => exact h2.since h1
    | 0, h2 | 1, h2 | 2, h2 | 3, h2 | 7, h2 | 8, h2 | 10, h2 | 11, h2 | 12, h2 => exact h2
    | n + 13, _ => trivial
  case refine_2 => exact fun _ _ => trivial
  case refine_3 => exact fun _ _ _ h1 h2 => h2.since h1
  case refine_4 => exact fun _ _ _ h h2 => h2.congr (h _ rfl { on := 9, ground := .data } (by simp) rfl) (h _ rfl { on := 6, ground := .data } (by simp) rfl)
  case refine_5 =>
    repeat (first | exact eachBut_nil | refine eachBut_skip ?_ | refine eachBut_cons ?_ ?_)
    all_goals intro vals x hx hv
    all_goals simp [Region.binds] at hv
    · simp [does, doesUpon, go_sem, hv, Since.refl]
    · simp [does, doesUpon, go_sem, hv, Since.refl]
    · simp [does, doesUpon, go_sem]
      exact ⟨(Since.refl _).alloc _, IsBox.new hx.le⟩
    · obtain ⟨g, m, c, h1, T⟩ := hv
      simp [does, doesUpon, go_sem, h1, Since.refl]
    · obtain ⟨g, m, c, h1, T⟩ := hv
      simp [does, doesUpon, go_sem, h1, Since.refl]
    · obtain ⟨g, m, c, h1, T⟩ := hv
      simp [does, doesUpon, go_sem, h1, Since.refl]
      exact ⟨g, m, c, rfl, T⟩
    · obtain ⟨g, m, c, h1, T⟩ := hv
      simp [does, doesUpon, go_sem, h1, Since.refl]
      exact ⟨g, m, c, rfl, T⟩
    · obtain ⟨h0, h1⟩ := hv
      simp [does, doesUpon, go_sem, h0, h1]
      have Tq := Tn.since hx
      refine (netDoOwn _ gn 1 cn [P] 4 q5 0 0 (by omega) (fun i hi => by obtain rfl : i = 0 := (by omega); show ByteArray.size _ ≤ _; first | exact hP20 | exact hY20) _ Tq).mono ?_
      rintro _ x' ⟨v, rfl, h5, g, m, c, h6, T'⟩
      rw [← hr9.out] at T' h6
      exact ⟨_, rfl, h5, g, m, c, h6, T'.mono hx.le⟩
    · simp [does, doesUpon, go_sem, hv, Since.refl]
    · simp [does, doesUpon, go_sem, hv]
      refine (hat5 _ (G.trans hx)).mono ?_
      rintro _ _ ⟨rfl, rfl⟩
      simp [Since.refl]
    · simp [does, doesUpon, go_sem, Since.refl]
    · simp [does, doesUpon, go_sem, (N.since hx).c0, Since.refl]
  case refine_6 =>
    intro o ho vals x hx hv
    obtain rfl := Option.some.inj ho
    simp [Region.binds] at hv
    have hpb : IsBox w8.heap.size x (vals 9) := by first | exact hv.1 | exact hv.2.1 | exact hv.2.2.1
    have hqb : SomeNet w8.heap.size r9.1 x (vals 6) := by first | exact hv.2.1 | exact hv.1 | exact hv.2.2.1
    obtain ⟨b, u, h9, lb, hb⟩ := hpb
    obtain ⟨g, m, c, h6, T⟩ := hqb
    have hc := (Rec1.of_heap hb).c0
    have hf := (Rec1.of_heap hb).fz 0
    simp [does, doesUpon, go_sem, h9, h6, hc, hf]
    refine ⟨since_put1 hx lb 0 _, ?_, ⟨b, _, h9, h6, lb, box_put hb⟩⟩
    intro j v h2
    match j, h2 with
    | 4, h2 => exact h2.put hb
    | 5, h2 => exact h2.put hb
    | 6, h2 => exact h2.put hb
    | 9, h2 => exact h2.put hb
    | 0, h2 | 1, h2 | 2, h2 | 3, h2 | 7, h2 | 8, h2 | 10, h2 | 11, h2 | 12, h2 => exact h2
    | n + 13, _ => trivial
  intro vals w9 k_w9 hv hS
  have h0 : vals 0 = _ := hv 0 (by decide)
  have h1 : vals 1 = _ := hv 1 (by decide)
  have h2 : vals 2 = _ := hv 2 (by decide)
  have h3 : vals 3 = _ := hv 3 (by decide)
  have h4 : IsDone w8.heap.size r9 w9 (vals 4) := hv 4 (by decide)
  obtain ⟨ga0_w9, ma0_w9, ca0_w9, h4, _⟩ := h4
  have h5 : IsDone w8.heap.size r9 w9 (vals 5) := hv 5 (by decide)
  obtain ⟨ga1_w9, ma1_w9, ca1_w9, h5, _⟩ := h5
  have h6 : SomeNet w8.heap.size r9.1 w9 (vals 6) := hv 6 (by decide)
  obtain ⟨g_T9, m_T9, c_T9, h6, T9⟩ := h6
  have h7 : vals 7 = _ := hv 7 (by decide)
  have h8 : vals 8 = _ := hv 8 (by decide)
  have h11 : vals 11 = _ := hv 11 (by decide)
  have h12 : vals 12 = _ := hv 12 (by decide)
  obtain ⟨b_B9, u_B9, h9, hu_B9, lb_B9, hb_B9⟩ := hS
  rw [h6] at hu_B9
  obtain rfl : u_B9 = .slice (some ⟨g_T9, 0, none⟩) m_T9 c_T9 := by simpa using hu_B9.symm
  clear hv hu_B9
  simp only [h0, h1, h2, h3, h4, h5, h6, h7, h8, h9, h11, h12]
  clear h0 h1 h2 h3 h4 h5 h6 h7 h8 h9 h11 h12
  have l_T9 := T9.len
  have z_k_w9 := k_w9.le
  try simp only [World.size_alloc] at z_k_w9
  replace G := G.trans k_w9
  replace N := N.since k_w9
  replace B8 := B8.since k_w9
  replace Tn := Tn.since k_w9
  replace T8 := T8.since k_w9
  have B9 := Rec1.of_heap hb_B9
  obtain rfl := e9.out
  clear hr9
  replace cN := N.c0
  replace cB8 := B8.c0
  go_wp2_with (fail)
  refine wp_region_store (wb := w9) 11 (fun i x v => match i with
      | 0 => v = .agg #[.slice (some ⟨g_T8, 0, none⟩) 1 c_T8]
      | 1 => v = .slice a0 len0 cap0
      | 2 => v = .int .i64 q5
      | 3 => v = .int .i64 (-q5)
      | 4 => v = .agg #[.int .i64 4, .int .i64 (-q5), .int .i64 0, .int .i64 0]
      | 5 => IsDone w9.heap.size r10 x v
      | 6 => IsDone w9.heap.size r10 x v
      | 7 => SomeNet w9.heap.size r10.1 x v
      | 8 => v = .string r10.2.1
      | 9 => v = .bool r10.2.2
      | 10 => IsBox w9.heap.size x v
      | 11 => True
      | 12 => v = .string r10.2.1
      | 13 => v = .bool r10.2.2
      | _ => True) (fun vals x => Stored w9.heap.size 10 7 vals x) (fun v => { tmps := #[Value.slice a0 len0 cap0, undef, Value.bool false, Value.pointer (some ⟨w1.heap.size, 0, none⟩), Value.pointer (some ⟨w1.heap.size + 1, 0, none⟩), Value.int IntKind.i64 id, Value.pointer (some ⟨w1.heap.size + 1 + 1, 0, none⟩), Value.string P, Value.pointer (some ⟨bN, 0, none⟩), Value.pointer (some ⟨b_B8, 0, none⟩), Value.string ByteArray.empty, Value.bool false, Value.pointer (some ⟨b_B9, 0, none⟩), Value.string P, Value.bool true, v 10, v 12, v 13, undef, undef, undef, undef, undef, undef, undef, undef, Value.slice a0 len0 cap0, Value.bool false, Value.tuple #[Value.agg #[Value.int IntKind.u32 sh, Value.int IntKind.i64 sp], Value.agg #[Value.int IntKind.u32 dh, Value.int IntKind.i64 dp], Value.int IntKind.i64 id, Value.agg #[Value.int IntKind.i64 fr, Value.int IntKind.i64 to, Value.int IntKind.u32 sq, Value.int IntKind.u32 ak, Value.int IntKind.i64 fl, Value.int IntKind.i64 wn, Value.int IntKind.i64 ms, Value.string d]], Value.slice a0 len0 cap0, Value.tuple #[Value.agg #[Value.int IntKind.u32 sh, Value.int IntKind.i64 sp], Value.agg #[Value.int IntKind.u32 dh, Value.int IntKind.i64 dp], Value.int IntKind.i64 id, Value.agg #[Value.int IntKind.i64 fr, Value.int IntKind.i64 to, Value.int IntKind.u32 sq, Value.int IntKind.u32 ak, Value.int IntKind.i64 fl, Value.int IntKind.i64 wn, Value.int IntKind.i64 ms, Value.string d]], Value.agg #[Value.int IntKind.u32 sh, Value.int IntKind.i64 sp], Value.agg #[Value.int IntKind.u32 dh, Value.int IntKind.i64 dp], Value.int IntKind.i64 id, Value.agg #[Value.int IntKind.i64 fr, Value.int IntKind.i64 to, Value.int IntKind.u32 sq, Value.int IntKind.u32 ak, Value.int IntKind.i64 fl, Value.int IntKind.i64 wn, Value.int IntKind.i64 ms, Value.string d], Value.agg #[Value.int IntKind.u32 sh, Value.int IntKind.i64 sp], Value.agg #[Value.int IntKind.u32 dh, Value.int IntKind.i64 dp], Value.int IntKind.i64 id, Value.agg #[Value.int IntKind.i64 fr, Value.int IntKind.i64 to, Value.int IntKind.u32 sq, Value.int IntKind.u32 ak, Value.int IntKind.i64 fl, Value.int IntKind.i64 wn, Value.int IntKind.i64 ms, Value.string d], Value.string P, Value.string P, Value.bool false, undef, undef, undef, undef, undef, undef, Value.agg #[Value.slice none 0 0], Value.string P, Value.agg #[Value.slice (some ⟨gn, 0, none⟩) 1 cn], Value.tuple #[Value.agg #[Value.slice (some ⟨ga1_w8, 0, none⟩) ma1_w8 ca1_w8], Value.string ByteArray.empty, Value.bool false], Value.agg #[Value.slice (some ⟨gn, 0, none⟩) 1 cn], Value.slice a0 len0 cap0, Value.int IntKind.i64 q3, Value.string P, Value.int IntKind.i64 P.size, Value.int IntKind.i64 (P.size / 2), Value.int IntKind.i64 kk, Value.slice a0 len0 cap0, Value.int IntKind.i64 q4, Value.int IntKind.i64 (q4 * 255), Value.int IntKind.i64 tt, Value.agg #[Value.int IntKind.i64 2, Value.int IntKind.i64 0, Value.int IntKind.i64 kk, Value.int IntKind.i64 tt], Value.tuple #[Value.agg #[Value.slice (some ⟨ga0_w8, 0, none⟩) ma0_w8 ca0_w8], Value.string ByteArray.empty, Value.bool false], Value.agg #[Value.slice (some ⟨g_T8, 0, none⟩) 1 c_T8], Value.string ByteArray.empty, Value.bool false, Value.tuple #[Value.agg #[Value.slice (some ⟨ga1_w9, 0, none⟩) ma1_w9 ca1_w9], Value.string P, Value.bool true], Value.agg #[Value.slice (some ⟨gn, 0, none⟩) 1 cn], Value.slice a0 len0 cap0, Value.int IntKind.i64 q5, Value.agg #[Value.int IntKind.i64 4, Value.int IntKind.i64 q5, Value.int IntKind.i64 0, Value.int IntKind.i64 0], Value.tuple #[Value.agg #[Value.slice (some ⟨ga0_w9, 0, none⟩) ma0_w9 ca0_w9], Value.string P, Value.bool true], Value.agg #[Value.slice (some ⟨g_T9, 0, none⟩) m_T9 c_T9], Value.string P, Value.bool true, v 6, v 0, v 1, v 2, v 3, v 4, v 5, v 7, v 8, v 9, undef, undef, undef, undef, undef, undef, undef, undef, undef, undef, undef, undef, undef, undef, undef, undef, undef, undef, undef, undef, undef, undef, undef, undef, undef, undef, undef, undef, undef, undef, undef, undef, undef], defers := [] }) (by kernel_rfl) (by decide) (by kernel_rfl) (Since.refl _) (fun vals => by kernel_rfl) ?_ ?_ ?_ ?_ ?_ ?_ ?_
  case refine_1 =>
    intro j x x' v h1 h2
    match j, h2 with
    | 5, h2 => exact h2.since h1
    | 6, h2 => exact h2.since h1
    | 7, h2 => exact h2.since h1
    | 10, h2 => exact h2.since h1
    | 0, h2 | 1, h2 | 2, h2 | 3, h2 | 4, h2 | 8, h2 | 9, h2 | 11, h2 | 12, h2 | 13, h2 => exact h2
    | n + 14, _ => trivial
  case refine_2 => exact fun _ _ => trivial
  case refine_3 => exact fun _ _ _ h1 h2 => h2.since h1
  case refine_4 => exact fun _ _ _ h h2 => h2.congr (h _ rfl { on := 10, ground := .data } (by simp) rfl) (h _ rfl { on := 7, ground := .data } (by simp) rfl)
  case refine_5 =>
    repeat (first | exact eachBut_nil | refine eachBut_skip ?_ | refine eachBut_cons ?_ ?_)
    all_goals intro vals x hx hv
    all_goals simp [Region.binds] at hv
    · simp [does, doesUpon, go_sem, hv, Since.refl]
    · simp [does, doesUpon, go_sem, hv, Since.refl]
    · simp [does, doesUpon, go_sem]
      exact ⟨(Since.refl _).alloc _, IsBox.new hx.le⟩
    · obtain ⟨g, m, c, h1, T⟩ := hv
      simp [does, doesUpon, go_sem, h1, Since.refl]
    · obtain ⟨g, m, c, h1, T⟩ := hv
      simp [does, doesUpon, go_sem, h1, Since.refl]
    · obtain ⟨g, m, c, h1, T⟩ := hv
      simp [does, doesUpon, go_sem, h1, Since.refl]
      exact ⟨g, m, c, rfl, T⟩
    · obtain ⟨g, m, c, h1, T⟩ := hv
      simp [does, doesUpon, go_sem, h1, Since.refl]
      exact ⟨g, m, c, rfl, T⟩
    · obtain ⟨h0, h1⟩ := hv
      simp [does, doesUpon, go_sem, h0, h1]
      have Tq := T8.since hx
      refine (netDoOwn _ g_T8 1 c_T8 [Y] 4 (-q5) 0 0 (by omega) (fun i hi => by obtain rfl : i = 0 := (by omega); show ByteArray.size _ ≤ _; first | exact hP20 | exact hY20) _ Tq).mono ?_
      rintro _ x' ⟨v, rfl, h5, g, m, c, h6, T'⟩
      rw [← hr10.out] at T' h6
      exact ⟨_, rfl, h5, g, m, c, h6, T'.mono hx.le⟩
    · simp [does, doesUpon, go_sem, hv, Since.refl]
    · simp [does, doesUpon, go_sem, hv, hneg, Since.refl]
    · simp [does, doesUpon, go_sem, hv]
      refine (hat5 _ (G.trans hx)).mono ?_
      rintro _ _ ⟨rfl, rfl⟩
      simp [Since.refl]
    · simp [does, doesUpon, go_sem, Since.refl]
    · simp [does, doesUpon, go_sem, (B8.since hx).c0, Since.refl]
  case refine_6 =>
    intro o ho vals x hx hv
    obtain rfl := Option.some.inj ho
    simp [Region.binds] at hv
    have hpb : IsBox w9.heap.size x (vals 10) := by first | exact hv.1 | exact hv.2.1 | exact hv.2.2.1
    have hqb : SomeNet w9.heap.size r10.1 x (vals 7) := by first | exact hv.2.1 | exact hv.1 | exact hv.2.2.1
    obtain ⟨b, u, h9, lb, hb⟩ := hpb
    obtain ⟨g, m, c, h6, T⟩ := hqb
    have hc := (Rec1.of_heap hb).c0
    have hf := (Rec1.of_heap hb).fz 0
    simp [does, doesUpon, go_sem, h9, h6, hc, hf]
    refine ⟨since_put1 hx lb 0 _, ?_, ⟨b, _, h9, h6, lb, box_put hb⟩⟩
    intro j v h2
    match j, h2 with
    | 5, h2 => exact h2.put hb
    | 6, h2 => exact h2.put hb
    | 7, h2 => exact h2.put hb
    | 10, h2 => exact h2.put hb
    | 0, h2 | 1, h2 | 2, h2 | 3, h2 | 4, h2 | 8, h2 | 9, h2 | 11, h2 | 12, h2 | 13, h2 => exact h2
    | n + 14, _ => trivial
  intro vals w10 k_w10 hv hS
  have h0 : vals 0 = _ := hv 0 (by decide)
  have h1 : vals 1 = _ := hv 1 (by decide)
  have h2 : vals 2 = _ := hv 2 (by decide)
  have h3 : vals 3 = _ := hv 3 (by decide)
  have h4 : vals 4 = _ := hv 4 (by decide)
  have h5 : IsDone w9.heap.size r10 w10 (vals 5) := hv 5 (by decide)
  obtain ⟨ga0_w10, ma0_w10, ca0_w10, h5, _⟩ := h5
  have h6 : IsDone w9.heap.size r10 w10 (vals 6) := hv 6 (by decide)
  obtain ⟨ga1_w10, ma1_w10, ca1_w10, h6, _⟩ := h6
  have h7 : SomeNet w9.heap.size r10.1 w10 (vals 7) := hv 7 (by decide)
  obtain ⟨g_T10, m_T10, c_T10, h7, T10⟩ := h7
  have h8 : vals 8 = _ := hv 8 (by decide)
  have h9 : vals 9 = _ := hv 9 (by decide)
  have h12 : vals 12 = _ := hv 12 (by decide)
  have h13 : vals 13 = _ := hv 13 (by decide)
  obtain ⟨b_B10, u_B10, h10, hu_B10, lb_B10, hb_B10⟩ := hS
  rw [h7] at hu_B10
  obtain rfl : u_B10 = .slice (some ⟨g_T10, 0, none⟩) m_T10 c_T10 := by simpa using hu_B10.symm
  clear hv hu_B10
  simp only [h0, h1, h2, h3, h4, h5, h6, h7, h8, h9, h10, h12, h13]
  clear h0 h1 h2 h3 h4 h5 h6 h7 h8 h9 h10 h12 h13
  have l_T10 := T10.len
  have z_k_w10 := k_w10.le
  try simp only [World.size_alloc] at z_k_w10
  replace G := G.trans k_w10
  replace N := N.since k_w10
  replace B8 := B8.since k_w10
  replace B9 := B9.since k_w10
  replace Tn := Tn.since k_w10
  replace T8 := T8.since k_w10
  replace T9 := T9.since k_w10
  have B10 := Rec1.of_heap hb_B10
  obtain rfl := e10.out
  clear hr10
  have hgP := fun wx => implGetDg P hP20 true (by simp [hdg]) wx
  have hgY := fun wx => implGetDg Y hY20 false (by simp [hYn]) wx
  obtain ⟨p1, p2, p3, p4, p5, p6, p7, p8, p9, pa, pb, pc, ep⟩ := getDgVal_form true P
  obtain ⟨y1, y2, y3, y4, y5, y6, y7, y8, y9, ya, yb, yc, ey⟩ := getDgVal_form false Y
  rw [ep] at hgP
  rw [ey] at hgY
  have hdiff := texts_differ hYP
  clear ep ey N Tn B8 B9 B10 T8 T9 T10 cN cB8 hb_B8 hb_B9 hb_B10 hat3 hat4 hat5
  go_wp2_with (first | (go_at_call 11; refine (hgP _).mono ?_; clear hgP; rintro _ v1 ⟨rfl, k11⟩; replace G := G.trans k11) | (go_at_call 11; refine (hgY _).mono ?_; rintro _ v2 ⟨rfl, k12⟩; replace G := Since.trans (((G.alloc _).alloc _).alloc _) k12))
  go_ret
  exact ⟨rfl, ((G.alloc _).alloc _).alloc _⟩
end Go.Proofs.Ytigjppamjfnmcaa
