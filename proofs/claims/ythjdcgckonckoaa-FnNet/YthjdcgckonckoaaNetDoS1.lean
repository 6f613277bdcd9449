/-
  Contract of spec's NetDo: one that is doubled.
-/
import Derived.Test.YthjdcgckonckoaaNetDoS
namespace Go.Proofs.Ythjdcgckonckoaa
open Go.ChangeShapes Go.WideShapes Go.ChangeAt Go.RowKit
set_option linter.unusedVariables false

set_option maxHeartbeats 4000000 in
set_option maxRecDepth 10000 in
theorem specNetDo1 (B g n cap : Nat) (ss : List ByteArray) (kind at_ half turn : Int) (hn : n ≤ 1048576) (hk : Hid (kind = 1)) (w : World) (T : Texts w B g n cap ss) :
    Calls Try.prog 21 #[.agg #[.slice (some ⟨g, 0, none⟩) n cap], .agg #[.int .i64 kind, .int .i64 at_, .int .i64 half, .int .i64 turn]] w fun e w' => ∃ g' m c, e = .returned (.tuple #[.agg #[.slice (some ⟨g', 0, none⟩) m c], .string (netDo ss kind at_ half turn).2.1, .bool (netDo ss kind at_ half turn).2.2]) ∧ Texts w' w.heap.size g' m c (netDo ss kind at_ half turn).1 ∧ Since w w' := by
  have G : Since w (((w.alloc (.cells #[.slice (some ⟨g, 0, none⟩) n cap] 26)).alloc (.cells #[.int .i64 kind, .int .i64 at_, .int .i64 half, .int .i64 turn] 34)).alloc (.cells #[.slice none 0 0] 26)) := (((Since.refl _).alloc _).alloc _).alloc _
  have N := ((Rec1.new w (.slice (some ⟨g, 0, none⟩) n cap) 26).since ((Since.refl _).alloc (.cells #[.int .i64 kind, .int .i64 at_, .int .i64 half, .int .i64 turn] 34))).since ((Since.refl _).alloc (.cells #[.slice none 0 0] 26))
  have O := (Blk.new (w.alloc (.cells #[.slice (some ⟨g, 0, none⟩) n cap] 26)) #[.int .i64 kind, .int .i64 at_, .int .i64 half, .int .i64 turn] 34).since ((Since.refl _).alloc (.cells #[.slice none 0 0] 26))
  have A := Rec1.new ((w.alloc (.cells #[.slice (some ⟨g, 0, none⟩) n cap] 26)).alloc (.cells #[.int .i64 kind, .int .i64 at_, .int .i64 half, .int .i64 turn] 34)) (.slice none 0 0) 26
  simp only [World.size_alloc] at A O
  have hl := T.len
  have hgw := T.lt
  obtain ⟨r, hr⟩ : ∃ r, Hid (r = netDo ss kind at_ half turn) := ⟨_, rfl⟩
  rw [← hr.out]
  go_enter Try.func21, Try.ntmps21
  go_wp2_with (fail)
  refine (specCopy _ n cap ss hn (by simp) _ (T.reads.since G)).mono ?_
  rintro _ w1 ⟨go, co, rfl, To, g1⟩
  replace G := G.trans g1
  replace N := N.since g1
  replace A := A.since g1
  replace O := O.since g1
  have hlow := To.low
  simp only [World.size_alloc] at hlow
  have hhi := To.lt
  have X := Rec1.new w1 (.slice (some ⟨go, 0, none⟩) n co) 26
  have k2 := (Since.refl w1).alloc (.cells #[.slice (some ⟨go, 0, none⟩) n co] 26)
  replace G := G.trans k2
  replace N := N.since k2
  replace A := A.since k2
  replace O := O.since k2
  replace To := (To.since k2).raise (B' := w.heap.size) (by omega)
  have cN := N.c0
  go_wp2_with (fail)
  refine (specNetOk _ n cap ss _ (T.reads.since G)).mono ?_
  rintro _ w3 ⟨rfl, k3⟩
  replace G := G.trans k3
  replace N := N.since k3
  replace A := A.since k3
  replace O := O.since k3
  replace X := X.since k3
  replace To := To.since k3
  have T3 := T.since G
  have z3 := G.le
  have cN := N.c0
  have cA := A.c0
  have fA := A.fz 0
  have cX := X.c0
  have o0 : w3.cell? ⟨w.heap.size + 1, 0, none⟩ = some (.int .i64 kind) := O.cell 0
  have o1 : w3.cell? ⟨w.heap.size + 1, 1, none⟩ = some (.int .i64 at_) := O.cell 1
  have hxb := X.lt
  clear g1 k2 k3 T
  generalize hbX : w1.heap.size = bX at X cX hxb hhi ⊢
  have hgo : go ≠ w.heap.size + 1 + 1 := by omega
  cases hb : netOk ss
  · obtain rfl : r = (ss, ByteArray.empty, false) := by
      rw [hr.out]
      unfold netDo
      rw [hb, if_neg (by simp)]
    go_wp2
    refine bodyPost_ret (v := .tuple #[.agg #[.slice (some ⟨go, 0, none⟩) n co], .string ByteArray.empty, .bool false]) ?_ rfl ⟨go, n, co, rfl, To.other hgo 0 _, since_put1 G (by omega) 0 _⟩
    simp [results, go_sem, cA]
    rfl
  by_cases h0 : n = 0
  · subst h0
    obtain rfl : r = (ss, ByteArray.empty, false) := by
      rw [hr.out]
      unfold netDo
      rw [if_neg (by omega)]
    go_wp2
    refine bodyPost_ret (v := .tuple #[.agg #[.slice (some ⟨go, 0, none⟩) 0 co], .string ByteArray.empty, .bool false]) ?_ rfl ⟨go, 0, co, rfl, To.other hgo 0 _, since_put1 G (by omega) 0 _⟩
    simp [results, go_sem, cA]
    rfl
  have hn0 : ((n : Int) == 0) = false := by simp; omega
  obtain ⟨h200, hsm⟩ := (netOk_iff ss).1 hb
  rw [hl] at h200 hsm
  have hp := placeOf_rem at_ n (by omega)
  have hpl := placeOf_lt at_ n (by omega)
  have hr' : r = befallen ss (placeOf at_ n) kind half turn := by
    rw [hr.out]
    unfold netDo
    rw [hl, if_pos ⟨hb, by omega⟩]
  replace hr' : Hid _ := hr'
  clear hr
  generalize placeOf at_ n = i at hp hpl hr'
  have hci := T3.cell i hpl
  have hi' : (i : Int) < (n : Int) := by omega
  have hs2 := hsm i hpl
  clear hsm
  go_upto_if 30 with (fail)
  go_cut [9] (fun s wx => s = .int .i64 (i : Int) ∧ wx = w3)
  case first =>
    rcases hp with ⟨hp1, hp2⟩ | ⟨hp1, hp2⟩
    · have hw : wrap64 (at_.tmod (n : Int) + (n : Int)) = (i : Int) := by rw [IntWalk.wrap64_in _ ⟨by omega, by omega⟩]; exact hp2
      go_wp2
      go_meet
      case rel => exact ⟨by rw [← hw], rfl⟩
    · have hneg : ¬ at_.tmod (n : Int) < 0 := by omega
      go_wp2
      go_meet
      case rel => exact ⟨by rw [← hp2], rfl⟩
  case rest =>
    obtain ⟨rfl, rfl⟩ := hcut
    go_upto_region 9 with (fail)
    have hT3 := T3.lt
    have hroom := T3.room
    have hw1 : IntKind.i64.wrap ((i : Int) + 1) = (i : Int) + 1 := by rw [IntWalk.i64_left]; exact IntWalk.wrap64_in _ ⟨by omega, by omega⟩
    refine wp_region_tail (wb := wc) 11 (fun j x v => match j with
        | 0 => ∃ b, v = .slice (some ⟨b, 0, none⟩) 0 0 ∧ Texts x wc.heap.size b 0 0 []
        | 1 => v = .pointer (some ⟨w.heap.size, 0, none⟩)
        | 2 => v = .slice (some ⟨g, 0, none⟩) n cap
        | 3 => v = .int .i64 (i : Int)
        | 4 => v = .slice (some ⟨g, 0, none⟩) i cap
        | 5 => ∃ b c, v = .slice (some ⟨b, 0, none⟩) i c ∧ Texts x wc.heap.size b i c (ss.take i)
        | 6 => v = .pointer (some ⟨w.heap.size, 0, none⟩)
        | 7 => v = .slice (some ⟨g, 0, none⟩) n cap
        | 8 => v = .int .i64 (i : Int)
        | 9 => v = .int .i64 ((i : Int) + 1)
        | 10 => v = .slice (if cap = i + 1 then some ⟨g, 0, none⟩ else some ⟨g, i + 1, none⟩) (n - (i + 1)) (cap - (i + 1))
        | _ => True) (fun v => { tmps := #[Value.agg #[Value.slice (some ⟨g, 0, none⟩) n cap], Value.agg #[Value.int IntKind.i64 kind, Value.int IntKind.i64 at_, Value.int IntKind.i64 half, Value.int IntKind.i64 turn], Value.pointer (some ⟨w.heap.size, 0, none⟩), Value.pointer (some ⟨w.heap.size + 1, 0, none⟩), Value.pointer (some ⟨w.heap.size + 1 + 1, 0, none⟩), Value.string ⟨#[]⟩, Value.bool false, Value.pointer (some ⟨bX, 0, none⟩), Value.int IntKind.i64 n, Value.int IntKind.i64 i, Value.string (txt ss i), undef, u12, u13, u14, u15, u16, u17, u18, u19, u20, u21, u22, u23, u24, u25, u26, u27, u28, u29, u30, u31, u32, u33, Value.pointer (some ⟨w.heap.size, 0, none⟩), Value.slice (some ⟨g, 0, none⟩) n cap, Value.int IntKind.i64 i, Value.pointer (some ⟨g, i, none⟩), Value.string (txt ss i), v 0, v 1, v 2, v 3, v 4, v 5, v 6, v 7, v 8, v 9, v 10, u50, u51, undef, undef, u54, u55, u56, undef, u58, u59, u60, u61, undef, u63, u64, u65, u66, u67, u68, u69, u70, u71, u72, u73, u74, u75, u76, u77, u78, u79, undef, u81, u82, u83, u84, u85, u86, undef, u88, u89, u90, u91, u92], defers := [] }) (by kernel_rfl) (by kernel_rfl) (by kernel_rfl) (Since.refl _) ?_ (fun vals => by kernel_rfl) ?_ ?_
    case refine_1 =>
      intro j x x' v h1 h2
      match j, h2 with
      | 0, h2 => obtain ⟨b, e, T⟩ := h2; exact ⟨b, e, T.since h1⟩
      | 5, h2 => obtain ⟨b, c, e, T⟩ := h2; exact ⟨b, c, e, T.since h1⟩
      | 1, h2 | 2, h2 | 3, h2 | 4, h2 | 6, h2 | 7, h2 | 8, h2 | 9, h2 | 10, h2 => exact h2
      | n + 11, _ => trivial
    case refine_2 =>
      simp only [List.take_succ_cons, List.take_zero]
      repeat (first | exact eachDoes_nil | refine eachDoes_cons ?_ ?_)
      all_goals intro vals x hx hv
      all_goals simp [Region.binds] at hv
      · simp [does, doesUpon, go_sem, hv]
        rw [if_pos ⟨by omega, by omega⟩]
        exact ⟨Since.refl _, rfl⟩
      · simp [does, doesUpon, go_sem, hv, hw1, Since.refl]
      · simp [does, doesUpon, go_sem, Since.refl]
      · simp [does, doesUpon, go_sem, hv, (N.since hx).c0, Since.refl]
      · simp [does, doesUpon, go_sem, Since.refl]
      · obtain ⟨⟨b, h0, T0⟩, h4⟩ := hv
        obtain ⟨g', c', x', hrun, T', s'⟩ := append_empty 24 wc.heap.size b x T0 ⟨g, 0, none⟩ i cap (ss.take i) ((T3.since hx).head i (by omega)) (by omega) hx.le
        simp [does, doesUpon, execOp, resolve, invoke, builtin, Act.eval, h0, h4, hrun, Result.andThen]
        exact ⟨s', g', c', ⟨rfl, rfl⟩, T'⟩
      · simp [does, doesUpon, go_sem, hv]
        rw [if_pos (by omega)]
        exact ⟨Since.refl _, rfl⟩
      · simp [does, doesUpon, go_sem, Since.refl]
      · simp [does, doesUpon, go_sem, hv, (N.since hx).c0, Since.refl]
      · simp [does, doesUpon, go_sem, Since.refl]
      · simp [does, doesUpon, go_sem]
        exact ⟨(Since.refl _).alloc _, (empty_texts x).raise hx.le⟩
    case refine_3 =>
      intro vals x hx hv
      have h0 : ∃ b, vals 0 = .slice (some ⟨b, 0, none⟩) 0 0 ∧ Texts x wc.heap.size b 0 0 [] := hv 0 (by decide)
      have h1 : vals 1 = _ := hv 1 (by decide)
      have h2 : vals 2 = _ := hv 2 (by decide)
      have h3 : vals 3 = _ := hv 3 (by decide)
      have h4 : vals 4 = _ := hv 4 (by decide)
      have h5 : ∃ b c, vals 5 = .slice (some ⟨b, 0, none⟩) i c ∧ Texts x wc.heap.size b i c (ss.take i) := hv 5 (by decide)
      have h6 : vals 6 = _ := hv 6 (by decide)
      have h7 : vals 7 = _ := hv 7 (by decide)
      have h8 : vals 8 = _ := hv 8 (by decide)
      have h9 : vals 9 = _ := hv 9 (by decide)
      have h10 : vals 10 = _ := hv 10 (by decide)
      clear hv
      obtain ⟨b0, h0, _⟩ := h0
      obtain ⟨g5, c5, h5, T5⟩ := h5
      simp only [h0, h1, h2, h3, h4, h5, h6, h7, h8, h9, h10, List.drop_succ_cons, List.drop_zero]
      clear h0 h1 h2 h3 h4 h5 h6 h7 h8 h9 h10
      have Tx := T3.since hx
      generalize hao : (if cap = i + 1 then some (⟨g, 0, none⟩ : Addr) else some ⟨g, i + 1, none⟩) = ao
      have Ra := Tx.tail (i + 1) (by omega) ao hao.symm
      have hnil : ao = none → cap - (i + 1) = 0 := fun h => by
        rw [← hao] at h
        split at h <;> cases h
      clear hao
      go_wp2_with (at_builtin; refine app_texts rfl _ _ rfl rfl T5 rfl Ra hnil (by omega) hx.le ?_)
      intro gr cr w6 Tr t6
      have e6 : i + (n - (i + 1)) = n - 1 := by omega
      rw [e6] at Tr ⊢
      have k6 : Since wc w6 := hx.touch t6 T5.low
      have hAl := A.lt
      have hlr := Tr.low
      have hhr := Tr.lt
      have z6 := k6.le
      replace G := G.trans k6
      replace A := A.since k6
      replace O := O.since k6
      replace X := X.since k6
      replace N := N.since k6
      replace To := To.since k6
      replace T3 := T3.since k6
      have cA6 := A.c0
      have fA6 := A.fz 0
      have cX6 := X.c0
      have cN6 := N.c0
      have p0 : w6.cell? ⟨w.heap.size + 1, 0, none⟩ = some (.int .i64 kind) := O.cell 0
      have p2 : w6.cell? ⟨w.heap.size + 1, 2, none⟩ = some (.int .i64 half) := O.cell 2
      have p3 : w6.cell? ⟨w.heap.size + 1, 3, none⟩ = some (.int .i64 turn) := O.cell 3
      have hw : without ss i = ss.take i ++ ss.drop (i + 1) := rfl
      rw [← hw] at Tr
      clear hw Tx T5 t6 hx cN cA fA cX o0 o1 hci
      have hgr : gr ≠ w.heap.size + 1 + 1 := by omega
      obtain rfl := hk.out
      obtain rfl : r = (netSend ss (txt ss i), ByteArray.empty, false) := by
        rw [netSend_ok ss _ hb hs2]
        exact hr'.out
      go_wp2_with (go_at_call 31; refine (specNetSend _ n cap ss (txt ss i) hn (by simp) _ T3.reads).mono ?_; rintro _ w7 ⟨gs, ms, cs, rfl, Ts, k7⟩; have hls := Ts.low; replace A := A.since k7; have cA7 := A.c0; have fA7 := A.fz 0)
      refine bodyPost_ret (v := .tuple #[.agg #[.slice (some ⟨gs, 0, none⟩) ms cs], .string ByteArray.empty, .bool false]) ?_ rfl ⟨gs, ms, cs, rfl, (Ts.other (by omega) 0 _).raise (by omega), since_put1 (G.trans k7) (by omega) 0 _⟩
      simp [results, go_sem, cA7]
      rfl
end Go.Proofs.Ythjdcgckonckoaa
