/-
  The walk of FnInBuf.
-/
import Derived.Test.YtmgaikpninblgaaM1
import Derived.Test.YtmgaikpninblgaaInPutS
import Derived.Test.YtmgaikpninblgaaInPutI
import Derived.Test.YtmgaikpninblgaaInReadS
import Derived.Test.YtmgaikpninblgaaInReadI
import Derived.Test.YtmgaikpninblgaaInOkI
import Derived.Test.YtmgaikpninblgaaInHeldS
import Derived.Deep.QuietTactic
namespace Go.Proofs.Ytmgaikpninblgaa
open Go.ChangeShapes Go.WideShapes Go.ChangeAt Go.RowKit Go.Deep
set_option linter.unusedVariables false

theorem big7 (a : Option Addr) (len cap : Nat) (w : World) :
    Calls Try.prog 6 #[.slice a len cap] w fun e w' => e = .returned (.bool (decide ((1048576 : Int) < (len : Int)))) ∧ w = w' := by
  go_enter Try.func6, Try.ntmps6
  go_wp2
  go_ret
  exact ⟨by simp, rfl⟩

theorem extract_none (S : ByteArray) : S.extract 0 0 = ⟨#[]⟩ := by
  apply text_ext
  · rw [ByteArray.size_extract]
    show min 0 S.size - 0 = 0
    omega
  · intro i hi
    rw [ByteArray.size_extract] at hi
    omega

theorem begins7 (S p : ByteArray) (hp : S.extract 0 p.size = p) (hm : p.size ≤ S.size) (hS : S.size ≤ 1000) (w : World) :
    Calls Try.prog 15 #[.string S, .string p] w fun e w' => e = .returned (.bool true) ∧ Since w w' := by
  have h1 : (p.size : Int) ≤ (S.size : Int) := by omega
  go_enter Try.func15, Try.ntmps15
  go_wp2
  go_ret
  exact ⟨rfl, Since.refl _⟩

theorem put4_named {b : Nat} {x : World} {c0 c1 c2 c3 : Value} (B : Blk b x #[c0, c1, c2, c3]) (v0 v1 v2 v3 : Value) :
    ∃ y, (((x.setCell ⟨b, 0, none⟩ v0).setCell ⟨b, 1, none⟩ v1).setCell ⟨b, 2, none⟩ v2).setCell ⟨b, 3, none⟩ v3 = y ∧ Touch b x y ∧ Blk b y #[v0, v1, v2, v3] :=
  ⟨_, rfl, put4w_touch x b v0 v1 v2 v3, put4w_blk B v0 v1 v2 v3⟩

theorem since_touch7 {w x y : World} {b : Nat} (h : Since w x) (k : Touch b x y) (hb : w.heap.size ≤ b) : Since w y := Touch.below k h hb h.le

theorem at7 (a : Option Addr) (len cap : Nat) (zs : List Int) (k : Nat) (hk : k ≤ 1000) (w0 : World) (hb : Bytes w0 a len zs) (hm : len ≤ 1048576) : ∃ x : Int, 0 ≤ x ∧ x ≤ 255 ∧ ∀ w, Since w0 w →
    Calls Try.prog 8 #[.slice a len cap, .int .i64 (k : Int)] w fun e w' => e = .returned (.int .i64 x) ∧ w = w' := by
  refine ⟨if k < len then zs.getD k 0 else ((k : Int) * 7 + len) % 256, ?_, ?_, fun w hw => (at_ a len cap zs k hk w0 hb hm w hw).mono fun e w' h => ⟨h.1, h.2.2.2⟩⟩
  · split
    · rename_i h
      rcases hb with h0 | ⟨b, off, _, _, h1⟩
      · omega
      · exact (h1 k h).2.1
    · omega
  · split
    · rename_i h
      rcases hb with h0 | ⟨b, off, _, _, h1⟩
      · omega
      · exact (h1 k h).2.2
    · omega

set_option maxHeartbeats 16000000 in
set_option maxRecDepth 20000 in
theorem walkIn (a0 : Option Addr) (len0 cap0 : Nat) (z0 : List Int) (w : World) (hb : Bytes w a0 len0 z0) :
    Calls Try.prog 3 #[.slice a0 len0 cap0] w fun e w' => e = .returned (.bool true) ∧ Below w.heap.size w w' := by
  have hbig := fun wx => big7 a0 len0 cap0 wx
  by_cases hm : ¬ len0 ≤ 1048576
  · rw [show decide ((1048576 : Int) < (len0 : Int)) = true by simp; omega] at hbig
    clear hb
    go_enter Try.func3, Try.ntmps3
    go_wp2_with (go_at_call 6; refine (hbig _).mono ?_; rintro _ _ ⟨rfl, rfl⟩)
    go_ret
    exact ⟨rfl, Since.refl _⟩
  replace hm := Decidable.not_not.1 hm
  rw [show decide ((1048576 : Int) < (len0 : Int)) = false by simp; omega] at hbig
  go_enter Try.func3, Try.ntmps3
  go_wp2_with (go_at_call 6; refine (hbig _).mono ?_; rintro _ _ ⟨rfl, rfl⟩)
  clear hbig
  refine (drawStream a0 len0 cap0 z0 w hb hm).mono ?_
  rintro _ w1 ⟨S, room, gf, cf, gn, cn, K, fs, ns, rfl, hS1, hS2, hr1, hr2, hK, F, N, hfs, hns, k1⟩
  have hat : Hid (∀ k : Nat, k ≤ 1000 → ∃ x : Int, 0 ≤ x ∧ x ≤ 255 ∧ ∀ wx, Since w wx → Calls Try.prog 8 #[.slice a0 len0 cap0, .int .i64 (k : Int)] wx fun e w' => e = .returned (.int .i64 x) ∧ wx = w') := fun k hk => at7 a0 len0 cap0 z0 k hk w hb hm
  obtain ⟨x3, hx0, hx1, hx3⟩ := hat.out 3 (by omega)
  have G1 := k1
  replace hfs : Hid (InR S.size fs) := hfs
  replace hns : Hid (InR 40 ns) := hns
  clear hb
  go_wp2_with (fail)
  refine (hx3 w1 k1).mono ?_
  rintro _ _ ⟨rfl, rfl⟩
  clear hx3
  obtain ⟨first, hfirst⟩ : ∃ first, first = (4294967000 + x3 * 5) % 4294967296 := ⟨_, rfl⟩
  have hw1 : IntKind.u32.wrap (x3 * 5) = x3 * 5 := by simp [IntKind.wrap, IntKind.bits, IntKind.signed]; omega
  have hw2 : IntKind.u32.wrap (4294967000 + x3 * 5) = first := by simp [IntKind.wrap, IntKind.bits, IntKind.signed]; omega
  have hf : IsWord first := ⟨by omega, by omega⟩
  clear hfirst
  have B0 := (Blk.new w1 #[.int .u32 first, .string ⟨#[]⟩, .slice none 0 0, .int .i64 room] 31).since ((Since.refl _).alloc (.cells #[.int .u32 first, .string ⟨#[]⟩, .slice none 0 0, .int .i64 room] 31))
  have M0 := Blk.new (w1.alloc (.cells #[.int .u32 first, .string ⟨#[]⟩, .slice none 0 0, .int .i64 room] 31)) #[.int .u32 first, .string ⟨#[]⟩, .slice none 0 0, .int .i64 room] 31
  rw [World.size_alloc] at M0
  have G0 := ((Since.refl w1).alloc (.cells #[.int .u32 first, .string ⟨#[]⟩, .slice none 0 0, .int .i64 room] 31)).alloc (.cells #[.int .u32 first, .string ⟨#[]⟩, .slice none 0 0, .int .i64 room] 31)
  go_wp2_with (fail)
  have hstr := str_start S first room hf ⟨by omega, by omega⟩
  have hex := extract_none S
  go_loopw [10, 11] (fun v i wr => ∃ (k rd : Nat) (q : Int) (d : ByteArray) (ps : List (Int × ByteArray)) (a1 a2 : Option Addr) (n c1 c2 : Nat), k ≤ K ∧ i = .int .i64 k ∧ v = .string (S.extract 0 rd) ∧ Str S first room q d ps rd ∧ Blk w1.heap.size wr #[.int .u32 q, .string d, .slice a1 n c1, .int .i64 room] ∧ Blk (w1.heap.size + 1) wr #[.int .u32 q, .string d, .slice a2 n c2, .int .i64 room] ∧ Own shP wr (w1.heap.size + 2) (.slice a1 n c1) n ps ∧ Own shP wr (w1.heap.size + 2) (.slice a2 n c2) n ps ∧ Since w1 wr) (fun _ i _ => K - (intOf i).toNat)
  case atStart => exact ⟨0, 0, first, ⟨#[]⟩, [], none, none, 0, 0, 0, by omega, rfl, by rw [hex], hstr, B0, M0, Own.nil _ _, Own.nil _ _, G0⟩
  case round =>
    clear B0 M0 G0 hstr hex hw1 hw2
    obtain ⟨k, rd, q, d, ps, a1, a2, n, c1, c2, hk, rfl, rfl, hs, B, M, T, U, G⟩ := hrel
    by_cases hlt : k < K
    · have hlt' : (k : Int) < (K : Int) := by omega
      have f0 := (F.since G).num k hlt
      have n0 := (N.since G).num k hlt
      obtain ⟨g0, g1⟩ := hfs.out.at_ k (by rw [F.1]; exact hlt)
      obtain ⟨g2, g3⟩ := hns.out.at_ k (by rw [N.1]; exact hlt)
      generalize iAt fs k = fr' at f0 g0 g1
      generalize iAt ns k = mm' at n0 g2 g3
      obtain ⟨fr, rfl⟩ : ∃ fr : Nat, fr' = fr := ⟨fr'.toNat, by omega⟩
      obtain ⟨mm, rfl⟩ : ∃ mm : Nat, mm' = mm := ⟨mm'.toNat, by omega⟩
      obtain ⟨e1, he1⟩ : ∃ e1 : Nat, (fr : Int) + (mm : Int) = (e1 : Int) := ⟨fr + mm, by simp⟩
      have hsum : IntKind.i64.wrap ((fr : Int) + (mm : Int)) = (e1 : Int) := by rw [he1, IntWalk.i64_left, IntWalk.wrap64_in _ ⟨by omega, by omega⟩]
      have hbe : fr ≤ e1 ∧ e1 ≤ fr + 39 := by omega
      clear he1
      go_wp2_with (fail)
      go_quiet (fail)
      by_cases hc : (S.size : Int) < (e1 : Int)
      · have heS : S.size ≤ S.size := by omega
        have hfe : fr ≤ S.size := by omega
        have he39 : S.size ≤ fr + 39 := by omega
        obtain ⟨wq, hwq⟩ : ∃ wq, wr.drewN nq = wq := ⟨_, rfl⟩
        have SX0 : Since wr wq := by rw [← hwq]; exact since_drews (Since.refl _) _
        go_wp2_with (fail)
        clear hwq
        have hgfl := (F.since G).lt
        have f0x : ∀ x, Since wq x → x.cell? ⟨gf, k, none⟩ = some (.int .i64 (fr : Int)) := fun x hx => (Below.cell (SX0.trans hx) (p := ⟨gf, k, none⟩) hgfl).trans f0
        replace B := B.since SX0
        replace M := M.since SX0
        have lMq := M.lt
        replace T := T.since SX0
        replace U := U.since SX0
        replace G := G.trans SX0
        have SX : Since wq wq := Since.refl _
        have hqw := hs.hq
        have hle := hs.le
        obtain ⟨at', hat'⟩ : ∃ at', at' = (fr : Int) - ((rd + d.size : Nat) : Int) := ⟨_, rfl⟩
        obtain ⟨seq, hsq'⟩ : ∃ seq, seq = (first + (fr : Int)) % 4294967296 := ⟨_, rfl⟩
        have hcv : IntKind.u32.wrap (fr : Int) = (fr : Int) := by simp [IntKind.wrap, IntKind.bits, IntKind.signed]; omega
        have hsq : IntKind.u32.wrap (first + (fr : Int)) = seq := by simp [IntKind.wrap, IntKind.bits, IntKind.signed]; omega
        have hseq : IsWord seq := ⟨by omega, by omega⟩
        have hdist : IsDist q seq at' := ⟨by omega, by omega, by omega⟩
        have hn : ps.length = n := T.1
        have good : Good q d room n ps := by rw [← hn]; exact hs.good (by omega)
        have hput := hs.put (by omega) hf fr S.size hfe heS (by omega) at' hat'
        have hPs : (S.extract fr S.size).size ≤ 1048576 := by rw [ByteArray.size_extract]; omega
        obtain ⟨P, hP⟩ : ∃ P, Hid (S.extract fr S.size = P) := ⟨_, rfl⟩
        rw [hP.out] at hput hPs
        obtain ⟨Q, hQ⟩ : ∃ Q, Hid (pQ q d room ps at' P = Q) := ⟨_, rfl⟩
        obtain ⟨D, hD⟩ : ∃ D, Hid (pD q d room ps at' P = D) := ⟨_, rfl⟩
        obtain ⟨L, hL⟩ : ∃ L, Hid (pL q d room ps at' P = L) := ⟨_, rfl⟩
        obtain ⟨C, hC⟩ : ∃ C, Hid (pM q d room ps at' P = C) := ⟨_, rfl⟩
        rw [hQ.out, hD.out, hL.out] at hput
        have hblkT : ∀ y, a1 = some y → y.block < wq.heap.size := fun y hy => by
          obtain ⟨a', c', h1, _, h3⟩ := T.form
          injection h1 with h1 _ _
          exact (T.lt (h3 y (by rw [← h1]; exact hy)).2).2
        have hnilU : a2 = none → c2 = 0 := fun e => by
          obtain ⟨a', c', h1, h2, _⟩ := U.form
          injection h1 with h1 _ h4
          rw [h4]
          exact (h2 (by rw [← h1]; exact e)).2
        clear hqw hsq' hat' hn hs
        refine wp_region_store (wb := wq) 20 (fun i x v => match i with
            | 0 => v = .agg #[.int .u32 q, .string d, .slice a1 n c1, .int .i64 room]
            | 1 => v = .int .u32 first
            | 2 => v = .slice (some ⟨gf, 0, none⟩) K cf
            | 3 => v = .int .i64 (k : Int)
            | 4 => v = .pointer (some ⟨gf, k, none⟩)
            | 5 => v = .int .i64 (fr : Int)
            | 6 => v = .int .u32 (fr : Int)
            | 7 => v = .int .u32 seq
            | 8 => v = .string S
            | 9 => v = .slice (some ⟨gf, 0, none⟩) K cf
            | 10 => v = .int .i64 (k : Int)
            | 11 => v = .pointer (some ⟨gf, k, none⟩)
            | 12 => v = .int .i64 (fr : Int)
            | 13 => v = .int .i64 (S.size : Int)
            | 14 => v = .string P
            | 15 => IsAnsB wq.heap.size Q D room L (.int .i64 C) x v
            | 16 => IsAnsB wq.heap.size Q D room L (.int .i64 C) x v
            | 17 => IsBuf wq.heap.size Q D room L x v
            | 18 => v = .int .i64 C
            | 19 => IsBoxB wq.heap.size x v
            | 20 => True
            | 21 => v = .int .i64 C
            | _ => True) (fun vals x => StoredB wq.heap.size 19 17 vals x) (fun v => { tmps := #[Value.slice a0 len0 cap0, undef, u2, Value.string S, Value.int IntKind.i64 room, Value.slice (some ⟨gf, 0, none⟩) K cf, Value.slice (some ⟨gn, 0, none⟩) K cn, Value.int IntKind.u32 first, Value.pointer (some ⟨w1.heap.size, 0, none⟩), Value.pointer (some ⟨w1.heap.size + 1, 0, none⟩), Value.string (S.extract 0 rd), Value.int IntKind.i64 (k : Int), Value.int IntKind.i64 (S.size : Int), v 19, v 21, u15, u16, u17, u18, u19, u20, Value.slice a0 len0 cap0, Value.bool false, Value.tuple #[Value.string S, Value.int IntKind.i64 room, Value.slice (some ⟨gf, 0, none⟩) K cf, Value.slice (some ⟨gn, 0, none⟩) K cn], Value.slice a0 len0 cap0, Value.tuple #[Value.string S, Value.int IntKind.i64 room, Value.slice (some ⟨gf, 0, none⟩) K cf, Value.slice (some ⟨gn, 0, none⟩) K cn], Value.string S, Value.int IntKind.i64 room, Value.slice (some ⟨gf, 0, none⟩) K cf, Value.slice (some ⟨gn, 0, none⟩) K cn, Value.slice a0 len0 cap0, Value.int IntKind.i64 x3, Value.int IntKind.i64 (x3 * 5), Value.int IntKind.u32 (x3 * 5), Value.int IntKind.u32 first, Value.int IntKind.u32 first, Value.int IntKind.i64 room, Value.agg #[Value.int IntKind.u32 first, Value.string ⟨#[]⟩, Value.slice none 0 0, Value.int IntKind.i64 room], Value.agg #[Value.int IntKind.u32 first, Value.string ⟨#[]⟩, Value.slice none 0 0, Value.int IntKind.i64 room], Value.int IntKind.i64 (k : Int), Value.slice (some ⟨gf, 0, none⟩) K cf, Value.int IntKind.i64 (K : Int), Value.bool true, u43, u44, Value.slice (some ⟨gf, 0, none⟩) K cf, Value.int IntKind.i64 (k : Int), Value.pointer (some ⟨gf, k, none⟩), Value.int IntKind.i64 (fr : Int), Value.slice (some ⟨gn, 0, none⟩) K cn, Value.int IntKind.i64 (k : Int), Value.pointer (some ⟨gn, k, none⟩), Value.int IntKind.i64 (mm : Int), Value.int IntKind.i64 (e1 : Int), Value.int IntKind.i64 (e1 : Int), Value.string S, Value.int IntKind.i64 (S.size : Int), Value.bool true, Value.string S, Value.int IntKind.i64 (S.size : Int), v 16, v 0, v 1, v 2, v 3, v 4, v 5, v 6, v 7, v 8, v 9, v 10, v 11, v 12, v 13, v 14, v 15, v 17, v 18, u79, u80, u81, u82, u83, u84, u85, u86, u87, u88, u89, u90, u91, u92, u93, u94, u95, u96, u97, u98, u99, u100, u101, u102, u103, u104, u105, u106, u107, u108, u109, u110, u111, u112, u113, u114, u115, u116, u117, u118, u119, u120, u121, u122, u123, u124, u125, u126, u127, u128, u129, u130, u131, u132, u133, u134, u135, u136, u137, u138, u139, u140, u141, u142, u143, u144, u145, u146, u147, u148, u149, u150, u151, u152, u153, u154, u155, u156, u157, u158, u159, u160, u161, u162, u163, u164, u165, u166, u167, u168, u169, u170, u171, u172, u173, u174, u175, u176, u177], defers := [] }) (by kernel_rfl) (by decide) (by kernel_rfl) (Since.refl _) (fun vals => by kernel_rfl) ?_ ?_ ?_ ?_ ?_ ?_ ?_
        case refine_1 =>
          intro i x x' v h1 h2
          match i, h2 with
          | 15, h2 => exact h2.since h1
          | 16, h2 => exact h2.since h1
          | 17, h2 => exact h2.since h1
          | 19, h2 => exact h2.since h1
          | 0, h2 | 1, h2 | 2, h2 | 3, h2 | 4, h2 | 5, h2 | 6, h2 | 7, h2 | 8, h2 | 9, h2 | 10, h2 | 11, h2 | 12, h2 | 13, h2 | 14, h2 | 18, h2 | 20, h2 | 21, h2 => exact h2
          | n + 22, _ => trivial
        case refine_2 => exact fun _ _ => trivial
        case refine_3 => exact fun _ _ _ h1 h2 => h2.since h1
        case refine_4 => exact fun _ _ _ h h2 => h2.congr (h _ rfl { on := 19, ground := .data } (by simp) rfl) (h _ rfl { on := 17, ground := .data } (by simp) rfl)
        case refine_5 =>
          repeat (first | exact eachBut_nil | refine eachBut_skip ?_ | refine eachBut_cons ?_ ?_)
          all_goals intro vals x hx hv
          all_goals simp [Region.binds] at hv
          · have hb := by first | exact hv | exact hv.1 | exact hv.2.1
            simp [does, doesUpon, go_sem, hb, Since.refl]
          · simp [does, doesUpon, go_sem]
            exact ⟨(Since.refl _).alloc _, IsBoxB.new hx.le⟩
          · obtain ⟨c, h1, h2⟩ := hv
            simp [does, doesUpon, go_sem, h1, Since.refl]
          · obtain ⟨c, h1, h2⟩ := hv
            simp [does, doesUpon, go_sem, h1, Since.refl]
            exact h2
          · have hv2 := hv
            obtain ⟨c, h1, h2⟩ := hv
            simp [does, doesUpon, go_sem, Since.refl]
            exact hv2
          · obtain ⟨h0, h7, h14⟩ := hv
            simp [does, doesUpon, go_sem, h0, h7, h14]
            refine (implInPut q d room a1 n c1 ps seq P at' good hseq hdist hPs x (fun y hy => Nat.lt_of_lt_of_le (hblkT y hy) hx.le) (T.since hx).reads).mono ?_
            rintro _ x' ⟨g, m, c, rfl, T', h1⟩
            rw [hQ.out, hD.out, hC.out]
            rw [hL.out] at T'
            exact ⟨_, rfl, h1, _, rfl, _, _, _, rfl, Own.low T' hx.le⟩
          · obtain ⟨h8, h12, h13⟩ := hv
            simp [does, doesUpon, go_sem, h8, h12, h13, hfe, Since.refl]
            exact hP.out
          · simp [does, doesUpon, go_sem, Since.refl]
          · have e0 := f0x x (SX.trans hx)
            simp [does, doesUpon, go_sem, hv, e0, Since.refl]
          · obtain ⟨h1, h2⟩ := hv
            simp [does, doesUpon, go_sem, h1, h2, hlt, Since.refl]
          · simp [does, doesUpon, go_sem, Since.refl]
          · simp [does, doesUpon, go_sem, Since.refl]
          · simp [does, doesUpon, go_sem, Since.refl]
          · obtain ⟨h1, h6⟩ := hv
            simp [does, doesUpon, go_sem, h1, h6, hsq, Since.refl]
          · simp [does, doesUpon, go_sem, hv, hcv, Since.refl]
          · have e0 := f0x x (SX.trans hx)
            simp [does, doesUpon, go_sem, hv, e0, Since.refl]
          · obtain ⟨h1, h2⟩ := hv
            simp [does, doesUpon, go_sem, h1, h2, hlt, Since.refl]
          · simp [does, doesUpon, go_sem, Since.refl]
          · simp [does, doesUpon, go_sem, Since.refl]
          · simp [does, doesUpon, go_sem, Since.refl]
          · have e0 := (B.since hx).cell 0
            have e1 := (B.since hx).cell 1
            have e2 := (B.since hx).cell 2
            have e3 := (B.since hx).cell 3
            simp at e0 e1 e2 e3
            simp [does, doesUpon, go_sem, e0, e1, e2, e3, Since.refl]
        case refine_6 =>
          intro o ho vals x hx hv
          obtain rfl := Option.some.inj ho
          simp [Region.binds] at hv
          have hpb : IsBoxB wq.heap.size x (vals 19) := by first | exact hv.1 | exact hv.2.1 | exact hv.2.2.1
          have hqb : IsBuf wq.heap.size Q D room L x (vals 17) := by first | exact hv.2.1 | exact hv.1 | exact hv.2.2.1
          obtain ⟨b, u0, u1, u2, u3, h9, lb, hb⟩ := hpb
          obtain ⟨aa, ma, ca, h6, Ta⟩ := hqb
          have hc0 := hb.blk.cell 0
          have hf0 := hb.blk.fz 0
          have hc1 := hb.blk.cell 1
          have hf1 := hb.blk.fz 1
          have hc2 := hb.blk.cell 2
          have hf2 := hb.blk.fz 2
          have hc3 := hb.blk.cell 3
          have hf3 := hb.blk.fz 3
          simp at hc0 hc1 hc2 hc3
          simp [does, doesUpon, go_sem, h9, h6, hc0, hc1, hc2, hc3, hf0, hf1, hf2, hf3]
          refine ⟨since_put1 (since_put1 (since_put1 (since_put1 hx lb 0 _) lb 1 _) lb 2 _) lb 3 _, ?_, ⟨b, _, _, _, _, h9, h6, lb, hb.put _ _ _ _⟩⟩
          intro j v h2
          match j, h2 with
          | 15, h2 => exact h2.put hb _ _ _ _
          | 16, h2 => exact h2.put hb _ _ _ _
          | 17, h2 => exact h2.put hb _ _ _ _
          | 19, h2 => exact h2.put hb _ _ _ _
          | 0, h2 | 1, h2 | 2, h2 | 3, h2 | 4, h2 | 5, h2 | 6, h2 | 7, h2 | 8, h2 | 9, h2 | 10, h2 | 11, h2 | 12, h2 | 13, h2 | 14, h2 | 18, h2 | 20, h2 | 21, h2 => exact h2
          | n + 22, _ => trivial
        intro vals w5 k_w5 hv hS
        have h0 : vals 0 = _ := hv 0 (by decide)
        have h1 : vals 1 = _ := hv 1 (by decide)
        have h2 : vals 2 = _ := hv 2 (by decide)
        have h3 : vals 3 = _ := hv 3 (by decide)
        have h4 : vals 4 = _ := hv 4 (by decide)
        have h5 : vals 5 = _ := hv 5 (by decide)
        have h6 : vals 6 = _ := hv 6 (by decide)
        have h7 : vals 7 = _ := hv 7 (by decide)
        have h8 : vals 8 = _ := hv 8 (by decide)
        have h9 : vals 9 = _ := hv 9 (by decide)
        have h10 : vals 10 = _ := hv 10 (by decide)
        have h11 : vals 11 = _ := hv 11 (by decide)
        have h12 : vals 12 = _ := hv 12 (by decide)
        have h13 : vals 13 = _ := hv 13 (by decide)
        have h14 : vals 14 = _ := hv 14 (by decide)
        have h18 : vals 18 = _ := hv 18 (by decide)
        have h21 : vals 21 = _ := hv 21 (by decide)
        obtain ⟨tup15, h15, _⟩ : IsAnsB wq.heap.size Q D room L (.int .i64 C) w5 (vals 15) := hv 15 (by decide)
        obtain ⟨tup16, h16, _⟩ : IsAnsB wq.heap.size Q D room L (.int .i64 C) w5 (vals 16) := hv 16 (by decide)
        obtain ⟨pa, pn, pc, h17, Tp⟩ : IsBuf wq.heap.size Q D room L w5 (vals 17) := hv 17 (by decide)
        obtain ⟨bp, y0, y1, y2, y3, h19, huY, lbp, hbp⟩ := hS
        rw [h17] at huY
        obtain ⟨rfl, rfl, rfl, rfl⟩ : y0 = .int .u32 Q ∧ y1 = .string D ∧ y2 = .slice pa pn pc ∧ y3 = .int .i64 room := by simpa [eq_comm] using huY
        clear hv huY
        simp only [h0, h1, h2, h3, h4, h5, h6, h7, h8, h9, h10, h11, h12, h13, h14, h15, h16, h17, h18, h19, h21]
        clear h0 h1 h2 h3 h4 h5 h6 h7 h8 h9 h10 h11 h12 h13 h14 h15 h16 h17 h18 h19 h21
        have Yp := hbp.blk
        clear hbp
        replace B := B.since k_w5
        replace M := M.since k_w5
        replace U := U.since k_w5
        replace G := G.trans k_w5
        replace SX : Since wq w5 := k_w5
        have lYp5 := Yp.lt
        have lM5 := M.lt
        have z5 := k_w5.le
        clear T k_w5 hblkT
        go_wp2_with (fail)
        refine wp_region_store (wb := w5) 20 (fun i x v => match i with
            | 0 => v = .agg #[.int .u32 q, .string d, .slice a2 n c2, .int .i64 room]
            | 1 => v = .int .u32 first
            | 2 => v = .slice (some ⟨gf, 0, none⟩) K cf
            | 3 => v = .int .i64 (k : Int)
            | 4 => v = .pointer (some ⟨gf, k, none⟩)
            | 5 => v = .int .i64 (fr : Int)
            | 6 => v = .int .u32 (fr : Int)
            | 7 => v = .int .u32 seq
            | 8 => v = .string S
            | 9 => v = .slice (some ⟨gf, 0, none⟩) K cf
            | 10 => v = .int .i64 (k : Int)
            | 11 => v = .pointer (some ⟨gf, k, none⟩)
            | 12 => v = .int .i64 (fr : Int)
            | 13 => v = .int .i64 (S.size : Int)
            | 14 => v = .string P
            | 15 => IsAnsB w5.heap.size Q D room L (.int .i64 C) x v
            | 16 => IsAnsB w5.heap.size Q D room L (.int .i64 C) x v
            | 17 => IsBuf w5.heap.size Q D room L x v
            | 18 => v = .int .i64 C
            | 19 => IsBoxB w5.heap.size x v
            | 20 => True
            | 21 => v = .int .i64 C
            | _ => True) (fun vals x => StoredB w5.heap.size 19 17 vals x) (fun v => { tmps := #[Value.slice a0 len0 cap0, undef, u2, Value.string S, Value.int IntKind.i64 room, Value.slice (some ⟨gf, 0, none⟩) K cf, Value.slice (some ⟨gn, 0, none⟩) K cn, Value.int IntKind.u32 first, Value.pointer (some ⟨w1.heap.size, 0, none⟩), Value.pointer (some ⟨w1.heap.size + 1, 0, none⟩), Value.string (S.extract 0 rd), Value.int IntKind.i64 (k : Int), Value.int IntKind.i64 (S.size : Int), Value.pointer (some ⟨bp, 0, none⟩), Value.int IntKind.i64 C, v 19, v 21, u17, u18, u19, u20, Value.slice a0 len0 cap0, Value.bool false, Value.tuple #[Value.string S, Value.int IntKind.i64 room, Value.slice (some ⟨gf, 0, none⟩) K cf, Value.slice (some ⟨gn, 0, none⟩) K cn], Value.slice a0 len0 cap0, Value.tuple #[Value.string S, Value.int IntKind.i64 room, Value.slice (some ⟨gf, 0, none⟩) K cf, Value.slice (some ⟨gn, 0, none⟩) K cn], Value.string S, Value.int IntKind.i64 room, Value.slice (some ⟨gf, 0, none⟩) K cf, Value.slice (some ⟨gn, 0, none⟩) K cn, Value.slice a0 len0 cap0, Value.int IntKind.i64 x3, Value.int IntKind.i64 (x3 * 5), Value.int IntKind.u32 (x3 * 5), Value.int IntKind.u32 first, Value.int IntKind.u32 first, Value.int IntKind.i64 room, Value.agg #[Value.int IntKind.u32 first, Value.string ⟨#[]⟩, Value.slice none 0 0, Value.int IntKind.i64 room], Value.agg #[Value.int IntKind.u32 first, Value.string ⟨#[]⟩, Value.slice none 0 0, Value.int IntKind.i64 room], Value.int IntKind.i64 (k : Int), Value.slice (some ⟨gf, 0, none⟩) K cf, Value.int IntKind.i64 (K : Int), Value.bool true, u43, u44, Value.slice (some ⟨gf, 0, none⟩) K cf, Value.int IntKind.i64 (k : Int), Value.pointer (some ⟨gf, k, none⟩), Value.int IntKind.i64 (fr : Int), Value.slice (some ⟨gn, 0, none⟩) K cn, Value.int IntKind.i64 (k : Int), Value.pointer (some ⟨gn, k, none⟩), Value.int IntKind.i64 (mm : Int), Value.int IntKind.i64 (e1 : Int), Value.int IntKind.i64 (e1 : Int), Value.string S, Value.int IntKind.i64 (S.size : Int), Value.bool true, Value.string S, Value.int IntKind.i64 (S.size : Int), Value.tuple #[tup16, Value.int IntKind.i64 C], Value.agg #[Value.int IntKind.u32 q, Value.string d, Value.slice a1 n c1, Value.int IntKind.i64 room], Value.int IntKind.u32 first, Value.slice (some ⟨gf, 0, none⟩) K cf, Value.int IntKind.i64 (k : Int), Value.pointer (some ⟨gf, k, none⟩), Value.int IntKind.i64 (fr : Int), Value.int IntKind.u32 (fr : Int), Value.int IntKind.u32 seq, Value.string S, Value.slice (some ⟨gf, 0, none⟩) K cf, Value.int IntKind.i64 (k : Int), Value.pointer (some ⟨gf, k, none⟩), Value.int IntKind.i64 (fr : Int), Value.int IntKind.i64 (S.size : Int), Value.string P, Value.tuple #[tup15, Value.int IntKind.i64 C], Value.agg #[Value.int IntKind.u32 Q, Value.string D, Value.slice pa pn pc, Value.int IntKind.i64 room], Value.int IntKind.i64 C, v 16, v 0, v 1, v 2, v 3, v 4, v 5, v 6, v 7, v 8, v 9, v 10, v 11, v 12, v 13, v 14, v 15, v 17, v 18, u98, u99, u100, u101, u102, u103, u104, u105, u106, u107, u108, u109, u110, u111, u112, u113, u114, u115, u116, u117, u118, u119, u120, u121, u122, u123, u124, u125, u126, u127, u128, u129, u130, u131, u132, u133, u134, u135, u136, u137, u138, u139, u140, u141, u142, u143, u144, u145, u146, u147, u148, u149, u150, u151, u152, u153, u154, u155, u156, u157, u158, u159, u160, u161, u162, u163, u164, u165, u166, u167, u168, u169, u170, u171, u172, u173, u174, u175, u176, u177], defers := [] }) (by kernel_rfl) (by decide) (by kernel_rfl) (Since.refl _) (fun vals => by kernel_rfl) ?_ ?_ ?_ ?_ ?_ ?_ ?_
        case refine_1 =>
          intro i x x' v h1 h2
          match i, h2 with
          | 15, h2 => exact h2.since h1
          | 16, h2 => exact h2.since h1
          | 17, h2 => exact h2.since h1
          | 19, h2 => exact h2.since h1
          | 0, h2 | 1, h2 | 2, h2 | 3, h2 | 4, h2 | 5, h2 | 6, h2 | 7, h2 | 8, h2 | 9, h2 | 10, h2 | 11, h2 | 12, h2 | 13, h2 | 14, h2 | 18, h2 | 20, h2 | 21, h2 => exact h2
          | n + 22, _ => trivial
        case refine_2 => exact fun _ _ => trivial
        case refine_3 => exact fun _ _ _ h1 h2 => h2.since h1
        case refine_4 => exact fun _ _ _ h h2 => h2.congr (h _ rfl { on := 19, ground := .data } (by simp) rfl) (h _ rfl { on := 17, ground := .data } (by simp) rfl)
        case refine_5 =>
          repeat (first | exact eachBut_nil | refine eachBut_skip ?_ | refine eachBut_cons ?_ ?_)
          all_goals intro vals x hx hv
          all_goals simp [Region.binds] at hv
          · have hb := by first | exact hv | exact hv.1 | exact hv.2.1
            simp [does, doesUpon, go_sem, hb, Since.refl]
          · simp [does, doesUpon, go_sem]
            exact ⟨(Since.refl _).alloc _, IsBoxB.new hx.le⟩
          · obtain ⟨c, h1, h2⟩ := hv
            simp [does, doesUpon, go_sem, h1, Since.refl]
          · obtain ⟨c, h1, h2⟩ := hv
            simp [does, doesUpon, go_sem, h1, Since.refl]
            exact h2
          · have hv2 := hv
            obtain ⟨c, h1, h2⟩ := hv
            simp [does, doesUpon, go_sem, Since.refl]
            exact hv2
          · obtain ⟨h0, h7, h14⟩ := hv
            simp [does, doesUpon, go_sem, h0, h7, h14]
            refine (specInPut q d room a2 n c2 ps seq P at' good hseq hdist hPs hnilU x (U.since hx).reads).mono ?_
            rintro _ x' ⟨a', m, c, rfl, T', _, _, h1⟩
            rw [hQ.out, hD.out, hC.out]
            rw [hL.out] at T'
            exact ⟨_, rfl, h1, _, rfl, _, _, _, rfl, T'.low hx.le⟩
          · obtain ⟨h8, h12, h13⟩ := hv
            simp [does, doesUpon, go_sem, h8, h12, h13, hfe, Since.refl]
            exact hP.out
          · simp [does, doesUpon, go_sem, Since.refl]
          · have e0 := f0x x (SX.trans hx)
            simp [does, doesUpon, go_sem, hv, e0, Since.refl]
          · obtain ⟨h1, h2⟩ := hv
            simp [does, doesUpon, go_sem, h1, h2, hlt, Since.refl]
          · simp [does, doesUpon, go_sem, Since.refl]
          · simp [does, doesUpon, go_sem, Since.refl]
          · simp [does, doesUpon, go_sem, Since.refl]
          · obtain ⟨h1, h6⟩ := hv
            simp [does, doesUpon, go_sem, h1, h6, hsq, Since.refl]
          · simp [does, doesUpon, go_sem, hv, hcv, Since.refl]
          · have e0 := f0x x (SX.trans hx)
            simp [does, doesUpon, go_sem, hv, e0, Since.refl]
          · obtain ⟨h1, h2⟩ := hv
            simp [does, doesUpon, go_sem, h1, h2, hlt, Since.refl]
          · simp [does, doesUpon, go_sem, Since.refl]
          · simp [does, doesUpon, go_sem, Since.refl]
          · simp [does, doesUpon, go_sem, Since.refl]
          · have e0 := (M.since hx).cell 0
            have e1 := (M.since hx).cell 1
            have e2 := (M.since hx).cell 2
            have e3 := (M.since hx).cell 3
            simp at e0 e1 e2 e3
            simp [does, doesUpon, go_sem, e0, e1, e2, e3, Since.refl]
        case refine_6 =>
          intro o ho vals x hx hv
          obtain rfl := Option.some.inj ho
          simp [Region.binds] at hv
          have hpb : IsBoxB w5.heap.size x (vals 19) := by first | exact hv.1 | exact hv.2.1 | exact hv.2.2.1
          have hqb : IsBuf w5.heap.size Q D room L x (vals 17) := by first | exact hv.2.1 | exact hv.1 | exact hv.2.2.1
          obtain ⟨b, u0, u1, u2, u3, h9, lb, hb⟩ := hpb
          obtain ⟨aa, ma, ca, h6, Ta⟩ := hqb
          have hc0 := hb.blk.cell 0
          have hf0 := hb.blk.fz 0
          have hc1 := hb.blk.cell 1
          have hf1 := hb.blk.fz 1
          have hc2 := hb.blk.cell 2
          have hf2 := hb.blk.fz 2
          have hc3 := hb.blk.cell 3
          have hf3 := hb.blk.fz 3
          simp at hc0 hc1 hc2 hc3
          simp [does, doesUpon, go_sem, h9, h6, hc0, hc1, hc2, hc3, hf0, hf1, hf2, hf3]
          refine ⟨since_put1 (since_put1 (since_put1 (since_put1 hx lb 0 _) lb 1 _) lb 2 _) lb 3 _, ?_, ⟨b, _, _, _, _, h9, h6, lb, hb.put _ _ _ _⟩⟩
          intro j v h2
          match j, h2 with
          | 15, h2 => exact h2.put hb _ _ _ _
          | 16, h2 => exact h2.put hb _ _ _ _
          | 17, h2 => exact h2.put hb _ _ _ _
          | 19, h2 => exact h2.put hb _ _ _ _
          | 0, h2 | 1, h2 | 2, h2 | 3, h2 | 4, h2 | 5, h2 | 6, h2 | 7, h2 | 8, h2 | 9, h2 | 10, h2 | 11, h2 | 12, h2 | 13, h2 | 14, h2 | 18, h2 | 20, h2 | 21, h2 => exact h2
          | n + 22, _ => trivial
        intro vals w6 k_w6 hv hS
        have h0 : vals 0 = _ := hv 0 (by decide)
        have h1 : vals 1 = _ := hv 1 (by decide)
        have h2 : vals 2 = _ := hv 2 (by decide)
        have h3 : vals 3 = _ := hv 3 (by decide)
        have h4 : vals 4 = _ := hv 4 (by decide)
        have h5 : vals 5 = _ := hv 5 (by decide)
        have h6 : vals 6 = _ := hv 6 (by decide)
        have h7 : vals 7 = _ := hv 7 (by decide)
        have h8 : vals 8 = _ := hv 8 (by decide)
        have h9 : vals 9 = _ := hv 9 (by decide)
        have h10 : vals 10 = _ := hv 10 (by decide)
        have h11 : vals 11 = _ := hv 11 (by decide)
        have h12 : vals 12 = _ := hv 12 (by decide)
        have h13 : vals 13 = _ := hv 13 (by decide)
        have h14 : vals 14 = _ := hv 14 (by decide)
        have h18 : vals 18 = _ := hv 18 (by decide)
        have h21 : vals 21 = _ := hv 21 (by decide)
        obtain ⟨tuz15, h15, _⟩ : IsAnsB w5.heap.size Q D room L (.int .i64 C) w6 (vals 15) := hv 15 (by decide)
        obtain ⟨tuz16, h16, _⟩ : IsAnsB w5.heap.size Q D room L (.int .i64 C) w6 (vals 16) := hv 16 (by decide)
        obtain ⟨za, zn, zc, h17, Tz⟩ : IsBuf w5.heap.size Q D room L w6 (vals 17) := hv 17 (by decide)
        obtain ⟨bz, y0, y1, y2, y3, h19, huY, lbz, hbz⟩ := hS
        rw [h17] at huY
        obtain ⟨rfl, rfl, rfl, rfl⟩ : y0 = .int .u32 Q ∧ y1 = .string D ∧ y2 = .slice za zn zc ∧ y3 = .int .i64 room := by simpa [eq_comm] using huY
        clear hv huY
        simp only [h0, h1, h2, h3, h4, h5, h6, h7, h8, h9, h10, h11, h12, h13, h14, h15, h16, h17, h18, h19, h21]
        clear h0 h1 h2 h3 h4 h5 h6 h7 h8 h9 h10 h11 h12 h13 h14 h15 h16 h17 h18 h19 h21
        have Yz := hbz.blk
        clear hbz
        obtain rfl : zn = pn := Tz.1.symm.trans Tp.1
        replace B := B.since k_w6
        replace M := M.since k_w6
        replace Tp := Tp.since k_w6
        replace Yp := Yp.since k_w6
        replace G := G.trans k_w6
        have z6 := k_w6.le
        have lYp := Yp.lt
        have lYz := Yz.lt
        clear U k_w6 hnilU SX f0x hcv hsq hseq hdist good hPs hQ hD hL hC hP
        have hnl : L.length = zn := Tp.1
        have goodP : Good Q D room zn L := by rw [← hnl]; exact hput.good (by omega)
        obtain ⟨rN, hrN⟩ : ∃ rN, Hid (inRoomN Q D room L = rN) := ⟨_, rfl⟩
        have hsm : rN + (D.size : Int) = room := by rw [← hrN.out]; exact hput.room_
        have hsw : IntKind.i64.wrap (rN + (D.size : Int)) = room := by rw [hsm, IntWalk.i64_left, IntWalk.wrap64_in _ ⟨by omega, by omega⟩]
        clear hsm hnl
        have p0z : ∀ z : Later w6, z.val.cell? ⟨bp, 0, none⟩ = some (.int .u32 Q) := fun z => by simpa using (Yp.since z.ok).cell 0
        have p1z : ∀ z : Later w6, z.val.cell? ⟨bp, 1, none⟩ = some (.string D) := fun z => by simpa using (Yp.since z.ok).cell 1
        have p2z : ∀ z : Later w6, z.val.cell? ⟨bp, 2, none⟩ = some (.slice pa zn pc) := fun z => by simpa using (Yp.since z.ok).cell 2
        have p3z : ∀ z : Later w6, z.val.cell? ⟨bp, 3, none⟩ = some (.int .i64 room) := fun z => by simpa using (Yp.since z.ok).cell 3
        have q0z : ∀ z : Later w6, z.val.cell? ⟨bz, 0, none⟩ = some (.int .u32 Q) := fun z => by simpa using (Yz.since z.ok).cell 0
        have hc1 : ∀ z : Later w6, Calls Try.prog 11 #[.agg #[.int .u32 Q, .string D, .slice pa zn pc, .int .i64 room]] z.val fun e w'' => e = .returned (.bool true) ∧ ∃ y : Later w6, w'' = y.val := fun z => calm_call (by have := implInOk Q D room pa zn pc L goodP z.val (Tp.since z.ok).reads; rw [hput.ok] at this; exact this)
        have hc2 : ∀ z : Later w6, Calls Try.prog 12 #[.agg #[.int .u32 Q, .string D, .slice pa zn pc, .int .i64 room]] z.val fun e w'' => e = .returned (.int .i64 rN) ∧ ∃ y : Later w6, w'' = y.val := fun z => calm_call (by have := implInRoom Q D room pa zn pc L goodP z.val (Tp.since z.ok).reads; rw [hrN.out] at this; exact this)
        have hne : Nonempty (Later w6) := ⟨⟨w6, Since.refl _⟩⟩
        go_wp2_with (fail)
        refine wp_region_calm (wb := w6) (by kernel_rfl) (by kernel_rfl) (Since.refl _) ?_
        repeat (go_big_quiet_step (first | (go_at_call 11; exact hc1 _) | (go_at_call 12; exact hc2 _)))
        refine wpQuiet_nil ?_
        rintro _ ⟨y, rfl⟩
        replace B := B.since y.ok
        replace M := M.since y.ok
        replace Tp := Tp.since y.ok
        replace Tz := Tz.since y.ok
        replace Yp := Yp.since y.ok
        replace Yz := Yz.since y.ok
        replace G := G.trans y.ok
        have z7 := y.ok.le
        clear p0z p1z p2z p3z q0z hc1 hc2 hne hsw hrN goodP
        generalize y.val = w7 at *
        clear y
        obtain ⟨Rt, hRt⟩ : ∃ Rt, Hid (S.extract 0 rd = Rt) := ⟨_, rfl⟩
        rw [hRt.out]
        by_cases h3 : (k : Int) % 3 = 0
        · have h3b : ((k : Int) % 3 == 0) = true := by simpa using h3
          obtain ⟨xk, xk0, xk1, hxk⟩ := hat.out k (by omega)
          obtain ⟨nn, hnn'⟩ : ∃ nn, nn = xk % 50 := ⟨_, rfl⟩
          have hmod : Int.tmod xk 50 = nn := by rw [hnn']; exact Int.tmod_eq_emod_of_nonneg xk0
          have hmod2 : xk % 50 = nn := hnn'.symm
          have hn0' : 0 ≤ nn ∧ nn < 50 := by omega
          have hnnI : IsInt nn := ⟨by omega, by omega⟩
          obtain ⟨mr, hread, hcat⟩ := hput.read nn (by omega) (by omega)
          obtain ⟨E, hE⟩ : ∃ E, Hid (readD Q D room L nn = E) := ⟨_, rfl⟩
          obtain ⟨R, hR⟩ : ∃ R, Hid (readT Q D room L nn = R) := ⟨_, rfl⟩
          rw [hE.out] at hread
          rw [hR.out, hRt.out] at hcat
          have hgoodP : Good Q D room zn L := by rw [← show L.length = zn from Tp.1]; exact hput.good (by omega)
          have hnilTp : pa = none → pc = 0 := fun e => by
            obtain ⟨a', c', h1, h2, _⟩ := Tp.form
            injection h1 with h1 _ h4
            rw [h4]
            exact (h2 (by rw [← h1]; exact e)).2
          have hnilTz : za = none → zc = 0 := fun e => by
            obtain ⟨a', c', h1, h2, _⟩ := Tz.form
            injection h1 with h1 _ h4
            rw [h4]
            exact (h2 (by rw [← h1]; exact e)).2
          have lYp7 := Yp.lt
          have lYz7 := Yz.lt
          have G7 := G1.trans G
          clear hnn' h3
          go_wp2_with (fail)
          refine wp_region_store (wb := w7) 10 (fun i x v => match i with
              | 0 => v = .agg #[.int .u32 Q, .string D, .slice pa zn pc, .int .i64 room]
              | 1 => v = .slice a0 len0 cap0
              | 2 => v = .int .i64 (k : Int)
              | 3 => v = .int .i64 xk
              | 4 => v = .int .i64 nn
              | 5 => IsAnsB w7.heap.size Q E room L (.string R) x v
              | 6 => IsAnsB w7.heap.size Q E room L (.string R) x v
              | 7 => IsBuf w7.heap.size Q E room L x v
              | 8 => v = .string R
              | 9 => IsBoxB w7.heap.size x v
              | 10 => True
              | 11 => v = .string R
              | _ => True) (fun vals x => StoredB w7.heap.size 9 7 vals x) (fun v => { tmps := #[Value.slice a0 len0 cap0, undef, u2, Value.string S, Value.int IntKind.i64 room, Value.slice (some ⟨gf, 0, none⟩) K cf, Value.slice (some ⟨gn, 0, none⟩) K cn, Value.int IntKind.u32 first, Value.pointer (some ⟨w1.heap.size, 0, none⟩), Value.pointer (some ⟨w1.heap.size + 1, 0, none⟩), Value.string Rt, Value.int IntKind.i64 (k : Int), Value.int IntKind.i64 (S.size : Int), Value.pointer (some ⟨bp, 0, none⟩), Value.int IntKind.i64 C, Value.pointer (some ⟨bz, 0, none⟩), Value.int IntKind.i64 C, v 9, v 11, u19, u20, Value.slice a0 len0 cap0, Value.bool false, Value.tuple #[Value.string S, Value.int IntKind.i64 room, Value.slice (some ⟨gf, 0, none⟩) K cf, Value.slice (some ⟨gn, 0, none⟩) K cn], Value.slice a0 len0 cap0, Value.tuple #[Value.string S, Value.int IntKind.i64 room, Value.slice (some ⟨gf, 0, none⟩) K cf, Value.slice (some ⟨gn, 0, none⟩) K cn], Value.string S, Value.int IntKind.i64 room, Value.slice (some ⟨gf, 0, none⟩) K cf, Value.slice (some ⟨gn, 0, none⟩) K cn, Value.slice a0 len0 cap0, Value.int IntKind.i64 x3, Value.int IntKind.i64 (x3 * 5), Value.int IntKind.u32 (x3 * 5), Value.int IntKind.u32 first, Value.int IntKind.u32 first, Value.int IntKind.i64 room, Value.agg #[Value.int IntKind.u32 first, Value.string ⟨#[]⟩, Value.slice none 0 0, Value.int IntKind.i64 room], Value.agg #[Value.int IntKind.u32 first, Value.string ⟨#[]⟩, Value.slice none 0 0, Value.int IntKind.i64 room], Value.int IntKind.i64 (k : Int), Value.slice (some ⟨gf, 0, none⟩) K cf, Value.int IntKind.i64 (K : Int), Value.bool true, u43, u44, Value.slice (some ⟨gf, 0, none⟩) K cf, Value.int IntKind.i64 (k : Int), Value.pointer (some ⟨gf, k, none⟩), Value.int IntKind.i64 (fr : Int), Value.slice (some ⟨gn, 0, none⟩) K cn, Value.int IntKind.i64 (k : Int), Value.pointer (some ⟨gn, k, none⟩), Value.int IntKind.i64 (mm : Int), Value.int IntKind.i64 (e1 : Int), Value.int IntKind.i64 (e1 : Int), Value.string S, Value.int IntKind.i64 (S.size : Int), Value.bool true, Value.string S, Value.int IntKind.i64 (S.size : Int), Value.tuple #[tup16, Value.int IntKind.i64 C], Value.agg #[Value.int IntKind.u32 q, Value.string d, Value.slice a1 n c1, Value.int IntKind.i64 room], Value.int IntKind.u32 first, Value.slice (some ⟨gf, 0, none⟩) K cf, Value.int IntKind.i64 (k : Int), Value.pointer (some ⟨gf, k, none⟩), Value.int IntKind.i64 (fr : Int), Value.int IntKind.u32 (fr : Int), Value.int IntKind.u32 seq, Value.string S, Value.slice (some ⟨gf, 0, none⟩) K cf, Value.int IntKind.i64 (k : Int), Value.pointer (some ⟨gf, k, none⟩), Value.int IntKind.i64 (fr : Int), Value.int IntKind.i64 (S.size : Int), Value.string P, Value.tuple #[tup15, Value.int IntKind.i64 C], Value.agg #[Value.int IntKind.u32 Q, Value.string D, Value.slice pa zn pc, Value.int IntKind.i64 room], Value.int IntKind.i64 C, Value.tuple #[tuz16, Value.int IntKind.i64 C], Value.agg #[Value.int IntKind.u32 q, Value.string d, Value.slice a2 n c2, Value.int IntKind.i64 room], Value.int IntKind.u32 first, Value.slice (some ⟨gf, 0, none⟩) K cf, Value.int IntKind.i64 (k : Int), Value.pointer (some ⟨gf, k, none⟩), Value.int IntKind.i64 (fr : Int), Value.int IntKind.u32 (fr : Int), Value.int IntKind.u32 seq, Value.string S, Value.slice (some ⟨gf, 0, none⟩) K cf, Value.int IntKind.i64 (k : Int), Value.pointer (some ⟨gf, k, none⟩), Value.int IntKind.i64 (fr : Int), Value.int IntKind.i64 (S.size : Int), Value.string P, Value.tuple #[tuz15, Value.int IntKind.i64 C], Value.agg #[Value.int IntKind.u32 Q, Value.string D, Value.slice za zn zc, Value.int IntKind.i64 room], Value.int IntKind.i64 C, Value.int IntKind.i64 C, Value.int IntKind.i64 C, Value.bool false, Value.bool false, Value.pointer (some ⟨bp, 0, none⟩), Value.int IntKind.u32 Q, Value.pointer (some ⟨bz, 0, none⟩), Value.int IntKind.u32 Q, Value.bool false, Value.bool false, Value.bool false, Value.agg #[Value.int IntKind.u32 Q, Value.string D, Value.slice pa zn pc, Value.int IntKind.i64 room], Value.bool true, Value.bool false, Value.bool false, Value.bool false, Value.agg #[Value.int IntKind.u32 Q, Value.string D, Value.slice pa zn pc, Value.int IntKind.i64 room], Value.int IntKind.i64 rN, Value.pointer (some ⟨bp, 1, none⟩), Value.string D, Value.int IntKind.i64 (D.size : Int), Value.int IntKind.i64 room, Value.int IntKind.i64 room, Value.bool false, Value.bool false, Value.int IntKind.i64 (k : Int), Value.int IntKind.i64 ((k : Int) % 3), Value.bool true, v 6, v 0, v 1, v 2, v 3, v 4, v 5, v 7, v 8, u135, u136, u137, u138, u139, u140, u141, u142, u143, u144, u145, u146, u147, u148, u149, u150, u151, u152, u153, u154, u155, u156, u157, u158, u159, u160, u161, u162, u163, u164, u165, u166, u167, u168, u169, u170, u171, u172, u173, u174, u175, u176, u177], defers := [] }) (by kernel_rfl) (by decide) (by kernel_rfl) (Since.refl _) (fun vals => by kernel_rfl) ?_ ?_ ?_ ?_ ?_ ?_ ?_
          case refine_1 =>
            intro i x x' v h1 h2
            match i, h2 with
            | 5, h2 => exact h2.since h1
            | 6, h2 => exact h2.since h1
            | 7, h2 => exact h2.since h1
            | 9, h2 => exact h2.since h1
            | 0, h2 | 1, h2 | 2, h2 | 3, h2 | 4, h2 | 8, h2 | 10, h2 | 11, h2 => exact h2
            | n + 12, _ => trivial
          case refine_2 => exact fun _ _ => trivial
          case refine_3 => exact fun _ _ _ h1 h2 => h2.since h1
          case refine_4 => exact fun _ _ _ h h2 => h2.congr (h _ rfl { on := 9, ground := .data } (by simp) rfl) (h _ rfl { on := 7, ground := .data } (by simp) rfl)
          case refine_5 =>
            repeat (first | exact eachBut_nil | refine eachBut_skip ?_ | refine eachBut_cons ?_ ?_)
            all_goals intro vals x hx hv
            all_goals simp [Region.binds] at hv
            · have hb := by first | exact hv | exact hv.1 | exact hv.2.1
              simp [does, doesUpon, go_sem, hb, Since.refl]
            · simp [does, doesUpon, go_sem]
              exact ⟨(Since.refl _).alloc _, IsBoxB.new hx.le⟩
            · obtain ⟨c, h1, h2⟩ := hv
              simp [does, doesUpon, go_sem, h1, Since.refl]
            · obtain ⟨c, h1, h2⟩ := hv
              simp [does, doesUpon, go_sem, h1, Since.refl]
              exact h2
            · have hv2 := hv
              obtain ⟨c, h1, h2⟩ := hv
              simp [does, doesUpon, go_sem, Since.refl]
              exact hv2
            · obtain ⟨h0, h4⟩ := hv
              simp [does, doesUpon, go_sem, h0, h4]
              refine (implInRead Q D room pa zn pc L nn hgoodP hnilTp hnnI x (Tp.since hx).reads).mono ?_
              rintro _ x' ⟨g, c, rfl, T', h1⟩
              rw [hE.out, hR.out]
              exact ⟨_, rfl, h1, _, rfl, _, _, _, rfl, Own.low T' hx.le⟩
            · simp [does, doesUpon, go_sem, hv, hmod, Since.refl]
            · obtain ⟨h1, h2⟩ := hv
              simp [does, doesUpon, go_sem, h1, h2]
              refine (hxk x (G7.trans hx)).mono ?_
              rintro _ _ ⟨rfl, rfl⟩
              simp [Since.refl]
            · simp [does, doesUpon, go_sem, Since.refl]
            · simp [does, doesUpon, go_sem, Since.refl]
            · have e0 := (Yp.since hx).cell 0
              have e1 := (Yp.since hx).cell 1
              have e2 := (Yp.since hx).cell 2
              have e3 := (Yp.since hx).cell 3
              simp at e0 e1 e2 e3
              simp [does, doesUpon, go_sem, e0, e1, e2, e3, Since.refl]
          case refine_6 =>
            intro o ho vals x hx hv
            obtain rfl := Option.some.inj ho
            simp [Region.binds] at hv
            have hpb : IsBoxB w7.heap.size x (vals 9) := by first | exact hv.1 | exact hv.2.1 | exact hv.2.2.1
            have hqb : IsBuf w7.heap.size Q E room L x (vals 7) := by first | exact hv.2.1 | exact hv.1 | exact hv.2.2.1
            obtain ⟨b, u0, u1, u2, u3, h9, lb, hb⟩ := hpb
            obtain ⟨aa, ma, ca, h6, Ta⟩ := hqb
            have hc0 := hb.blk.cell 0
            have hf0 := hb.blk.fz 0
            have hc1 := hb.blk.cell 1
            have hf1 := hb.blk.fz 1
            have hc2 := hb.blk.cell 2
            have hf2 := hb.blk.fz 2
            have hc3 := hb.blk.cell 3
            have hf3 := hb.blk.fz 3
            simp at hc0 hc1 hc2 hc3
            simp [does, doesUpon, go_sem, h9, h6, hc0, hc1, hc2, hc3, hf0, hf1, hf2, hf3]
            refine ⟨since_put1 (since_put1 (since_put1 (since_put1 hx lb 0 _) lb 1 _) lb 2 _) lb 3 _, ?_, ⟨b, _, _, _, _, h9, h6, lb, hb.put _ _ _ _⟩⟩
            intro j v h2
            match j, h2 with
            | 5, h2 => exact h2.put hb _ _ _ _
            | 6, h2 => exact h2.put hb _ _ _ _
            | 7, h2 => exact h2.put hb _ _ _ _
            | 9, h2 => exact h2.put hb _ _ _ _
            | 0, h2 | 1, h2 | 2, h2 | 3, h2 | 4, h2 | 8, h2 | 10, h2 | 11, h2 => exact h2
            | n + 12, _ => trivial
          intro vals w8 k_w8 hv hS
          have h0 : vals 0 = _ := hv 0 (by decide)
          have h1 : vals 1 = _ := hv 1 (by decide)
          have h2 : vals 2 = _ := hv 2 (by decide)
          have h3 : vals 3 = _ := hv 3 (by decide)
          have h4 : vals 4 = _ := hv 4 (by decide)
          have h8 : vals 8 = _ := hv 8 (by decide)
          have h11 : vals 11 = _ := hv 11 (by decide)
          obtain ⟨tur5, h5, _⟩ : IsAnsB w7.heap.size Q E room L (.string R) w8 (vals 5) := hv 5 (by decide)
          obtain ⟨tur6, h6, _⟩ : IsAnsB w7.heap.size Q E room L (.string R) w8 (vals 6) := hv 6 (by decide)
          obtain ⟨ra, rn, rc, h7, Tr⟩ : IsBuf w7.heap.size Q E room L w8 (vals 7) := hv 7 (by decide)
          obtain ⟨br, y0, y1, y2, y3, h9, huY, lbr, hbr⟩ := hS
          rw [h7] at huY
          obtain ⟨rfl, rfl, rfl, rfl⟩ : y0 = .int .u32 Q ∧ y1 = .string E ∧ y2 = .slice ra rn rc ∧ y3 = .int .i64 room := by simpa [eq_comm] using huY
          clear hv huY
          simp only [h0, h1, h2, h3, h4, h5, h6, h7, h8, h9, h11]
          clear h0 h1 h2 h3 h4 h5 h6 h7 h8 h9 h11
          have Yr := hbr.blk
          clear hbr
          obtain rfl : rn = zn := Tr.1.symm.trans Tp.1
          have lYr8 := Yr.lt
          replace B := B.since k_w8
          replace M := M.since k_w8
          replace Yp := Yp.since k_w8
          replace Yz := Yz.since k_w8
          replace Tz := Tz.since k_w8
          replace G := G.trans k_w8
          have G8 := G7.trans k_w8
          have z8 := k_w8.le
          clear Tp hnilTp k_w8 G7
          go_wp2_with (fail)
          refine wp_region_store (wb := w8) 10 (fun i x v => match i with
              | 0 => v = .agg #[.int .u32 Q, .string D, .slice za rn zc, .int .i64 room]
              | 1 => v = .slice a0 len0 cap0
              | 2 => v = .int .i64 (k : Int)
              | 3 => v = .int .i64 xk
              | 4 => v = .int .i64 nn
              | 5 => IsAnsB w8.heap.size Q E room L (.string R) x v
              | 6 => IsAnsB w8.heap.size Q E room L (.string R) x v
              | 7 => IsBuf w8.heap.size Q E room L x v
              | 8 => v = .string R
              | 9 => IsBoxB w8.heap.size x v
              | 10 => True
              | 11 => v = .string R
              | _ => True) (fun vals x => StoredB w8.heap.size 9 7 vals x) (fun v => { tmps := #[Value.slice a0 len0 cap0, undef, u2, Value.string S, Value.int IntKind.i64 room, Value.slice (some ⟨gf, 0, none⟩) K cf, Value.slice (some ⟨gn, 0, none⟩) K cn, Value.int IntKind.u32 first, Value.pointer (some ⟨w1.heap.size, 0, none⟩), Value.pointer (some ⟨w1.heap.size + 1, 0, none⟩), Value.string Rt, Value.int IntKind.i64 (k : Int), Value.int IntKind.i64 (S.size : Int), Value.pointer (some ⟨bp, 0, none⟩), Value.int IntKind.i64 C, Value.pointer (some ⟨bz, 0, none⟩), Value.int IntKind.i64 C, Value.pointer (some ⟨br, 0, none⟩), Value.string R, v 9, v 11, Value.slice a0 len0 cap0, Value.bool false, Value.tuple #[Value.string S, Value.int IntKind.i64 room, Value.slice (some ⟨gf, 0, none⟩) K cf, Value.slice (some ⟨gn, 0, none⟩) K cn], Value.slice a0 len0 cap0, Value.tuple #[Value.string S, Value.int IntKind.i64 room, Value.slice (some ⟨gf, 0, none⟩) K cf, Value.slice (some ⟨gn, 0, none⟩) K cn], Value.string S, Value.int IntKind.i64 room, Value.slice (some ⟨gf, 0, none⟩) K cf, Value.slice (some ⟨gn, 0, none⟩) K cn, Value.slice a0 len0 cap0, Value.int IntKind.i64 x3, Value.int IntKind.i64 (x3 * 5), Value.int IntKind.u32 (x3 * 5), Value.int IntKind.u32 first, Value.int IntKind.u32 first, Value.int IntKind.i64 room, Value.agg #[Value.int IntKind.u32 first, Value.string ⟨#[]⟩, Value.slice none 0 0, Value.int IntKind.i64 room], Value.agg #[Value.int IntKind.u32 first, Value.string ⟨#[]⟩, Value.slice none 0 0, Value.int IntKind.i64 room], Value.int IntKind.i64 (k : Int), Value.slice (some ⟨gf, 0, none⟩) K cf, Value.int IntKind.i64 (K : Int), Value.bool true, u43, u44, Value.slice (some ⟨gf, 0, none⟩) K cf, Value.int IntKind.i64 (k : Int), Value.pointer (some ⟨gf, k, none⟩), Value.int IntKind.i64 (fr : Int), Value.slice (some ⟨gn, 0, none⟩) K cn, Value.int IntKind.i64 (k : Int), Value.pointer (some ⟨gn, k, none⟩), Value.int IntKind.i64 (mm : Int), Value.int IntKind.i64 (e1 : Int), Value.int IntKind.i64 (e1 : Int), Value.string S, Value.int IntKind.i64 (S.size : Int), Value.bool true, Value.string S, Value.int IntKind.i64 (S.size : Int), Value.tuple #[tup16, Value.int IntKind.i64 C], Value.agg #[Value.int IntKind.u32 q, Value.string d, Value.slice a1 n c1, Value.int IntKind.i64 room], Value.int IntKind.u32 first, Value.slice (some ⟨gf, 0, none⟩) K cf, Value.int IntKind.i64 (k : Int), Value.pointer (some ⟨gf, k, none⟩), Value.int IntKind.i64 (fr : Int), Value.int IntKind.u32 (fr : Int), Value.int IntKind.u32 seq, Value.string S, Value.slice (some ⟨gf, 0, none⟩) K cf, Value.int IntKind.i64 (k : Int), Value.pointer (some ⟨gf, k, none⟩), Value.int IntKind.i64 (fr : Int), Value.int IntKind.i64 (S.size : Int), Value.string P, Value.tuple #[tup15, Value.int IntKind.i64 C], Value.agg #[Value.int IntKind.u32 Q, Value.string D, Value.slice pa rn pc, Value.int IntKind.i64 room], Value.int IntKind.i64 C, Value.tuple #[tuz16, Value.int IntKind.i64 C], Value.agg #[Value.int IntKind.u32 q, Value.string d, Value.slice a2 n c2, Value.int IntKind.i64 room], Value.int IntKind.u32 first, Value.slice (some ⟨gf, 0, none⟩) K cf, Value.int IntKind.i64 (k : Int), Value.pointer (some ⟨gf, k, none⟩), Value.int IntKind.i64 (fr : Int), Value.int IntKind.u32 (fr : Int), Value.int IntKind.u32 seq, Value.string S, Value.slice (some ⟨gf, 0, none⟩) K cf, Value.int IntKind.i64 (k : Int), Value.pointer (some ⟨gf, k, none⟩), Value.int IntKind.i64 (fr : Int), Value.int IntKind.i64 (S.size : Int), Value.string P, Value.tuple #[tuz15, Value.int IntKind.i64 C], Value.agg #[Value.int IntKind.u32 Q, Value.string D, Value.slice za rn zc, Value.int IntKind.i64 room], Value.int IntKind.i64 C, Value.int IntKind.i64 C, Value.int IntKind.i64 C, Value.bool false, Value.bool false, Value.pointer (some ⟨bp, 0, none⟩), Value.int IntKind.u32 Q, Value.pointer (some ⟨bz, 0, none⟩), Value.int IntKind.u32 Q, Value.bool false, Value.bool false, Value.bool false, Value.agg #[Value.int IntKind.u32 Q, Value.string D, Value.slice pa rn pc, Value.int IntKind.i64 room], Value.bool true, Value.bool false, Value.bool false, Value.bool false, Value.agg #[Value.int IntKind.u32 Q, Value.string D, Value.slice pa rn pc, Value.int IntKind.i64 room], Value.int IntKind.i64 rN, Value.pointer (some ⟨bp, 1, none⟩), Value.string D, Value.int IntKind.i64 (D.size : Int), Value.int IntKind.i64 room, Value.int IntKind.i64 room, Value.bool false, Value.bool false, Value.int IntKind.i64 (k : Int), Value.int IntKind.i64 ((k : Int) % 3), Value.bool true, Value.tuple #[tur6, Value.string R], Value.agg #[Value.int IntKind.u32 Q, Value.string D, Value.slice pa rn pc, Value.int IntKind.i64 room], Value.slice a0 len0 cap0, Value.int IntKind.i64 (k : Int), Value.int IntKind.i64 xk, Value.int IntKind.i64 nn, Value.tuple #[tur5, Value.string R], Value.agg #[Value.int IntKind.u32 Q, Value.string E, Value.slice ra rn rc, Value.int IntKind.i64 room], Value.string R, v 6, v 0, v 1, v 2, v 3, v 4, v 5, v 7, v 8, u144, u145, u146, u147, u148, u149, u150, u151, u152, u153, u154, u155, u156, u157, u158, u159, u160, u161, u162, u163, u164, u165, u166, u167, u168, u169, u170, u171, u172, u173, u174, u175, u176, u177], defers := [] }) (by kernel_rfl) (by decide) (by kernel_rfl) (Since.refl _) (fun vals => by kernel_rfl) ?_ ?_ ?_ ?_ ?_ ?_ ?_
          case refine_1 =>
            intro i x x' v h1 h2
            match i, h2 with
            | 5, h2 => exact h2.since h1
            | 6, h2 => exact h2.since h1
            | 7, h2 => exact h2.since h1
            | 9, h2 => exact h2.since h1
            | 0, h2 | 1, h2 | 2, h2 | 3, h2 | 4, h2 | 8, h2 | 10, h2 | 11, h2 => exact h2
            | n + 12, _ => trivial
          case refine_2 => exact fun _ _ => trivial
          case refine_3 => exact fun _ _ _ h1 h2 => h2.since h1
          case refine_4 => exact fun _ _ _ h h2 => h2.congr (h _ rfl { on := 9, ground := .data } (by simp) rfl) (h _ rfl { on := 7, ground := .data } (by simp) rfl)
          case refine_5 =>
            repeat (first | exact eachBut_nil | refine eachBut_skip ?_ | refine eachBut_cons ?_ ?_)
            all_goals intro vals x hx hv
            all_goals simp [Region.binds] at hv
            · have hb := by first | exact hv | exact hv.1 | exact hv.2.1
              simp [does, doesUpon, go_sem, hb, Since.refl]
            · simp [does, doesUpon, go_sem]
              exact ⟨(Since.refl _).alloc _, IsBoxB.new hx.le⟩
            · obtain ⟨c, h1, h2⟩ := hv
              simp [does, doesUpon, go_sem, h1, Since.refl]
            · obtain ⟨c, h1, h2⟩ := hv
              simp [does, doesUpon, go_sem, h1, Since.refl]
              exact h2
            · have hv2 := hv
              obtain ⟨c, h1, h2⟩ := hv
              simp [does, doesUpon, go_sem, Since.refl]
              exact hv2
            · obtain ⟨h0, h4⟩ := hv
              simp [does, doesUpon, go_sem, h0, h4]
              refine (specInRead Q D room za rn zc L nn hgoodP hnilTz hnnI x (Tz.since hx).reads).mono ?_
              rintro _ x' ⟨g, c, rfl, T', h1⟩
              rw [hE.out, hR.out]
              exact ⟨_, rfl, h1, _, rfl, _, _, _, rfl, Own.low T' hx.le⟩
            · simp [does, doesUpon, go_sem, hv, hmod, Since.refl]
            · obtain ⟨h1, h2⟩ := hv
              simp [does, doesUpon, go_sem, h1, h2]
              refine (hxk x (G8.trans hx)).mono ?_
              rintro _ _ ⟨rfl, rfl⟩
              simp [Since.refl]
            · simp [does, doesUpon, go_sem, Since.refl]
            · simp [does, doesUpon, go_sem, Since.refl]
            · have e0 := (Yz.since hx).cell 0
              have e1 := (Yz.since hx).cell 1
              have e2 := (Yz.since hx).cell 2
              have e3 := (Yz.since hx).cell 3
              simp at e0 e1 e2 e3
              simp [does, doesUpon, go_sem, e0, e1, e2, e3, Since.refl]
          case refine_6 =>
            intro o ho vals x hx hv
            obtain rfl := Option.some.inj ho
            simp [Region.binds] at hv
            have hpb : IsBoxB w8.heap.size x (vals 9) := by first | exact hv.1 | exact hv.2.1 | exact hv.2.2.1
            have hqb : IsBuf w8.heap.size Q E room L x (vals 7) := by first | exact hv.2.1 | exact hv.1 | exact hv.2.2.1
            obtain ⟨b, u0, u1, u2, u3, h9, lb, hb⟩ := hpb
            obtain ⟨aa, ma, ca, h6, Ta⟩ := hqb
            have hc0 := hb.blk.cell 0
            have hf0 := hb.blk.fz 0
            have hc1 := hb.blk.cell 1
            have hf1 := hb.blk.fz 1
            have hc2 := hb.blk.cell 2
            have hf2 := hb.blk.fz 2
            have hc3 := hb.blk.cell 3
            have hf3 := hb.blk.fz 3
            simp at hc0 hc1 hc2 hc3
            simp [does, doesUpon, go_sem, h9, h6, hc0, hc1, hc2, hc3, hf0, hf1, hf2, hf3]
            refine ⟨since_put1 (since_put1 (since_put1 (since_put1 hx lb 0 _) lb 1 _) lb 2 _) lb 3 _, ?_, ⟨b, _, _, _, _, h9, h6, lb, hb.put _ _ _ _⟩⟩
            intro j v h2
            match j, h2 with
            | 5, h2 => exact h2.put hb _ _ _ _
            | 6, h2 => exact h2.put hb _ _ _ _
            | 7, h2 => exact h2.put hb _ _ _ _
            | 9, h2 => exact h2.put hb _ _ _ _
            | 0, h2 | 1, h2 | 2, h2 | 3, h2 | 4, h2 | 8, h2 | 10, h2 | 11, h2 => exact h2
            | n + 12, _ => trivial
          intro vals w9 k_w9 hv hS
          have h0 : vals 0 = _ := hv 0 (by decide)
          have h1 : vals 1 = _ := hv 1 (by decide)
          have h2 : vals 2 = _ := hv 2 (by decide)
          have h3 : vals 3 = _ := hv 3 (by decide)
          have h4 : vals 4 = _ := hv 4 (by decide)
          have h8 : vals 8 = _ := hv 8 (by decide)
          have h11 : vals 11 = _ := hv 11 (by decide)
          obtain ⟨tus5, h5, _⟩ : IsAnsB w8.heap.size Q E room L (.string R) w9 (vals 5) := hv 5 (by decide)
          obtain ⟨tus6, h6, _⟩ : IsAnsB w8.heap.size Q E room L (.string R) w9 (vals 6) := hv 6 (by decide)
          obtain ⟨sa, sn, sc, h7, Ts⟩ : IsBuf w8.heap.size Q E room L w9 (vals 7) := hv 7 (by decide)
          obtain ⟨bs, y0, y1, y2, y3, h9, huY, lbs, hbs⟩ := hS
          rw [h7] at huY
          obtain ⟨rfl, rfl, rfl, rfl⟩ : y0 = .int .u32 Q ∧ y1 = .string E ∧ y2 = .slice sa sn sc ∧ y3 = .int .i64 room := by simpa [eq_comm] using huY
          clear hv huY
          simp only [h0, h1, h2, h3, h4, h5, h6, h7, h8, h9, h11]
          clear h0 h1 h2 h3 h4 h5 h6 h7 h8 h9 h11
          have Ys := hbs.blk
          clear hbs
          obtain rfl : sn = rn := Ts.1.symm.trans Tz.1
          have lYs9 := Ys.lt
          replace B := B.since k_w9
          replace M := M.since k_w9
          replace Yp := Yp.since k_w9
          replace Yz := Yz.since k_w9
          replace Yr := Yr.since k_w9
          replace Tr := Tr.since k_w9
          replace G := G.trans k_w9
          have z9 := k_w9.le
          clear Tz hnilTz k_w9 G8 hxk hmod hmod2 hnnI hgoodP hE hR
          obtain ⟨R2, hR2⟩ : ∃ R2, Hid (S.extract 0 (rd + mr) = R2) := ⟨_, rfl⟩
          have hler := hread.le
          have hRsz : Rt.size + R.size ≤ 1000 := by
            have := congrArg ByteArray.size hcat
            rw [ByteArray.size_append, ByteArray.size_extract] at this
            omega
          have hadd1 : ∀ wx, (Op.stringOp .add Rt R).run Try.prog wx = .ok (.string R2) wx := fun wx => by
            have := run_string_add_sum (P := Try.prog) wx Rt R (by omega)
            rw [hcat, hR2.out] at this
            exact this
          have lTr : ∀ g, (Value.slice ra sn rc).ownBlock = some g → w7.heap.size ≤ g := fun g e => (Tr.lt e).1
          have lTs : ∀ g, (Value.slice sa sn sc).ownBlock = some g → w7.heap.size ≤ g := fun g e => by have := (Ts.lt e).1; omega
          clear hcat hRsz hler hput
          have cy1s0 : World.cell? _ _ = some (.int .u32 Q) := Yr.cell 0
          have cy1s1 : World.cell? _ _ = some (.string E) := Yr.cell 1
          have cy1s2 : World.cell? _ _ = some (.slice ra sn rc) := Yr.cell 2
          have cy1s3 : World.cell? _ _ = some (.int .i64 room) := Yr.cell 3
          have cy1d0 : World.cell? _ _ = some (.int .u32 Q) := Yp.cell 0
          have cy1d1 : World.cell? _ _ = some (.string D) := Yp.cell 1
          have cy1d2 : World.cell? _ _ = some (.slice pa sn pc) := Yp.cell 2
          have cy1d3 : World.cell? _ _ = some (.int .i64 room) := Yp.cell 3
          have zy10 := Yp.fz 0
          have zy11 := Yp.fz 1
          have zy12 := Yp.fz 2
          have zy13 := Yp.fz 3
          obtain ⟨y1, hy1, ty1, Xy1⟩ := put4_named Yp (.int .u32 Q) (.string E) (.slice ra sn rc) (.int .i64 room)
          replace B := B.touch ty1 (by omega)
          replace M := M.touch ty1 (by omega)
          replace Yz := Yz.touch ty1 (by omega)
          replace Ys := Ys.touch ty1 (by omega)
          replace Tr := Tr.touch ty1 (fun e => by have := lTr _ e; omega)
          replace Ts := Ts.touch ty1 (fun e => by have := lTs _ e; omega)
          replace G := since_touch7 G ty1 (by omega)
          replace Yp := Xy1
          clear Xy1
          have cy2s0 : World.cell? _ _ = some (.int .u32 Q) := Ys.cell 0
          have cy2s1 : World.cell? _ _ = some (.string E) := Ys.cell 1
          have cy2s2 : World.cell? _ _ = some (.slice sa sn sc) := Ys.cell 2
          have cy2s3 : World.cell? _ _ = some (.int .i64 room) := Ys.cell 3
          have cy2d0 : World.cell? _ _ = some (.int .u32 Q) := Yz.cell 0
          have cy2d1 : World.cell? _ _ = some (.string D) := Yz.cell 1
          have cy2d2 : World.cell? _ _ = some (.slice za sn zc) := Yz.cell 2
          have cy2d3 : World.cell? _ _ = some (.int .i64 room) := Yz.cell 3
          have zy20 := Yz.fz 0
          have zy21 := Yz.fz 1
          have zy22 := Yz.fz 2
          have zy23 := Yz.fz 3
          obtain ⟨y2, hy2, ty2, Xy2⟩ := put4_named Yz (.int .u32 Q) (.string E) (.slice sa sn sc) (.int .i64 room)
          replace B := B.touch ty2 (by omega)
          replace M := M.touch ty2 (by omega)
          replace Yp := Yp.touch ty2 (by omega)
          replace Tr := Tr.touch ty2 (fun e => by have := lTr _ e; omega)
          replace Ts := Ts.touch ty2 (fun e => by have := lTs _ e; omega)
          replace G := since_touch7 G ty2 (by omega)
          replace Yz := Xy2
          clear Xy2
          clear Yr Ys
          have hgood : Good Q E room sn L := by rw [← show L.length = sn from Tr.1]; exact hread.good (by omega)
          obtain ⟨X, hX⟩ : ∃ X, Hid (S.extract 0 ((rd + mr) + E.size) = X) := ⟨_, rfl⟩
          have hle7 := hread.le
          have hXs : X.size = (rd + mr) + E.size := by rw [← hX.out, ByteArray.size_extract]; omega
          have hXp : S.extract 0 X.size = X := by rw [hXs]; exact hX.out
          have hXl : X.size ≤ S.size := by omega
          have hRs : R2.size = (rd + mr) := by rw [← hR2.out, ByteArray.size_extract]; omega
          have hadd : ∀ wx, (Op.stringOp .add R2 E).run Try.prog wx = .ok (.string X) wx := fun wx => by
            have := run_string_add_sum (P := Try.prog) wx R2 E (by omega)
            rw [show R2 ++ E = X by rw [← hR2.out, hread.begins]; exact hX.out] at this
            exact this
          have hnx := hread.next (by omega) hf
          obtain ⟨NN, hNN⟩ : ∃ NN : Nat, NN = (rd + mr) + E.size := ⟨_, rfl⟩
          rw [← hNN] at hnx
          have hsub : IntKind.u32.wrap (Q - first) = (NN : Int) := by simp [IntKind.wrap, IntKind.bits, IntKind.signed]; exact hnx
          have hnn : IntKind.i64.wrap (NN : Int) = (NN : Int) := by rw [IntWalk.i64_left, IntWalk.wrap64_in _ ⟨by omega, by omega⟩]
          have hlen : IntKind.i64.wrap ((R2.size : Int) + (E.size : Int)) = (NN : Int) := by rw [IntWalk.i64_left, IntWalk.wrap64_in _ ⟨by omega, by omega⟩]; omega
          obtain ⟨hN, hhN⟩ : ∃ hN, Hid (inHeld Q E room L = hN) := ⟨_, rfl⟩
          have hNr : ¬ room < hN := by have := hread.held; rw [hhN.out] at this; omega
          clear hnx hNN hXs hRs hle7
          have cy3s0 : World.cell? _ _ = some (.int .u32 Q) := Yp.cell 0
          have cy3s1 : World.cell? _ _ = some (.string E) := Yp.cell 1
          have cy3s2 : World.cell? _ _ = some (.slice ra sn rc) := Yp.cell 2
          have cy3s3 : World.cell? _ _ = some (.int .i64 room) := Yp.cell 3
          have cy3d0 : World.cell? _ _ = some (.int .u32 q) := B.cell 0
          have cy3d1 : World.cell? _ _ = some (.string d) := B.cell 1
          have cy3d2 : World.cell? _ _ = some (.slice a1 n c1) := B.cell 2
          have cy3d3 : World.cell? _ _ = some (.int .i64 room) := B.cell 3
          have zy30 := B.fz 0
          have zy31 := B.fz 1
          have zy32 := B.fz 2
          have zy33 := B.fz 3
          obtain ⟨y3, hy3, ty3, Xy3⟩ := put4_named B (.int .u32 Q) (.string E) (.slice ra sn rc) (.int .i64 room)
          replace M := M.touch ty3 (by omega)
          replace Yz := Yz.touch ty3 (by omega)
          replace Tr := Tr.touch ty3 (fun e => by have := lTr _ e; omega)
          replace Ts := Ts.touch ty3 (fun e => by have := lTs _ e; omega)
          replace G := since_touch7 G ty3 (by omega)
          replace B := Xy3
          clear Xy3
          have cy4s0 : World.cell? _ _ = some (.int .u32 Q) := Yz.cell 0
          have cy4s1 : World.cell? _ _ = some (.string E) := Yz.cell 1
          have cy4s2 : World.cell? _ _ = some (.slice sa sn sc) := Yz.cell 2
          have cy4s3 : World.cell? _ _ = some (.int .i64 room) := Yz.cell 3
          have cy4d0 : World.cell? _ _ = some (.int .u32 q) := M.cell 0
          have cy4d1 : World.cell? _ _ = some (.string d) := M.cell 1
          have cy4d2 : World.cell? _ _ = some (.slice a2 n c2) := M.cell 2
          have cy4d3 : World.cell? _ _ = some (.int .i64 room) := M.cell 3
          have zy40 := M.fz 0
          have zy41 := M.fz 1
          have zy42 := M.fz 2
          have zy43 := M.fz 3
          obtain ⟨y4, hy4, ty4, Xy4⟩ := put4_named M (.int .u32 Q) (.string E) (.slice sa sn sc) (.int .i64 room)
          replace B := B.touch ty4 (by omega)
          replace Tr := Tr.touch ty4 (fun e => by have := lTr _ e; omega)
          replace Ts := Ts.touch ty4 (fun e => by have := lTs _ e; omega)
          replace G := since_touch7 G ty4 (by omega)
          replace M := Xy4
          clear Xy4
          have cb0 : World.cell? _ _ = some (.int .u32 Q) := B.cell 0
          have cb1 : World.cell? _ _ = some (.string E) := B.cell 1
          have cb2 : World.cell? _ _ = some (.slice ra sn rc) := B.cell 2
          have cb3 : World.cell? _ _ = some (.int .i64 room) := B.cell 3
          clear Yp Yz
          go_wp2_with (fail)
          refine (begins7 S X hXp hXl (by omega) _).mono ?_
          rintro _ w20 ⟨rfl, g20⟩
          replace B := B.since g20
          replace M := M.since g20
          replace Tr := Tr.since g20
          replace Ts := Ts.since g20
          replace G := G.trans g20
          replace cb0 : World.cell? _ _ = some (.int .u32 Q) := B.cell 0
          replace cb1 : World.cell? _ _ = some (.string E) := B.cell 1
          replace cb2 : World.cell? _ _ = some (.slice ra sn rc) := B.cell 2
          replace cb3 : World.cell? _ _ = some (.int .i64 room) := B.cell 3
          go_wp2_with (fail)
          refine (implInHeld Q E room ra sn rc L hgood _ Tr.reads).mono ?_
          rw [hhN.out]
          rintro _ w21 ⟨rfl, g21⟩
          replace B := B.since g21
          replace M := M.since g21
          replace Tr := Tr.since g21
          replace Ts := Ts.since g21
          replace G := G.trans g21
          clear cb0 cb1 cb2 cb3
          go_wp2_with (fail)
          go_roundw
          case rel => exact ⟨k + 1, (rd + mr), Q, E, L, ra, sa, sn, rc, sc, by omega, by go_num, by rw [hR2.out], hread, B, M, Tr.low (by omega), Ts.low (by omega), G⟩
          case measure => simp [intOf]; omega
        · have h3b : ((k : Int) % 3 == 0) = false := by simpa using h3
          have lTp : ∀ g, (Value.slice pa zn pc).ownBlock = some g → w1.heap.size + 2 ≤ g := fun g e => by have := (Tp.lt e).1; omega
          have lTz : ∀ g, (Value.slice za zn zc).ownBlock = some g → w1.heap.size + 2 ≤ g := fun g e => by have := (Tz.lt e).1; omega
          have hgood : Good Q D room zn L := by rw [← show L.length = zn from Tp.1]; exact hput.good (by omega)
          obtain ⟨X, hX⟩ : ∃ X, Hid (S.extract 0 (rd + D.size) = X) := ⟨_, rfl⟩
          have hle7 := hput.le
          have hXs : X.size = rd + D.size := by rw [← hX.out, ByteArray.size_extract]; omega
          have hXp : S.extract 0 X.size = X := by rw [hXs]; exact hX.out
          have hXl : X.size ≤ S.size := by omega
          have hRs : Rt.size = rd := by rw [← hRt.out, ByteArray.size_extract]; omega
          have hadd : ∀ wx, (Op.stringOp .add Rt D).run Try.prog wx = .ok (.string X) wx := fun wx => by
            have := run_string_add_sum (P := Try.prog) wx Rt D (by omega)
            rw [show Rt ++ D = X by rw [← hRt.out, hput.begins]; exact hX.out] at this
            exact this
          have hnx := hput.next (by omega) hf
          obtain ⟨NN, hNN⟩ : ∃ NN : Nat, NN = rd + D.size := ⟨_, rfl⟩
          rw [← hNN] at hnx
          have hsub : IntKind.u32.wrap (Q - first) = (NN : Int) := by simp [IntKind.wrap, IntKind.bits, IntKind.signed]; exact hnx
          have hnn : IntKind.i64.wrap (NN : Int) = (NN : Int) := by rw [IntWalk.i64_left, IntWalk.wrap64_in _ ⟨by omega, by omega⟩]
          have hlen : IntKind.i64.wrap ((Rt.size : Int) + (D.size : Int)) = (NN : Int) := by rw [IntWalk.i64_left, IntWalk.wrap64_in _ ⟨by omega, by omega⟩]; omega
          obtain ⟨hN, hhN⟩ : ∃ hN, Hid (inHeld Q D room L = hN) := ⟨_, rfl⟩
          have hNr : ¬ room < hN := by have := hput.held; rw [hhN.out] at this; omega
          clear hnx hNN hXs hRs hle7
          have cy3s0 : World.cell? _ _ = some (.int .u32 Q) := Yp.cell 0
          have cy3s1 : World.cell? _ _ = some (.string D) := Yp.cell 1
          have cy3s2 : World.cell? _ _ = some (.slice pa zn pc) := Yp.cell 2
          have cy3s3 : World.cell? _ _ = some (.int .i64 room) := Yp.cell 3
          have cy3d0 : World.cell? _ _ = some (.int .u32 q) := B.cell 0
          have cy3d1 : World.cell? _ _ = some (.string d) := B.cell 1
          have cy3d2 : World.cell? _ _ = some (.slice a1 n c1) := B.cell 2
          have cy3d3 : World.cell? _ _ = some (.int .i64 room) := B.cell 3
          have zy30 := B.fz 0
          have zy31 := B.fz 1
          have zy32 := B.fz 2
          have zy33 := B.fz 3
          obtain ⟨y3, hy3, ty3, Xy3⟩ := put4_named B (.int .u32 Q) (.string D) (.slice pa zn pc) (.int .i64 room)
          replace M := M.touch ty3 (by omega)
          replace Yz := Yz.touch ty3 (by omega)
          replace Tp := Tp.touch ty3 (fun e => by have := lTp _ e; omega)
          replace Tz := Tz.touch ty3 (fun e => by have := lTz _ e; omega)
          replace G := since_touch7 G ty3 (by omega)
          replace B := Xy3
          clear Xy3
          have cy4s0 : World.cell? _ _ = some (.int .u32 Q) := Yz.cell 0
          have cy4s1 : World.cell? _ _ = some (.string D) := Yz.cell 1
          have cy4s2 : World.cell? _ _ = some (.slice za zn zc) := Yz.cell 2
          have cy4s3 : World.cell? _ _ = some (.int .i64 room) := Yz.cell 3
          have cy4d0 : World.cell? _ _ = some (.int .u32 q) := M.cell 0
          have cy4d1 : World.cell? _ _ = some (.string d) := M.cell 1
          have cy4d2 : World.cell? _ _ = some (.slice a2 n c2) := M.cell 2
          have cy4d3 : World.cell? _ _ = some (.int .i64 room) := M.cell 3
          have zy40 := M.fz 0
          have zy41 := M.fz 1
          have zy42 := M.fz 2
          have zy43 := M.fz 3
          obtain ⟨y4, hy4, ty4, Xy4⟩ := put4_named M (.int .u32 Q) (.string D) (.slice za zn zc) (.int .i64 room)
          replace B := B.touch ty4 (by omega)
          replace Tp := Tp.touch ty4 (fun e => by have := lTp _ e; omega)
          replace Tz := Tz.touch ty4 (fun e => by have := lTz _ e; omega)
          replace G := since_touch7 G ty4 (by omega)
          replace M := Xy4
          clear Xy4
          have cb0 : World.cell? _ _ = some (.int .u32 Q) := B.cell 0
          have cb1 : World.cell? _ _ = some (.string D) := B.cell 1
          have cb2 : World.cell? _ _ = some (.slice pa zn pc) := B.cell 2
          have cb3 : World.cell? _ _ = some (.int .i64 room) := B.cell 3
          clear Yp Yz
          go_wp2_with (fail)
          refine (begins7 S X hXp hXl (by omega) _).mono ?_
          rintro _ w20 ⟨rfl, g20⟩
          replace B := B.since g20
          replace M := M.since g20
          replace Tp := Tp.since g20
          replace Tz := Tz.since g20
          replace G := G.trans g20
          replace cb0 : World.cell? _ _ = some (.int .u32 Q) := B.cell 0
          replace cb1 : World.cell? _ _ = some (.string D) := B.cell 1
          replace cb2 : World.cell? _ _ = some (.slice pa zn pc) := B.cell 2
          replace cb3 : World.cell? _ _ = some (.int .i64 room) := B.cell 3
          go_wp2_with (fail)
          refine (implInHeld Q D room pa zn pc L hgood _ Tp.reads).mono ?_
          rw [hhN.out]
          rintro _ w21 ⟨rfl, g21⟩
          replace B := B.since g21
          replace M := M.since g21
          replace Tp := Tp.since g21
          replace Tz := Tz.since g21
          replace G := G.trans g21
          clear cb0 cb1 cb2 cb3
          go_wp2_with (fail)
          go_roundw
          case rel => exact ⟨k + 1, rd, Q, D, L, pa, za, zn, pc, zc, by omega, by go_num, by rw [hRt.out], hput, B, M, Tp.low (by omega), Tz.low (by omega), G⟩
          case measure => simp [intOf]; omega
      · have heS : e1 ≤ S.size := by omega
        have hfe : fr ≤ e1 := by omega
        have he39 : e1 ≤ fr + 39 := by omega
        obtain ⟨wq, hwq⟩ : ∃ wq, wr.drewN nq = wq := ⟨_, rfl⟩
        have SX0 : Since wr wq := by rw [← hwq]; exact since_drews (Since.refl _) _
        go_wp2_with (fail)
        clear hwq
        have hgfl := (F.since G).lt
        have f0x : ∀ x, Since wq x → x.cell? ⟨gf, k, none⟩ = some (.int .i64 (fr : Int)) := fun x hx => (Below.cell (SX0.trans hx) (p := ⟨gf, k, none⟩) hgfl).trans f0
        replace B := B.since SX0
        replace M := M.since SX0
        have lMq := M.lt
        replace T := T.since SX0
        replace U := U.since SX0
        replace G := G.trans SX0
        have SX : Since wq wq := Since.refl _
        have hqw := hs.hq
        have hle := hs.le
        obtain ⟨at', hat'⟩ : ∃ at', at' = (fr : Int) - ((rd + d.size : Nat) : Int) := ⟨_, rfl⟩
        obtain ⟨seq, hsq'⟩ : ∃ seq, seq = (first + (fr : Int)) % 4294967296 := ⟨_, rfl⟩
        have hcv : IntKind.u32.wrap (fr : Int) = (fr : Int) := by simp [IntKind.wrap, IntKind.bits, IntKind.signed]; omega
        have hsq : IntKind.u32.wrap (first + (fr : Int)) = seq := by simp [IntKind.wrap, IntKind.bits, IntKind.signed]; omega
        have hseq : IsWord seq := ⟨by omega, by omega⟩
        have hdist : IsDist q seq at' := ⟨by omega, by omega, by omega⟩
        have hn : ps.length = n := T.1
        have good : Good q d room n ps := by rw [← hn]; exact hs.good (by omega)
        have hput := hs.put (by omega) hf fr e1 hfe heS (by omega) at' hat'
        have hPs : (S.extract fr e1).size ≤ 1048576 := by rw [ByteArray.size_extract]; omega
        obtain ⟨P, hP⟩ : ∃ P, Hid (S.extract fr e1 = P) := ⟨_, rfl⟩
        rw [hP.out] at hput hPs
        obtain ⟨Q, hQ⟩ : ∃ Q, Hid (pQ q d room ps at' P = Q) := ⟨_, rfl⟩
        obtain ⟨D, hD⟩ : ∃ D, Hid (pD q d room ps at' P = D) := ⟨_, rfl⟩
        obtain ⟨L, hL⟩ : ∃ L, Hid (pL q d room ps at' P = L) := ⟨_, rfl⟩
        obtain ⟨C, hC⟩ : ∃ C, Hid (pM q d room ps at' P = C) := ⟨_, rfl⟩
        rw [hQ.out, hD.out, hL.out] at hput
        have hblkT : ∀ y, a1 = some y → y.block < wq.heap.size := fun y hy => by
          obtain ⟨a', c', h1, _, h3⟩ := T.form
          injection h1 with h1 _ _
          exact (T.lt (h3 y (by rw [← h1]; exact hy)).2).2
        have hnilU : a2 = none → c2 = 0 := fun e => by
          obtain ⟨a', c', h1, h2, _⟩ := U.form
          injection h1 with h1 _ h4
          rw [h4]
          exact (h2 (by rw [← h1]; exact e)).2
        clear hqw hsq' hat' hn hs
        refine wp_region_store (wb := wq) 20 (fun i x v => match i with
            | 0 => v = .agg #[.int .u32 q, .string d, .slice a1 n c1, .int .i64 room]
            | 1 => v = .int .u32 first
            | 2 => v = .slice (some ⟨gf, 0, none⟩) K cf
            | 3 => v = .int .i64 (k : Int)
            | 4 => v = .pointer (some ⟨gf, k, none⟩)
            | 5 => v = .int .i64 (fr : Int)
            | 6 => v = .int .u32 (fr : Int)
            | 7 => v = .int .u32 seq
            | 8 => v = .string S
            | 9 => v = .slice (some ⟨gf, 0, none⟩) K cf
            | 10 => v = .int .i64 (k : Int)
            | 11 => v = .pointer (some ⟨gf, k, none⟩)
            | 12 => v = .int .i64 (fr : Int)
            | 13 => v = .int .i64 (e1 : Int)
            | 14 => v = .string P
            | 15 => IsAnsB wq.heap.size Q D room L (.int .i64 C) x v
            | 16 => IsAnsB wq.heap.size Q D room L (.int .i64 C) x v
            | 17 => IsBuf wq.heap.size Q D room L x v
            | 18 => v = .int .i64 C
            | 19 => IsBoxB wq.heap.size x v
            | 20 => True
            | 21 => v = .int .i64 C
            | _ => True) (fun vals x => StoredB wq.heap.size 19 17 vals x) (fun v => { tmps := #[Value.slice a0 len0 cap0, undef, u2, Value.string S, Value.int IntKind.i64 room, Value.slice (some ⟨gf, 0, none⟩) K cf, Value.slice (some ⟨gn, 0, none⟩) K cn, Value.int IntKind.u32 first, Value.pointer (some ⟨w1.heap.size, 0, none⟩), Value.pointer (some ⟨w1.heap.size + 1, 0, none⟩), Value.string (S.extract 0 rd), Value.int IntKind.i64 (k : Int), Value.int IntKind.i64 (e1 : Int), v 19, v 21, u15, u16, u17, u18, u19, u20, Value.slice a0 len0 cap0, Value.bool false, Value.tuple #[Value.string S, Value.int IntKind.i64 room, Value.slice (some ⟨gf, 0, none⟩) K cf, Value.slice (some ⟨gn, 0, none⟩) K cn], Value.slice a0 len0 cap0, Value.tuple #[Value.string S, Value.int IntKind.i64 room, Value.slice (some ⟨gf, 0, none⟩) K cf, Value.slice (some ⟨gn, 0, none⟩) K cn], Value.string S, Value.int IntKind.i64 room, Value.slice (some ⟨gf, 0, none⟩) K cf, Value.slice (some ⟨gn, 0, none⟩) K cn, Value.slice a0 len0 cap0, Value.int IntKind.i64 x3, Value.int IntKind.i64 (x3 * 5), Value.int IntKind.u32 (x3 * 5), Value.int IntKind.u32 first, Value.int IntKind.u32 first, Value.int IntKind.i64 room, Value.agg #[Value.int IntKind.u32 first, Value.string ⟨#[]⟩, Value.slice none 0 0, Value.int IntKind.i64 room], Value.agg #[Value.int IntKind.u32 first, Value.string ⟨#[]⟩, Value.slice none 0 0, Value.int IntKind.i64 room], Value.int IntKind.i64 (k : Int), Value.slice (some ⟨gf, 0, none⟩) K cf, Value.int IntKind.i64 (K : Int), Value.bool true, u43, u44, Value.slice (some ⟨gf, 0, none⟩) K cf, Value.int IntKind.i64 (k : Int), Value.pointer (some ⟨gf, k, none⟩), Value.int IntKind.i64 (fr : Int), Value.slice (some ⟨gn, 0, none⟩) K cn, Value.int IntKind.i64 (k : Int), Value.pointer (some ⟨gn, k, none⟩), Value.int IntKind.i64 (mm : Int), Value.int IntKind.i64 (e1 : Int), Value.int IntKind.i64 (e1 : Int), Value.string S, Value.int IntKind.i64 (S.size : Int), Value.bool false, u58, u59, v 16, v 0, v 1, v 2, v 3, v 4, v 5, v 6, v 7, v 8, v 9, v 10, v 11, v 12, v 13, v 14, v 15, v 17, v 18, u79, u80, u81, u82, u83, u84, u85, u86, u87, u88, u89, u90, u91, u92, u93, u94, u95, u96, u97, u98, u99, u100, u101, u102, u103, u104, u105, u106, u107, u108, u109, u110, u111, u112, u113, u114, u115, u116, u117, u118, u119, u120, u121, u122, u123, u124, u125, u126, u127, u128, u129, u130, u131, u132, u133, u134, u135, u136, u137, u138, u139, u140, u141, u142, u143, u144, u145, u146, u147, u148, u149, u150, u151, u152, u153, u154, u155, u156, u157, u158, u159, u160, u161, u162, u163, u164, u165, u166, u167, u168, u169, u170, u171, u172, u173, u174, u175, u176, u177], defers := [] }) (by kernel_rfl) (by decide) (by kernel_rfl) (Since.refl _) (fun vals => by kernel_rfl) ?_ ?_ ?_ ?_ ?_ ?_ ?_
        case refine_1 =>
          intro i x x' v h1 h2
          match i, h2 with
          | 15, h2 => exact h2.since h1
          | 16, h2 => exact h2.since h1
          | 17, h2 => exact h2.since h1
          | 19, h2 => exact h2.since h1
          | 0, h2 | 1, h2 | 2, h2 | 3, h2 | 4, h2 | 5, h2 | 6, h2 | 7, h2 | 8, h2 | 9, h2 | 10, h2 | 11, h2 | 12, h2 | 13, h2 | 14, h2 | 18, h2 | 20, h2 | 21, h2 => exact h2
          | n + 22, _ => trivial
        case refine_2 => exact fun _ _ => trivial
        case refine_3 => exact fun _ _ _ h1 h2 => h2.since h1
        case refine_4 => exact fun _ _ _ h h2 => h2.congr (h _ rfl { on := 19, ground := .data } (by simp) rfl) (h _ rfl { on := 17, ground := .data } (by simp) rfl)
        case refine_5 =>
          repeat (first | exact eachBut_nil | refine eachBut_skip ?_ | refine eachBut_cons ?_ ?_)
          all_goals intro vals x hx hv
          all_goals simp [Region.binds] at hv
          · have hb := by first | exact hv | exact hv.1 | exact hv.2.1
            simp [does, doesUpon, go_sem, hb, Since.refl]
          · simp [does, doesUpon, go_sem]
            exact ⟨(Since.refl _).alloc _, IsBoxB.new hx.le⟩
          · obtain ⟨c, h1, h2⟩ := hv
            simp [does, doesUpon, go_sem, h1, Since.refl]
          · obtain ⟨c, h1, h2⟩ := hv
            simp [does, doesUpon, go_sem, h1, Since.refl]
            exact h2
          · have hv2 := hv
            obtain ⟨c, h1, h2⟩ := hv
            simp [does, doesUpon, go_sem, Since.refl]
            exact hv2
          · obtain ⟨h0, h7, h14⟩ := hv
            simp [does, doesUpon, go_sem, h0, h7, h14]
            refine (implInPut q d room a1 n c1 ps seq P at' good hseq hdist hPs x (fun y hy => Nat.lt_of_lt_of_le (hblkT y hy) hx.le) (T.since hx).reads).mono ?_
            rintro _ x' ⟨g, m, c, rfl, T', h1⟩
            rw [hQ.out, hD.out, hC.out]
            rw [hL.out] at T'
            exact ⟨_, rfl, h1, _, rfl, _, _, _, rfl, Own.low T' hx.le⟩
          · obtain ⟨h8, h12, h13⟩ := hv
            simp [does, doesUpon, go_sem, h8, h12, h13, hfe, heS, Since.refl]
            exact hP.out
          · simp [does, doesUpon, go_sem, Since.refl]
          · have e0 := f0x x (SX.trans hx)
            simp [does, doesUpon, go_sem, hv, e0, Since.refl]
          · obtain ⟨h1, h2⟩ := hv
            simp [does, doesUpon, go_sem, h1, h2, hlt, Since.refl]
          · simp [does, doesUpon, go_sem, Since.refl]
          · simp [does, doesUpon, go_sem, Since.refl]
          · simp [does, doesUpon, go_sem, Since.refl]
          · obtain ⟨h1, h6⟩ := hv
            simp [does, doesUpon, go_sem, h1, h6, hsq, Since.refl]
          · simp [does, doesUpon, go_sem, hv, hcv, Since.refl]
          · have e0 := f0x x (SX.trans hx)
            simp [does, doesUpon, go_sem, hv, e0, Since.refl]
          · obtain ⟨h1, h2⟩ := hv
            simp [does, doesUpon, go_sem, h1, h2, hlt, Since.refl]
          · simp [does, doesUpon, go_sem, Since.refl]
          · simp [does, doesUpon, go_sem, Since.refl]
          · simp [does, doesUpon, go_sem, Since.refl]
          · have e0 := (B.since hx).cell 0
            have e1 := (B.since hx).cell 1
            have e2 := (B.since hx).cell 2
            have e3 := (B.since hx).cell 3
            simp at e0 e1 e2 e3
            simp [does, doesUpon, go_sem, e0, e1, e2, e3, Since.refl]
        case refine_6 =>
          intro o ho vals x hx hv
          obtain rfl := Option.some.inj ho
          simp [Region.binds] at hv
          have hpb : IsBoxB wq.heap.size x (vals 19) := by first | exact hv.1 | exact hv.2.1 | exact hv.2.2.1
          have hqb : IsBuf wq.heap.size Q D room L x (vals 17) := by first | exact hv.2.1 | exact hv.1 | exact hv.2.2.1
          obtain ⟨b, u0, u1, u2, u3, h9, lb, hb⟩ := hpb
          obtain ⟨aa, ma, ca, h6, Ta⟩ := hqb
          have hc0 := hb.blk.cell 0
          have hf0 := hb.blk.fz 0
          have hc1 := hb.blk.cell 1
          have hf1 := hb.blk.fz 1
          have hc2 := hb.blk.cell 2
          have hf2 := hb.blk.fz 2
          have hc3 := hb.blk.cell 3
          have hf3 := hb.blk.fz 3
          simp at hc0 hc1 hc2 hc3
          simp [does, doesUpon, go_sem, h9, h6, hc0, hc1, hc2, hc3, hf0, hf1, hf2, hf3]
          refine ⟨since_put1 (since_put1 (since_put1 (since_put1 hx lb 0 _) lb 1 _) lb 2 _) lb 3 _, ?_, ⟨b, _, _, _, _, h9, h6, lb, hb.put _ _ _ _⟩⟩
          intro j v h2
          match j, h2 with
          | 15, h2 => exact h2.put hb _ _ _ _
          | 16, h2 => exact h2.put hb _ _ _ _
          | 17, h2 => exact h2.put hb _ _ _ _
          | 19, h2 => exact h2.put hb _ _ _ _
          | 0, h2 | 1, h2 | 2, h2 | 3, h2 | 4, h2 | 5, h2 | 6, h2 | 7, h2 | 8, h2 | 9, h2 | 10, h2 | 11, h2 | 12, h2 | 13, h2 | 14, h2 | 18, h2 | 20, h2 | 21, h2 => exact h2
          | n + 22, _ => trivial
        intro vals w5 k_w5 hv hS
        have h0 : vals 0 = _ := hv 0 (by decide)
        have h1 : vals 1 = _ := hv 1 (by decide)
        have h2 : vals 2 = _ := hv 2 (by decide)
        have h3 : vals 3 = _ := hv 3 (by decide)
        have h4 : vals 4 = _ := hv 4 (by decide)
        have h5 : vals 5 = _ := hv 5 (by decide)
        have h6 : vals 6 = _ := hv 6 (by decide)
        have h7 : vals 7 = _ := hv 7 (by decide)
        have h8 : vals 8 = _ := hv 8 (by decide)
        have h9 : vals 9 = _ := hv 9 (by decide)
        have h10 : vals 10 = _ := hv 10 (by decide)
        have h11 : vals 11 = _ := hv 11 (by decide)
        have h12 : vals 12 = _ := hv 12 (by decide)
        have h13 : vals 13 = _ := hv 13 (by decide)
        have h14 : vals 14 = _ := hv 14 (by decide)
        have h18 : vals 18 = _ := hv 18 (by decide)
        have h21 : vals 21 = _ := hv 21 (by decide)
        obtain ⟨tup15, h15, _⟩ : IsAnsB wq.heap.size Q D room L (.int .i64 C) w5 (vals 15) := hv 15 (by decide)
        obtain ⟨tup16, h16, _⟩ : IsAnsB wq.heap.size Q D room L (.int .i64 C) w5 (vals 16) := hv 16 (by decide)
        obtain ⟨pa, pn, pc, h17, Tp⟩ : IsBuf wq.heap.size Q D room L w5 (vals 17) := hv 17 (by decide)
        obtain ⟨bp, y0, y1, y2, y3, h19, huY, lbp, hbp⟩ := hS
        rw [h17] at huY
        obtain ⟨rfl, rfl, rfl, rfl⟩ : y0 = .int .u32 Q ∧ y1 = .string D ∧ y2 = .slice pa pn pc ∧ y3 = .int .i64 room := by simpa [eq_comm] using huY
        clear hv huY
        simp only [h0, h1, h2, h3, h4, h5, h6, h7, h8, h9, h10, h11, h12, h13, h14, h15, h16, h17, h18, h19, h21]
        clear h0 h1 h2 h3 h4 h5 h6 h7 h8 h9 h10 h11 h12 h13 h14 h15 h16 h17 h18 h19 h21
        have Yp := hbp.blk
        clear hbp
        replace B := B.since k_w5
        replace M := M.since k_w5
        replace U := U.since k_w5
        replace G := G.trans k_w5
        replace SX : Since wq w5 := k_w5
        have lYp5 := Yp.lt
        have lM5 := M.lt
        have z5 := k_w5.le
        clear T k_w5 hblkT
        go_wp2_with (fail)
        refine wp_region_store (wb := w5) 20 (fun i x v => match i with
            | 0 => v = .agg #[.int .u32 q, .string d, .slice a2 n c2, .int .i64 room]
            | 1 => v = .int .u32 first
            | 2 => v = .slice (some ⟨gf, 0, none⟩) K cf
            | 3 => v = .int .i64 (k : Int)
            | 4 => v = .pointer (some ⟨gf, k, none⟩)
            | 5 => v = .int .i64 (fr : Int)
            | 6 => v = .int .u32 (fr : Int)
            | 7 => v = .int .u32 seq
            | 8 => v = .string S
            | 9 => v = .slice (some ⟨gf, 0, none⟩) K cf
            | 10 => v = .int .i64 (k : Int)
            | 11 => v = .pointer (some ⟨gf, k, none⟩)
            | 12 => v = .int .i64 (fr : Int)
            | 13 => v = .int .i64 (e1 : Int)
            | 14 => v = .string P
            | 15 => IsAnsB w5.heap.size Q D room L (.int .i64 C) x v
            | 16 => IsAnsB w5.heap.size Q D room L (.int .i64 C) x v
            | 17 => IsBuf w5.heap.size Q D room L x v
            | 18 => v = .int .i64 C
            | 19 => IsBoxB w5.heap.size x v
            | 20 => True
            | 21 => v = .int .i64 C
            | _ => True) (fun vals x => StoredB w5.heap.size 19 17 vals x) (fun v => { tmps := #[Value.slice a0 len0 cap0, undef, u2, Value.string S, Value.int IntKind.i64 room, Value.slice (some ⟨gf, 0, none⟩) K cf, Value.slice (some ⟨gn, 0, none⟩) K cn, Value.int IntKind.u32 first, Value.pointer (some ⟨w1.heap.size, 0, none⟩), Value.pointer (some ⟨w1.heap.size + 1, 0, none⟩), Value.string (S.extract 0 rd), Value.int IntKind.i64 (k : Int), Value.int IntKind.i64 (e1 : Int), Value.pointer (some ⟨bp, 0, none⟩), Value.int IntKind.i64 C, v 19, v 21, u17, u18, u19, u20, Value.slice a0 len0 cap0, Value.bool false, Value.tuple #[Value.string S, Value.int IntKind.i64 room, Value.slice (some ⟨gf, 0, none⟩) K cf, Value.slice (some ⟨gn, 0, none⟩) K cn], Value.slice a0 len0 cap0, Value.tuple #[Value.string S, Value.int IntKind.i64 room, Value.slice (some ⟨gf, 0, none⟩) K cf, Value.slice (some ⟨gn, 0, none⟩) K cn], Value.string S, Value.int IntKind.i64 room, Value.slice (some ⟨gf, 0, none⟩) K cf, Value.slice (some ⟨gn, 0, none⟩) K cn, Value.slice a0 len0 cap0, Value.int IntKind.i64 x3, Value.int IntKind.i64 (x3 * 5), Value.int IntKind.u32 (x3 * 5), Value.int IntKind.u32 first, Value.int IntKind.u32 first, Value.int IntKind.i64 room, Value.agg #[Value.int IntKind.u32 first, Value.string ⟨#[]⟩, Value.slice none 0 0, Value.int IntKind.i64 room], Value.agg #[Value.int IntKind.u32 first, Value.string ⟨#[]⟩, Value.slice none 0 0, Value.int IntKind.i64 room], Value.int IntKind.i64 (k : Int), Value.slice (some ⟨gf, 0, none⟩) K cf, Value.int IntKind.i64 (K : Int), Value.bool true, u43, u44, Value.slice (some ⟨gf, 0, none⟩) K cf, Value.int IntKind.i64 (k : Int), Value.pointer (some ⟨gf, k, none⟩), Value.int IntKind.i64 (fr : Int), Value.slice (some ⟨gn, 0, none⟩) K cn, Value.int IntKind.i64 (k : Int), Value.pointer (some ⟨gn, k, none⟩), Value.int IntKind.i64 (mm : Int), Value.int IntKind.i64 (e1 : Int), Value.int IntKind.i64 (e1 : Int), Value.string S, Value.int IntKind.i64 (S.size : Int), Value.bool false, u58, u59, Value.tuple #[tup16, Value.int IntKind.i64 C], Value.agg #[Value.int IntKind.u32 q, Value.string d, Value.slice a1 n c1, Value.int IntKind.i64 room], Value.int IntKind.u32 first, Value.slice (some ⟨gf, 0, none⟩) K cf, Value.int IntKind.i64 (k : Int), Value.pointer (some ⟨gf, k, none⟩), Value.int IntKind.i64 (fr : Int), Value.int IntKind.u32 (fr : Int), Value.int IntKind.u32 seq, Value.string S, Value.slice (some ⟨gf, 0, none⟩) K cf, Value.int IntKind.i64 (k : Int), Value.pointer (some ⟨gf, k, none⟩), Value.int IntKind.i64 (fr : Int), Value.int IntKind.i64 (e1 : Int), Value.string P, Value.tuple #[tup15, Value.int IntKind.i64 C], Value.agg #[Value.int IntKind.u32 Q, Value.string D, Value.slice pa pn pc, Value.int IntKind.i64 room], Value.int IntKind.i64 C, v 16, v 0, v 1, v 2, v 3, v 4, v 5, v 6, v 7, v 8, v 9, v 10, v 11, v 12, v 13, v 14, v 15, v 17, v 18, u98, u99, u100, u101, u102, u103, u104, u105, u106, u107, u108, u109, u110, u111, u112, u113, u114, u115, u116, u117, u118, u119, u120, u121, u122, u123, u124, u125, u126, u127, u128, u129, u130, u131, u132, u133, u134, u135, u136, u137, u138, u139, u140, u141, u142, u143, u144, u145, u146, u147, u148, u149, u150, u151, u152, u153, u154, u155, u156, u157, u158, u159, u160, u161, u162, u163, u164, u165, u166, u167, u168, u169, u170, u171, u172, u173, u174, u175, u176, u177], defers := [] }) (by kernel_rfl) (by decide) (by kernel_rfl) (Since.refl _) (fun vals => by kernel_rfl) ?_ ?_ ?_ ?_ ?_ ?_ ?_
        case refine_1 =>
          intro i x x' v h1 h2
          match i, h2 with
          | 15, h2 => exact h2.since h1
          | 16, h2 => exact h2.since h1
          | 17, h2 => exact h2.since h1
          | 19, h2 => exact h2.since h1
          | 0, h2 | 1, h2 | 2, h2 | 3, h2 | 4, h2 | 5, h2 | 6, h2 | 7, h2 | 8, h2 | 9, h2 | 10, h2 | 11, h2 | 12, h2 | 13, h2 | 14, h2 | 18, h2 | 20, h2 | 21, h2 => exact h2
          | n + 22, _ => trivial
        case refine_2 => exact fun _ _ => trivial
        case refine_3 => exact fun _ _ _ h1 h2 => h2.since h1
        case refine_4 => exact fun _ _ _ h h2 => h2.congr (h _ rfl { on := 19, ground := .data } (by simp) rfl) (h _ rfl { on := 17, ground := .data } (by simp) rfl)
        case refine_5 =>
          repeat (first | exact eachBut_nil | refine eachBut_skip ?_ | refine eachBut_cons ?_ ?_)
          all_goals intro vals x hx hv
          all_goals simp [Region.binds] at hv
          · have hb := by first | exact hv | exact hv.1 | exact hv.2.1
            simp [does, doesUpon, go_sem, hb, Since.refl]
          · simp [does, doesUpon, go_sem]
            exact ⟨(Since.refl _).alloc _, IsBoxB.new hx.le⟩
          · obtain ⟨c, h1, h2⟩ := hv
            simp [does, doesUpon, go_sem, h1, Since.refl]
          · obtain ⟨c, h1, h2⟩ := hv
            simp [does, doesUpon, go_sem, h1, Since.refl]
            exact h2
          · have hv2 := hv
            obtain ⟨c, h1, h2⟩ := hv
            simp [does, doesUpon, go_sem, Since.refl]
            exact hv2
          · obtain ⟨h0, h7, h14⟩ := hv
            simp [does, doesUpon, go_sem, h0, h7, h14]
            refine (specInPut q d room a2 n c2 ps seq P at' good hseq hdist hPs hnilU x (U.since hx).reads).mono ?_
            rintro _ x' ⟨a', m, c, rfl, T', _, _, h1⟩
            rw [hQ.out, hD.out, hC.out]
            rw [hL.out] at T'
            exact ⟨_, rfl, h1, _, rfl, _, _, _, rfl, T'.low hx.le⟩
          · obtain ⟨h8, h12, h13⟩ := hv
            simp [does, doesUpon, go_sem, h8, h12, h13, hfe, heS, Since.refl]
            exact hP.out
          · simp [does, doesUpon, go_sem, Since.refl]
          · have e0 := f0x x (SX.trans hx)
            simp [does, doesUpon, go_sem, hv, e0, Since.refl]
          · obtain ⟨h1, h2⟩ := hv
            simp [does, doesUpon, go_sem, h1, h2, hlt, Since.refl]
          · simp [does, doesUpon, go_sem, Since.refl]
          · simp [does, doesUpon, go_sem, Since.refl]
          · simp [does, doesUpon, go_sem, Since.refl]
          · obtain ⟨h1, h6⟩ := hv
            simp [does, doesUpon, go_sem, h1, h6, hsq, Since.refl]
          · simp [does, doesUpon, go_sem, hv, hcv, Since.refl]
          · have e0 := f0x x (SX.trans hx)
            simp [does, doesUpon, go_sem, hv, e0, Since.refl]
          · obtain ⟨h1, h2⟩ := hv
            simp [does, doesUpon, go_sem, h1, h2, hlt, Since.refl]
          · simp [does, doesUpon, go_sem, Since.refl]
          · simp [does, doesUpon, go_sem, Since.refl]
          · simp [does, doesUpon, go_sem, Since.refl]
          · have e0 := (M.since hx).cell 0
            have e1 := (M.since hx).cell 1
            have e2 := (M.since hx).cell 2
            have e3 := (M.since hx).cell 3
            simp at e0 e1 e2 e3
            simp [does, doesUpon, go_sem, e0, e1, e2, e3, Since.refl]
        case refine_6 =>
          intro o ho vals x hx hv
          obtain rfl := Option.some.inj ho
          simp [Region.binds] at hv
          have hpb : IsBoxB w5.heap.size x (vals 19) := by first | exact hv.1 | exact hv.2.1 | exact hv.2.2.1
          have hqb : IsBuf w5.heap.size Q D room L x (vals 17) := by first | exact hv.2.1 | exact hv.1 | exact hv.2.2.1
          obtain ⟨b, u0, u1, u2, u3, h9, lb, hb⟩ := hpb
          obtain ⟨aa, ma, ca, h6, Ta⟩ := hqb
          have hc0 := hb.blk.cell 0
          have hf0 := hb.blk.fz 0
          have hc1 := hb.blk.cell 1
          have hf1 := hb.blk.fz 1
          have hc2 := hb.blk.cell 2
          have hf2 := hb.blk.fz 2
          have hc3 := hb.blk.cell 3
          have hf3 := hb.blk.fz 3
          simp at hc0 hc1 hc2 hc3
          simp [does, doesUpon, go_sem, h9, h6, hc0, hc1, hc2, hc3, hf0, hf1, hf2, hf3]
          refine ⟨since_put1 (since_put1 (since_put1 (since_put1 hx lb 0 _) lb 1 _) lb 2 _) lb 3 _, ?_, ⟨b, _, _, _, _, h9, h6, lb, hb.put _ _ _ _⟩⟩
          intro j v h2
          match j, h2 with
          | 15, h2 => exact h2.put hb _ _ _ _
          | 16, h2 => exact h2.put hb _ _ _ _
          | 17, h2 => exact h2.put hb _ _ _ _
          | 19, h2 => exact h2.put hb _ _ _ _
          | 0, h2 | 1, h2 | 2, h2 | 3, h2 | 4, h2 | 5, h2 | 6, h2 | 7, h2 | 8, h2 | 9, h2 | 10, h2 | 11, h2 | 12, h2 | 13, h2 | 14, h2 | 18, h2 | 20, h2 | 21, h2 => exact h2
          | n + 22, _ => trivial
        intro vals w6 k_w6 hv hS
        have h0 : vals 0 = _ := hv 0 (by decide)
        have h1 : vals 1 = _ := hv 1 (by decide)
        have h2 : vals 2 = _ := hv 2 (by decide)
        have h3 : vals 3 = _ := hv 3 (by decide)
        have h4 : vals 4 = _ := hv 4 (by decide)
        have h5 : vals 5 = _ := hv 5 (by decide)
        have h6 : vals 6 = _ := hv 6 (by decide)
        have h7 : vals 7 = _ := hv 7 (by decide)
        have h8 : vals 8 = _ := hv 8 (by decide)
        have h9 : vals 9 = _ := hv 9 (by decide)
        have h10 : vals 10 = _ := hv 10 (by decide)
        have h11 : vals 11 = _ := hv 11 (by decide)
        have h12 : vals 12 = _ := hv 12 (by decide)
        have h13 : vals 13 = _ := hv 13 (by decide)
        have h14 : vals 14 = _ := hv 14 (by decide)
        have h18 : vals 18 = _ := hv 18 (by decide)
        have h21 : vals 21 = _ := hv 21 (by decide)
        obtain ⟨tuz15, h15, _⟩ : IsAnsB w5.heap.size Q D room L (.int .i64 C) w6 (vals 15) := hv 15 (by decide)
        obtain ⟨tuz16, h16, _⟩ : IsAnsB w5.heap.size Q D room L (.int .i64 C) w6 (vals 16) := hv 16 (by decide)
        obtain ⟨za, zn, zc, h17, Tz⟩ : IsBuf w5.heap.size Q D room L w6 (vals 17) := hv 17 (by decide)
        obtain ⟨bz, y0, y1, y2, y3, h19, huY, lbz, hbz⟩ := hS
        rw [h17] at huY
        obtain ⟨rfl, rfl, rfl, rfl⟩ : y0 = .int .u32 Q ∧ y1 = .string D ∧ y2 = .slice za zn zc ∧ y3 = .int .i64 room := by simpa [eq_comm] using huY
        clear hv huY
        simp only [h0, h1, h2, h3, h4, h5, h6, h7, h8, h9, h10, h11, h12, h13, h14, h15, h16, h17, h18, h19, h21]
        clear h0 h1 h2 h3 h4 h5 h6 h7 h8 h9 h10 h11 h12 h13 h14 h15 h16 h17 h18 h19 h21
        have Yz := hbz.blk
        clear hbz
        obtain rfl : zn = pn := Tz.1.symm.trans Tp.1
        replace B := B.since k_w6
        replace M := M.since k_w6
        replace Tp := Tp.since k_w6
        replace Yp := Yp.since k_w6
        replace G := G.trans k_w6
        have z6 := k_w6.le
        have lYp := Yp.lt
        have lYz := Yz.lt
        clear U k_w6 hnilU SX f0x hcv hsq hseq hdist good hPs hQ hD hL hC hP
        have hnl : L.length = zn := Tp.1
        have goodP : Good Q D room zn L := by rw [← hnl]; exact hput.good (by omega)
        obtain ⟨rN, hrN⟩ : ∃ rN, Hid (inRoomN Q D room L = rN) := ⟨_, rfl⟩
        have hsm : rN + (D.size : Int) = room := by rw [← hrN.out]; exact hput.room_
        have hsw : IntKind.i64.wrap (rN + (D.size : Int)) = room := by rw [hsm, IntWalk.i64_left, IntWalk.wrap64_in _ ⟨by omega, by omega⟩]
        clear hsm hnl
        have p0z : ∀ z : Later w6, z.val.cell? ⟨bp, 0, none⟩ = some (.int .u32 Q) := fun z => by simpa using (Yp.since z.ok).cell 0
        have p1z : ∀ z : Later w6, z.val.cell? ⟨bp, 1, none⟩ = some (.string D) := fun z => by simpa using (Yp.since z.ok).cell 1
        have p2z : ∀ z : Later w6, z.val.cell? ⟨bp, 2, none⟩ = some (.slice pa zn pc) := fun z => by simpa using (Yp.since z.ok).cell 2
        have p3z : ∀ z : Later w6, z.val.cell? ⟨bp, 3, none⟩ = some (.int .i64 room) := fun z => by simpa using (Yp.since z.ok).cell 3
        have q0z : ∀ z : Later w6, z.val.cell? ⟨bz, 0, none⟩ = some (.int .u32 Q) := fun z => by simpa using (Yz.since z.ok).cell 0
        have hc1 : ∀ z : Later w6, Calls Try.prog 11 #[.agg #[.int .u32 Q, .string D, .slice pa zn pc, .int .i64 room]] z.val fun e w'' => e = .returned (.bool true) ∧ ∃ y : Later w6, w'' = y.val := fun z => calm_call (by have := implInOk Q D room pa zn pc L goodP z.val (Tp.since z.ok).reads; rw [hput.ok] at this; exact this)
        have hc2 : ∀ z : Later w6, Calls Try.prog 12 #[.agg #[.int .u32 Q, .string D, .slice pa zn pc, .int .i64 room]] z.val fun e w'' => e = .returned (.int .i64 rN) ∧ ∃ y : Later w6, w'' = y.val := fun z => calm_call (by have := implInRoom Q D room pa zn pc L goodP z.val (Tp.since z.ok).reads; rw [hrN.out] at this; exact this)
        have hne : Nonempty (Later w6) := ⟨⟨w6, Since.refl _⟩⟩
        go_wp2_with (fail)
        refine wp_region_calm (wb := w6) (by kernel_rfl) (by kernel_rfl) (Since.refl _) ?_
        repeat (go_big_quiet_step (first | (go_at_call 11; exact hc1 _) | (go_at_call 12; exact hc2 _)))
        refine wpQuiet_nil ?_
        rintro _ ⟨y, rfl⟩
        replace B := B.since y.ok
        replace M := M.since y.ok
        replace Tp := Tp.since y.ok
        replace Tz := Tz.since y.ok
        replace Yp := Yp.since y.ok
        replace Yz := Yz.since y.ok
        replace G := G.trans y.ok
        have z7 := y.ok.le
        clear p0z p1z p2z p3z q0z hc1 hc2 hne hsw hrN goodP
        generalize y.val = w7 at *
        clear y
        obtain ⟨Rt, hRt⟩ : ∃ Rt, Hid (S.extract 0 rd = Rt) := ⟨_, rfl⟩
        rw [hRt.out]
        by_cases h3 : (k : Int) % 3 = 0
        · have h3b : ((k : Int) % 3 == 0) = true := by simpa using h3
          obtain ⟨xk, xk0, xk1, hxk⟩ := hat.out k (by omega)
          obtain ⟨nn, hnn'⟩ : ∃ nn, nn = xk % 50 := ⟨_, rfl⟩
          have hmod : Int.tmod xk 50 = nn := by rw [hnn']; exact Int.tmod_eq_emod_of_nonneg xk0
          have hmod2 : xk % 50 = nn := hnn'.symm
          have hn0' : 0 ≤ nn ∧ nn < 50 := by omega
          have hnnI : IsInt nn := ⟨by omega, by omega⟩
          obtain ⟨mr, hread, hcat⟩ := hput.read nn (by omega) (by omega)
          obtain ⟨E, hE⟩ : ∃ E, Hid (readD Q D room L nn = E) := ⟨_, rfl⟩
          obtain ⟨R, hR⟩ : ∃ R, Hid (readT Q D room L nn = R) := ⟨_, rfl⟩
          rw [hE.out] at hread
          rw [hR.out, hRt.out] at hcat
          have hgoodP : Good Q D room zn L := by rw [← show L.length = zn from Tp.1]; exact hput.good (by omega)
          have hnilTp : pa = none → pc = 0 := fun e => by
            obtain ⟨a', c', h1, h2, _⟩ := Tp.form
            injection h1 with h1 _ h4
            rw [h4]
            exact (h2 (by rw [← h1]; exact e)).2
          have hnilTz : za = none → zc = 0 := fun e => by
            obtain ⟨a', c', h1, h2, _⟩ := Tz.form
            injection h1 with h1 _ h4
            rw [h4]
            exact (h2 (by rw [← h1]; exact e)).2
          have lYp7 := Yp.lt
          have lYz7 := Yz.lt
          have G7 := G1.trans G
          clear hnn' h3
          go_wp2_with (fail)
          refine wp_region_store (wb := w7) 10 (fun i x v => match i with
              | 0 => v = .agg #[.int .u32 Q, .string D, .slice pa zn pc, .int .i64 room]
              | 1 => v = .slice a0 len0 cap0
              | 2 => v = .int .i64 (k : Int)
              | 3 => v = .int .i64 xk
              | 4 => v = .int .i64 nn
              | 5 => IsAnsB w7.heap.size Q E room L (.string R) x v
              | 6 => IsAnsB w7.heap.size Q E room L (.string R) x v
              | 7 => IsBuf w7.heap.size Q E room L x v
              | 8 => v = .string R
              | 9 => IsBoxB w7.heap.size x v
              | 10 => True
              | 11 => v = .string R
              | _ => True) (fun vals x => StoredB w7.heap.size 9 7 vals x) (fun v => { tmps := #[Value.slice a0 len0 cap0, undef, u2, Value.string S, Value.int IntKind.i64 room, Value.slice (some ⟨gf, 0, none⟩) K cf, Value.slice (some ⟨gn, 0, none⟩) K cn, Value.int IntKind.u32 first, Value.pointer (some ⟨w1.heap.size, 0, none⟩), Value.pointer (some ⟨w1.heap.size + 1, 0, none⟩), Value.string Rt, Value.int IntKind.i64 (k : Int), Value.int IntKind.i64 (e1 : Int), Value.pointer (some ⟨bp, 0, none⟩), Value.int IntKind.i64 C, Value.pointer (some ⟨bz, 0, none⟩), Value.int IntKind.i64 C, v 9, v 11, u19, u20, Value.slice a0 len0 cap0, Value.bool false, Value.tuple #[Value.string S, Value.int IntKind.i64 room, Value.slice (some ⟨gf, 0, none⟩) K cf, Value.slice (some ⟨gn, 0, none⟩) K cn], Value.slice a0 len0 cap0, Value.tuple #[Value.string S, Value.int IntKind.i64 room, Value.slice (some ⟨gf, 0, none⟩) K cf, Value.slice (some ⟨gn, 0, none⟩) K cn], Value.string S, Value.int IntKind.i64 room, Value.slice (some ⟨gf, 0, none⟩) K cf, Value.slice (some ⟨gn, 0, none⟩) K cn, Value.slice a0 len0 cap0, Value.int IntKind.i64 x3, Value.int IntKind.i64 (x3 * 5), Value.int IntKind.u32 (x3 * 5), Value.int IntKind.u32 first, Value.int IntKind.u32 first, Value.int IntKind.i64 room, Value.agg #[Value.int IntKind.u32 first, Value.string ⟨#[]⟩, Value.slice none 0 0, Value.int IntKind.i64 room], Value.agg #[Value.int IntKind.u32 first, Value.string ⟨#[]⟩, Value.slice none 0 0, Value.int IntKind.i64 room], Value.int IntKind.i64 (k : Int), Value.slice (some ⟨gf, 0, none⟩) K cf, Value.int IntKind.i64 (K : Int), Value.bool true, u43, u44, Value.slice (some ⟨gf, 0, none⟩) K cf, Value.int IntKind.i64 (k : Int), Value.pointer (some ⟨gf, k, none⟩), Value.int IntKind.i64 (fr : Int), Value.slice (some ⟨gn, 0, none⟩) K cn, Value.int IntKind.i64 (k : Int), Value.pointer (some ⟨gn, k, none⟩), Value.int IntKind.i64 (mm : Int), Value.int IntKind.i64 (e1 : Int), Value.int IntKind.i64 (e1 : Int), Value.string S, Value.int IntKind.i64 (S.size : Int), Value.bool false, u58, u59, Value.tuple #[tup16, Value.int IntKind.i64 C], Value.agg #[Value.int IntKind.u32 q, Value.string d, Value.slice a1 n c1, Value.int IntKind.i64 room], Value.int IntKind.u32 first, Value.slice (some ⟨gf, 0, none⟩) K cf, Value.int IntKind.i64 (k : Int), Value.pointer (some ⟨gf, k, none⟩), Value.int IntKind.i64 (fr : Int), Value.int IntKind.u32 (fr : Int), Value.int IntKind.u32 seq, Value.string S, Value.slice (some ⟨gf, 0, none⟩) K cf, Value.int IntKind.i64 (k : Int), Value.pointer (some ⟨gf, k, none⟩), Value.int IntKind.i64 (fr : Int), Value.int IntKind.i64 (e1 : Int), Value.string P, Value.tuple #[tup15, Value.int IntKind.i64 C], Value.agg #[Value.int IntKind.u32 Q, Value.string D, Value.slice pa zn pc, Value.int IntKind.i64 room], Value.int IntKind.i64 C, Value.tuple #[tuz16, Value.int IntKind.i64 C], Value.agg #[Value.int IntKind.u32 q, Value.string d, Value.slice a2 n c2, Value.int IntKind.i64 room], Value.int IntKind.u32 first, Value.slice (some ⟨gf, 0, none⟩) K cf, Value.int IntKind.i64 (k : Int), Value.pointer (some ⟨gf, k, none⟩), Value.int IntKind.i64 (fr : Int), Value.int IntKind.u32 (fr : Int), Value.int IntKind.u32 seq, Value.string S, Value.slice (some ⟨gf, 0, none⟩) K cf, Value.int IntKind.i64 (k : Int), Value.pointer (some ⟨gf, k, none⟩), Value.int IntKind.i64 (fr : Int), Value.int IntKind.i64 (e1 : Int), Value.string P, Value.tuple #[tuz15, Value.int IntKind.i64 C], Value.agg #[Value.int IntKind.u32 Q, Value.string D, Value.slice za zn zc, Value.int IntKind.i64 room], Value.int IntKind.i64 C, Value.int IntKind.i64 C, Value.int IntKind.i64 C, Value.bool false, Value.bool false, Value.pointer (some ⟨bp, 0, none⟩), Value.int IntKind.u32 Q, Value.pointer (some ⟨bz, 0, none⟩), Value.int IntKind.u32 Q, Value.bool false, Value.bool false, Value.bool false, Value.agg #[Value.int IntKind.u32 Q, Value.string D, Value.slice pa zn pc, Value.int IntKind.i64 room], Value.bool true, Value.bool false, Value.bool false, Value.bool false, Value.agg #[Value.int IntKind.u32 Q, Value.string D, Value.slice pa zn pc, Value.int IntKind.i64 room], Value.int IntKind.i64 rN, Value.pointer (some ⟨bp, 1, none⟩), Value.string D, Value.int IntKind.i64 (D.size : Int), Value.int IntKind.i64 room, Value.int IntKind.i64 room, Value.bool false, Value.bool false, Value.int IntKind.i64 (k : Int), Value.int IntKind.i64 ((k : Int) % 3), Value.bool true, v 6, v 0, v 1, v 2, v 3, v 4, v 5, v 7, v 8, u135, u136, u137, u138, u139, u140, u141, u142, u143, u144, u145, u146, u147, u148, u149, u150, u151, u152, u153, u154, u155, u156, u157, u158, u159, u160, u161, u162, u163, u164, u165, u166, u167, u168, u169, u170, u171, u172, u173, u174, u175, u176, u177], defers := [] }) (by kernel_rfl) (by decide) (by kernel_rfl) (Since.refl _) (fun vals => by kernel_rfl) ?_ ?_ ?_ ?_ ?_ ?_ ?_
          case refine_1 =>
            intro i x x' v h1 h2
            match i, h2 with
            | 5, h2 => exact h2.since h1
            | 6, h2 => exact h2.since h1
            | 7, h2 => exact h2.since h1
            | 9, h2 => exact h2.since h1
            | 0, h2 | 1, h2 | 2, h2 | 3, h2 | 4, h2 | 8, h2 | 10, h2 | 11, h2 => exact h2
            | n + 12, _ => trivial
          case refine_2 => exact fun _ _ => trivial
          case refine_3 => exact fun _ _ _ h1 h2 => h2.since h1
          case refine_4 => exact fun _ _ _ h h2 => h2.congr (h _ rfl { on := 9, ground := .data } (by simp) rfl) (h _ rfl { on := 7, ground := .data } (by simp) rfl)
          case refine_5 =>
            repeat (first | exact eachBut_nil | refine eachBut_skip ?_ | refine eachBut_cons ?_ ?_)
            all_goals intro vals x hx hv
            all_goals simp [Region.binds] at hv
            · have hb := by first | exact hv | exact hv.1 | exact hv.2.1
              simp [does, doesUpon, go_sem, hb, Since.refl]
            · simp [does, doesUpon, go_sem]
              exact ⟨(Since.refl _).alloc _, IsBoxB.new hx.le⟩
            · obtain ⟨c, h1, h2⟩ := hv
              simp [does, doesUpon, go_sem, h1, Since.refl]
            · obtain ⟨c, h1, h2⟩ := hv
              simp [does, doesUpon, go_sem, h1, Since.refl]
              exact h2
            · have hv2 := hv
              obtain ⟨c, h1, h2⟩ := hv
              simp [does, doesUpon, go_sem, Since.refl]
              exact hv2
            · obtain ⟨h0, h4⟩ := hv
              simp [does, doesUpon, go_sem, h0, h4]
              refine (implInRead Q D room pa zn pc L nn hgoodP hnilTp hnnI x (Tp.since hx).reads).mono ?_
              rintro _ x' ⟨g, c, rfl, T', h1⟩
              rw [hE.out, hR.out]
              exact ⟨_, rfl, h1, _, rfl, _, _, _, rfl, Own.low T' hx.le⟩
            · simp [does, doesUpon, go_sem, hv, hmod, Since.refl]
            · obtain ⟨h1, h2⟩ := hv
              simp [does, doesUpon, go_sem, h1, h2]
              refine (hxk x (G7.trans hx)).mono ?_
              rintro _ _ ⟨rfl, rfl⟩
              simp [Since.refl]
            · simp [does, doesUpon, go_sem, Since.refl]
            · simp [does, doesUpon, go_sem, Since.refl]
            · have e0 := (Yp.since hx).cell 0
              have e1 := (Yp.since hx).cell 1
              have e2 := (Yp.since hx).cell 2
              have e3 := (Yp.since hx).cell 3
              simp at e0 e1 e2 e3
              simp [does, doesUpon, go_sem, e0, e1, e2, e3, Since.refl]
          case refine_6 =>
            intro o ho vals x hx hv
            obtain rfl := Option.some.inj ho
            simp [Region.binds] at hv
            have hpb : IsBoxB w7.heap.size x (vals 9) := by first | exact hv.1 | exact hv.2.1 | exact hv.2.2.1
            have hqb : IsBuf w7.heap.size Q E room L x (vals 7) := by first | exact hv.2.1 | exact hv.1 | exact hv.2.2.1
            obtain ⟨b, u0, u1, u2, u3, h9, lb, hb⟩ := hpb
            obtain ⟨aa, ma, ca, h6, Ta⟩ := hqb
            have hc0 := hb.blk.cell 0
            have hf0 := hb.blk.fz 0
            have hc1 := hb.blk.cell 1
            have hf1 := hb.blk.fz 1
            have hc2 := hb.blk.cell 2
            have hf2 := hb.blk.fz 2
            have hc3 := hb.blk.cell 3
            have hf3 := hb.blk.fz 3
            simp at hc0 hc1 hc2 hc3
            simp [does, doesUpon, go_sem, h9, h6, hc0, hc1, hc2, hc3, hf0, hf1, hf2, hf3]
            refine ⟨since_put1 (since_put1 (since_put1 (since_put1 hx lb 0 _) lb 1 _) lb 2 _) lb 3 _, ?_, ⟨b, _, _, _, _, h9, h6, lb, hb.put _ _ _ _⟩⟩
            intro j v h2
            match j, h2 with
            | 5, h2 => exact h2.put hb _ _ _ _
            | 6, h2 => exact h2.put hb _ _ _ _
            | 7, h2 => exact h2.put hb _ _ _ _
            | 9, h2 => exact h2.put hb _ _ _ _
            | 0, h2 | 1, h2 | 2, h2 | 3, h2 | 4, h2 | 8, h2 | 10, h2 | 11, h2 => exact h2
            | n + 12, _ => trivial
          intro vals w8 k_w8 hv hS
          have h0 : vals 0 = _ := hv 0 (by decide)
          have h1 : vals 1 = _ := hv 1 (by decide)
          have h2 : vals 2 = _ := hv 2 (by decide)
          have h3 : vals 3 = _ := hv 3 (by decide)
          have h4 : vals 4 = _ := hv 4 (by decide)
          have h8 : vals 8 = _ := hv 8 (by decide)
          have h11 : vals 11 = _ := hv 11 (by decide)
          obtain ⟨tur5, h5, _⟩ : IsAnsB w7.heap.size Q E room L (.string R) w8 (vals 5) := hv 5 (by decide)
          obtain ⟨tur6, h6, _⟩ : IsAnsB w7.heap.size Q E room L (.string R) w8 (vals 6) := hv 6 (by decide)
          obtain ⟨ra, rn, rc, h7, Tr⟩ : IsBuf w7.heap.size Q E room L w8 (vals 7) := hv 7 (by decide)
          obtain ⟨br, y0, y1, y2, y3, h9, huY, lbr, hbr⟩ := hS
          rw [h7] at huY
          obtain ⟨rfl, rfl, rfl, rfl⟩ : y0 = .int .u32 Q ∧ y1 = .string E ∧ y2 = .slice ra rn rc ∧ y3 = .int .i64 room := by simpa [eq_comm] using huY
          clear hv huY
          simp only [h0, h1, h2, h3, h4, h5, h6, h7, h8, h9, h11]
          clear h0 h1 h2 h3 h4 h5 h6 h7 h8 h9 h11
          have Yr := hbr.blk
          clear hbr
          obtain rfl : rn = zn := Tr.1.symm.trans Tp.1
          have lYr8 := Yr.lt
          replace B := B.since k_w8
          replace M := M.since k_w8
          replace Yp := Yp.since k_w8
          replace Yz := Yz.since k_w8
          replace Tz := Tz.since k_w8
          replace G := G.trans k_w8
          have G8 := G7.trans k_w8
          have z8 := k_w8.le
          clear Tp hnilTp k_w8 G7
          go_wp2_with (fail)
          refine wp_region_store (wb := w8) 10 (fun i x v => match i with
              | 0 => v = .agg #[.int .u32 Q, .string D, .slice za rn zc, .int .i64 room]
              | 1 => v = .slice a0 len0 cap0
              | 2 => v = .int .i64 (k : Int)
              | 3 => v = .int .i64 xk
              | 4 => v = .int .i64 nn
              | 5 => IsAnsB w8.heap.size Q E room L (.string R) x v
              | 6 => IsAnsB w8.heap.size Q E room L (.string R) x v
              | 7 => IsBuf w8.heap.size Q E room L x v
              | 8 => v = .string R
              | 9 => IsBoxB w8.heap.size x v
              | 10 => True
              | 11 => v = .string R
              | _ => True) (fun vals x => StoredB w8.heap.size 9 7 vals x) (fun v => { tmps := #[Value.slice a0 len0 cap0, undef, u2, Value.string S, Value.int IntKind.i64 room, Value.slice (some ⟨gf, 0, none⟩) K cf, Value.slice (some ⟨gn, 0, none⟩) K cn, Value.int IntKind.u32 first, Value.pointer (some ⟨w1.heap.size, 0, none⟩), Value.pointer (some ⟨w1.heap.size + 1, 0, none⟩), Value.string Rt, Value.int IntKind.i64 (k : Int), Value.int IntKind.i64 (e1 : Int), Value.pointer (some ⟨bp, 0, none⟩), Value.int IntKind.i64 C, Value.pointer (some ⟨bz, 0, none⟩), Value.int IntKind.i64 C, Value.pointer (some ⟨br, 0, none⟩), Value.string R, v 9, v 11, Value.slice a0 len0 cap0, Value.bool false, Value.tuple #[Value.string S, Value.int IntKind.i64 room, Value.slice (some ⟨gf, 0, none⟩) K cf, Value.slice (some ⟨gn, 0, none⟩) K cn], Value.slice a0 len0 cap0, Value.tuple #[Value.string S, Value.int IntKind.i64 room, Value.slice (some ⟨gf, 0, none⟩) K cf, Value.slice (some ⟨gn, 0, none⟩) K cn], Value.string S, Value.int IntKind.i64 room, Value.slice (some ⟨gf, 0, none⟩) K cf, Value.slice (some ⟨gn, 0, none⟩) K cn, Value.slice a0 len0 cap0, Value.int IntKind.i64 x3, Value.int IntKind.i64 (x3 * 5), Value.int IntKind.u32 (x3 * 5), Value.int IntKind.u32 first, Value.int IntKind.u32 first, Value.int IntKind.i64 room, Value.agg #[Value.int IntKind.u32 first, Value.string ⟨#[]⟩, Value.slice none 0 0, Value.int IntKind.i64 room], Value.agg #[Value.int IntKind.u32 first, Value.string ⟨#[]⟩, Value.slice none 0 0, Value.int IntKind.i64 room], Value.int IntKind.i64 (k : Int), Value.slice (some ⟨gf, 0, none⟩) K cf, Value.int IntKind.i64 (K : Int), Value.bool true, u43, u44, Value.slice (some ⟨gf, 0, none⟩) K cf, Value.int IntKind.i64 (k : Int), Value.pointer (some ⟨gf, k, none⟩), Value.int IntKind.i64 (fr : Int), Value.slice (some ⟨gn, 0, none⟩) K cn, Value.int IntKind.i64 (k : Int), Value.pointer (some ⟨gn, k, none⟩), Value.int IntKind.i64 (mm : Int), Value.int IntKind.i64 (e1 : Int), Value.int IntKind.i64 (e1 : Int), Value.string S, Value.int IntKind.i64 (S.size : Int), Value.bool false, u58, u59, Value.tuple #[tup16, Value.int IntKind.i64 C], Value.agg #[Value.int IntKind.u32 q, Value.string d, Value.slice a1 n c1, Value.int IntKind.i64 room], Value.int IntKind.u32 first, Value.slice (some ⟨gf, 0, none⟩) K cf, Value.int IntKind.i64 (k : Int), Value.pointer (some ⟨gf, k, none⟩), Value.int IntKind.i64 (fr : Int), Value.int IntKind.u32 (fr : Int), Value.int IntKind.u32 seq, Value.string S, Value.slice (some ⟨gf, 0, none⟩) K cf, Value.int IntKind.i64 (k : Int), Value.pointer (some ⟨gf, k, none⟩), Value.int IntKind.i64 (fr : Int), Value.int IntKind.i64 (e1 : Int), Value.string P, Value.tuple #[tup15, Value.int IntKind.i64 C], Value.agg #[Value.int IntKind.u32 Q, Value.string D, Value.slice pa rn pc, Value.int IntKind.i64 room], Value.int IntKind.i64 C, Value.tuple #[tuz16, Value.int IntKind.i64 C], Value.agg #[Value.int IntKind.u32 q, Value.string d, Value.slice a2 n c2, Value.int IntKind.i64 room], Value.int IntKind.u32 first, Value.slice (some ⟨gf, 0, none⟩) K cf, Value.int IntKind.i64 (k : Int), Value.pointer (some ⟨gf, k, none⟩), Value.int IntKind.i64 (fr : Int), Value.int IntKind.u32 (fr : Int), Value.int IntKind.u32 seq, Value.string S, Value.slice (some ⟨gf, 0, none⟩) K cf, Value.int IntKind.i64 (k : Int), Value.pointer (some ⟨gf, k, none⟩), Value.int IntKind.i64 (fr : Int), Value.int IntKind.i64 (e1 : Int), Value.string P, Value.tuple #[tuz15, Value.int IntKind.i64 C], Value.agg #[Value.int IntKind.u32 Q, Value.string D, Value.slice za rn zc, Value.int IntKind.i64 room], Value.int IntKind.i64 C, Value.int IntKind.i64 C, Value.int IntKind.i64 C, Value.bool false, Value.bool false, Value.pointer (some ⟨bp, 0, none⟩), Value.int IntKind.u32 Q, Value.pointer (some ⟨bz, 0, none⟩), Value.int IntKind.u32 Q, Value.bool false, Value.bool false, Value.bool false, Value.agg #[Value.int IntKind.u32 Q, Value.string D, Value.slice pa rn pc, Value.int IntKind.i64 room], Value.bool true, Value.bool false, Value.bool false, Value.bool false, Value.agg #[Value.int IntKind.u32 Q, Value.string D, Value.slice pa rn pc, Value.int IntKind.i64 room], Value.int IntKind.i64 rN, Value.pointer (some ⟨bp, 1, none⟩), Value.string D, Value.int IntKind.i64 (D.size : Int), Value.int IntKind.i64 room, Value.int IntKind.i64 room, Value.bool false, Value.bool false, Value.int IntKind.i64 (k : Int), Value.int IntKind.i64 ((k : Int) % 3), Value.bool true, Value.tuple #[tur6, Value.string R], Value.agg #[Value.int IntKind.u32 Q, Value.string D, Value.slice pa rn pc, Value.int IntKind.i64 room], Value.slice a0 len0 cap0, Value.int IntKind.i64 (k : Int), Value.int IntKind.i64 xk, Value.int IntKind.i64 nn, Value.tuple #[tur5, Value.string R], Value.agg #[Value.int IntKind.u32 Q, Value.string E, Value.slice ra rn rc, Value.int IntKind.i64 room], Value.string R, v 6, v 0, v 1, v 2, v 3, v 4, v 5, v 7, v 8, u144, u145, u146, u147, u148, u149, u150, u151, u152, u153, u154, u155, u156, u157, u158, u159, u160, u161, u162, u163, u164, u165, u166, u167, u168, u169, u170, u171, u172, u173, u174, u175, u176, u177], defers := [] }) (by kernel_rfl) (by decide) (by kernel_rfl) (Since.refl _) (fun vals => by kernel_rfl) ?_ ?_ ?_ ?_ ?_ ?_ ?_
          case refine_1 =>
            intro i x x' v h1 h2
            match i, h2 with
            | 5, h2 => exact h2.since h1
            | 6, h2 => exact h2.since h1
            | 7, h2 => exact h2.since h1
            | 9, h2 => exact h2.since h1
            | 0, h2 | 1, h2 | 2, h2 | 3, h2 | 4, h2 | 8, h2 | 10, h2 | 11, h2 => exact h2
            | n + 12, _ => trivial
          case refine_2 => exact fun _ _ => trivial
          case refine_3 => exact fun _ _ _ h1 h2 => h2.since h1
          case refine_4 => exact fun _ _ _ h h2 => h2.congr (h _ rfl { on := 9, ground := .data } (by simp) rfl) (h _ rfl { on := 7, ground := .data } (by simp) rfl)
          case refine_5 =>
            repeat (first | exact eachBut_nil | refine eachBut_skip ?_ | refine eachBut_cons ?_ ?_)
            all_goals intro vals x hx hv
            all_goals simp [Region.binds] at hv
            · have hb := by first | exact hv | exact hv.1 | exact hv.2.1
              simp [does, doesUpon, go_sem, hb, Since.refl]
            · simp [does, doesUpon, go_sem]
              exact ⟨(Since.refl _).alloc _, IsBoxB.new hx.le⟩
            · obtain ⟨c, h1, h2⟩ := hv
              simp [does, doesUpon, go_sem, h1, Since.refl]
            · obtain ⟨c, h1, h2⟩ := hv
              simp [does, doesUpon, go_sem, h1, Since.refl]
              exact h2
            · have hv2 := hv
              obtain ⟨c, h1, h2⟩ := hv
              simp [does, doesUpon, go_sem, Since.refl]
              exact hv2
            · obtain ⟨h0, h4⟩ := hv
              simp [does, doesUpon, go_sem, h0, h4]
              refine (specInRead Q D room za rn zc L nn hgoodP hnilTz hnnI x (Tz.since hx).reads).mono ?_
              rintro _ x' ⟨g, c, rfl, T', h1⟩
              rw [hE.out, hR.out]
              exact ⟨_, rfl, h1, _, rfl, _, _, _, rfl, Own.low T' hx.le⟩
            · simp [does, doesUpon, go_sem, hv, hmod, Since.refl]
            · obtain ⟨h1, h2⟩ := hv
              simp [does, doesUpon, go_sem, h1, h2]
              refine (hxk x (G8.trans hx)).mono ?_
              rintro _ _ ⟨rfl, rfl⟩
              simp [Since.refl]
            · simp [does, doesUpon, go_sem, Since.refl]
            · simp [does, doesUpon, go_sem, Since.refl]
            · have e0 := (Yz.since hx).cell 0
              have e1 := (Yz.since hx).cell 1
              have e2 := (Yz.since hx).cell 2
              have e3 := (Yz.since hx).cell 3
              simp at e0 e1 e2 e3
              simp [does, doesUpon, go_sem, e0, e1, e2, e3, Since.refl]
          case refine_6 =>
            intro o ho vals x hx hv
            obtain rfl := Option.some.inj ho
            simp [Region.binds] at hv
            have hpb : IsBoxB w8.heap.size x (vals 9) := by first | exact hv.1 | exact hv.2.1 | exact hv.2.2.1
            have hqb : IsBuf w8.heap.size Q E room L x (vals 7) := by first | exact hv.2.1 | exact hv.1 | exact hv.2.2.1
            obtain ⟨b, u0, u1, u2, u3, h9, lb, hb⟩ := hpb
            obtain ⟨aa, ma, ca, h6, Ta⟩ := hqb
            have hc0 := hb.blk.cell 0
            have hf0 := hb.blk.fz 0
            have hc1 := hb.blk.cell 1
            have hf1 := hb.blk.fz 1
            have hc2 := hb.blk.cell 2
            have hf2 := hb.blk.fz 2
            have hc3 := hb.blk.cell 3
            have hf3 := hb.blk.fz 3
            simp at hc0 hc1 hc2 hc3
            simp [does, doesUpon, go_sem, h9, h6, hc0, hc1, hc2, hc3, hf0, hf1, hf2, hf3]
            refine ⟨since_put1 (since_put1 (since_put1 (since_put1 hx lb 0 _) lb 1 _) lb 2 _) lb 3 _, ?_, ⟨b, _, _, _, _, h9, h6, lb, hb.put _ _ _ _⟩⟩
            intro j v h2
            match j, h2 with
            | 5, h2 => exact h2.put hb _ _ _ _
            | 6, h2 => exact h2.put hb _ _ _ _
            | 7, h2 => exact h2.put hb _ _ _ _
            | 9, h2 => exact h2.put hb _ _ _ _
            | 0, h2 | 1, h2 | 2, h2 | 3, h2 | 4, h2 | 8, h2 | 10, h2 | 11, h2 => exact h2
            | n + 12, _ => trivial
          intro vals w9 k_w9 hv hS
          have h0 : vals 0 = _ := hv 0 (by decide)
          have h1 : vals 1 = _ := hv 1 (by decide)
          have h2 : vals 2 = _ := hv 2 (by decide)
          have h3 : vals 3 = _ := hv 3 (by decide)
          have h4 : vals 4 = _ := hv 4 (by decide)
          have h8 : vals 8 = _ := hv 8 (by decide)
          have h11 : vals 11 = _ := hv 11 (by decide)
          obtain ⟨tus5, h5, _⟩ : IsAnsB w8.heap.size Q E room L (.string R) w9 (vals 5) := hv 5 (by decide)
          obtain ⟨tus6, h6, _⟩ : IsAnsB w8.heap.size Q E room L (.string R) w9 (vals 6) := hv 6 (by decide)
          obtain ⟨sa, sn, sc, h7, Ts⟩ : IsBuf w8.heap.size Q E room L w9 (vals 7) := hv 7 (by decide)
          obtain ⟨bs, y0, y1, y2, y3, h9, huY, lbs, hbs⟩ := hS
          rw [h7] at huY
          obtain ⟨rfl, rfl, rfl, rfl⟩ : y0 = .int .u32 Q ∧ y1 = .string E ∧ y2 = .slice sa sn sc ∧ y3 = .int .i64 room := by simpa [eq_comm] using huY
          clear hv huY
          simp only [h0, h1, h2, h3, h4, h5, h6, h7, h8, h9, h11]
          clear h0 h1 h2 h3 h4 h5 h6 h7 h8 h9 h11
          have Ys := hbs.blk
          clear hbs
          obtain rfl : sn = rn := Ts.1.symm.trans Tz.1
          have lYs9 := Ys.lt
          replace B := B.since k_w9
          replace M := M.since k_w9
          replace Yp := Yp.since k_w9
          replace Yz := Yz.since k_w9
          replace Yr := Yr.since k_w9
          replace Tr := Tr.since k_w9
          replace G := G.trans k_w9
          have z9 := k_w9.le
          clear Tz hnilTz k_w9 G8 hxk hmod hmod2 hnnI hgoodP hE hR
          obtain ⟨R2, hR2⟩ : ∃ R2, Hid (S.extract 0 (rd + mr) = R2) := ⟨_, rfl⟩
          have hler := hread.le
          have hRsz : Rt.size + R.size ≤ 1000 := by
            have := congrArg ByteArray.size hcat
            rw [ByteArray.size_append, ByteArray.size_extract] at this
            omega
          have hadd1 : ∀ wx, (Op.stringOp .add Rt R).run Try.prog wx = .ok (.string R2) wx := fun wx => by
            have := run_string_add_sum (P := Try.prog) wx Rt R (by omega)
            rw [hcat, hR2.out] at this
            exact this
          have lTr : ∀ g, (Value.slice ra sn rc).ownBlock = some g → w7.heap.size ≤ g := fun g e => (Tr.lt e).1
          have lTs : ∀ g, (Value.slice sa sn sc).ownBlock = some g → w7.heap.size ≤ g := fun g e => by have := (Ts.lt e).1; omega
          clear hcat hRsz hler hput
          have cy1s0 : World.cell? _ _ = some (.int .u32 Q) := Yr.cell 0
          have cy1s1 : World.cell? _ _ = some (.string E) := Yr.cell 1
          have cy1s2 : World.cell? _ _ = some (.slice ra sn rc) := Yr.cell 2
          have cy1s3 : World.cell? _ _ = some (.int .i64 room) := Yr.cell 3
          have cy1d0 : World.cell? _ _ = some (.int .u32 Q) := Yp.cell 0
          have cy1d1 : World.cell? _ _ = some (.string D) := Yp.cell 1
          have cy1d2 : World.cell? _ _ = some (.slice pa sn pc) := Yp.cell 2
          have cy1d3 : World.cell? _ _ = some (.int .i64 room) := Yp.cell 3
          have zy10 := Yp.fz 0
          have zy11 := Yp.fz 1
          have zy12 := Yp.fz 2
          have zy13 := Yp.fz 3
          obtain ⟨y1, hy1, ty1, Xy1⟩ := put4_named Yp (.int .u32 Q) (.string E) (.slice ra sn rc) (.int .i64 room)
          replace B := B.touch ty1 (by omega)
          replace M := M.touch ty1 (by omega)
          replace Yz := Yz.touch ty1 (by omega)
          replace Ys := Ys.touch ty1 (by omega)
          replace Tr := Tr.touch ty1 (fun e => by have := lTr _ e; omega)
          replace Ts := Ts.touch ty1 (fun e => by have := lTs _ e; omega)
          replace G := since_touch7 G ty1 (by omega)
          replace Yp := Xy1
          clear Xy1
          have cy2s0 : World.cell? _ _ = some (.int .u32 Q) := Ys.cell 0
          have cy2s1 : World.cell? _ _ = some (.string E) := Ys.cell 1
          have cy2s2 : World.cell? _ _ = some (.slice sa sn sc) := Ys.cell 2
          have cy2s3 : World.cell? _ _ = some (.int .i64 room) := Ys.cell 3
          have cy2d0 : World.cell? _ _ = some (.int .u32 Q) := Yz.cell 0
          have cy2d1 : World.cell? _ _ = some (.string D) := Yz.cell 1
          have cy2d2 : World.cell? _ _ = some (.slice za sn zc) := Yz.cell 2
          have cy2d3 : World.cell? _ _ = some (.int .i64 room) := Yz.cell 3
          have zy20 := Yz.fz 0
          have zy21 := Yz.fz 1
          have zy22 := Yz.fz 2
          have zy23 := Yz.fz 3
          obtain ⟨y2, hy2, ty2, Xy2⟩ := put4_named Yz (.int .u32 Q) (.string E) (.slice sa sn sc) (.int .i64 room)
          replace B := B.touch ty2 (by omega)
          replace M := M.touch ty2 (by omega)
          replace Yp := Yp.touch ty2 (by omega)
          replace Tr := Tr.touch ty2 (fun e => by have := lTr _ e; omega)
          replace Ts := Ts.touch ty2 (fun e => by have := lTs _ e; omega)
          replace G := since_touch7 G ty2 (by omega)
          replace Yz := Xy2
          clear Xy2
          clear Yr Ys
          have hgood : Good Q E room sn L := by rw [← show L.length = sn from Tr.1]; exact hread.good (by omega)
          obtain ⟨X, hX⟩ : ∃ X, Hid (S.extract 0 ((rd + mr) + E.size) = X) := ⟨_, rfl⟩
          have hle7 := hread.le
          have hXs : X.size = (rd + mr) + E.size := by rw [← hX.out, ByteArray.size_extract]; omega
          have hXp : S.extract 0 X.size = X := by rw [hXs]; exact hX.out
          have hXl : X.size ≤ S.size := by omega
          have hRs : R2.size = (rd + mr) := by rw [← hR2.out, ByteArray.size_extract]; omega
          have hadd : ∀ wx, (Op.stringOp .add R2 E).run Try.prog wx = .ok (.string X) wx := fun wx => by
            have := run_string_add_sum (P := Try.prog) wx R2 E (by omega)
            rw [show R2 ++ E = X by rw [← hR2.out, hread.begins]; exact hX.out] at this
            exact this
          have hnx := hread.next (by omega) hf
          obtain ⟨NN, hNN⟩ : ∃ NN : Nat, NN = (rd + mr) + E.size := ⟨_, rfl⟩
          rw [← hNN] at hnx
          have hsub : IntKind.u32.wrap (Q - first) = (NN : Int) := by simp [IntKind.wrap, IntKind.bits, IntKind.signed]; exact hnx
          have hnn : IntKind.i64.wrap (NN : Int) = (NN : Int) := by rw [IntWalk.i64_left, IntWalk.wrap64_in _ ⟨by omega, by omega⟩]
          have hlen : IntKind.i64.wrap ((R2.size : Int) + (E.size : Int)) = (NN : Int) := by rw [IntWalk.i64_left, IntWalk.wrap64_in _ ⟨by omega, by omega⟩]; omega
          obtain ⟨hN, hhN⟩ : ∃ hN, Hid (inHeld Q E room L = hN) := ⟨_, rfl⟩
          have hNr : ¬ room < hN := by have := hread.held; rw [hhN.out] at this; omega
          clear hnx hNN hXs hRs hle7
          have cy3s0 : World.cell? _ _ = some (.int .u32 Q) := Yp.cell 0
          have cy3s1 : World.cell? _ _ = some (.string E) := Yp.cell 1
          have cy3s2 : World.cell? _ _ = some (.slice ra sn rc) := Yp.cell 2
          have cy3s3 : World.cell? _ _ = some (.int .i64 room) := Yp.cell 3
          have cy3d0 : World.cell? _ _ = some (.int .u32 q) := B.cell 0
          have cy3d1 : World.cell? _ _ = some (.string d) := B.cell 1
          have cy3d2 : World.cell? _ _ = some (.slice a1 n c1) := B.cell 2
          have cy3d3 : World.cell? _ _ = some (.int .i64 room) := B.cell 3
          have zy30 := B.fz 0
          have zy31 := B.fz 1
          have zy32 := B.fz 2
          have zy33 := B.fz 3
          obtain ⟨y3, hy3, ty3, Xy3⟩ := put4_named B (.int .u32 Q) (.string E) (.slice ra sn rc) (.int .i64 room)
          replace M := M.touch ty3 (by omega)
          replace Yz := Yz.touch ty3 (by omega)
          replace Tr := Tr.touch ty3 (fun e => by have := lTr _ e; omega)
          replace Ts := Ts.touch ty3 (fun e => by have := lTs _ e; omega)
          replace G := since_touch7 G ty3 (by omega)
          replace B := Xy3
          clear Xy3
          have cy4s0 : World.cell? _ _ = some (.int .u32 Q) := Yz.cell 0
          have cy4s1 : World.cell? _ _ = some (.string E) := Yz.cell 1
          have cy4s2 : World.cell? _ _ = some (.slice sa sn sc) := Yz.cell 2
          have cy4s3 : World.cell? _ _ = some (.int .i64 room) := Yz.cell 3
          have cy4d0 : World.cell? _ _ = some (.int .u32 q) := M.cell 0
          have cy4d1 : World.cell? _ _ = some (.string d) := M.cell 1
          have cy4d2 : World.cell? _ _ = some (.slice a2 n c2) := M.cell 2
          have cy4d3 : World.cell? _ _ = some (.int .i64 room) := M.cell 3
          have zy40 := M.fz 0
          have zy41 := M.fz 1
          have zy42 := M.fz 2
          have zy43 := M.fz 3
          obtain ⟨y4, hy4, ty4, Xy4⟩ := put4_named M (.int .u32 Q) (.string E) (.slice sa sn sc) (.int .i64 room)
          replace B := B.touch ty4 (by omega)
          replace Tr := Tr.touch ty4 (fun e => by have := lTr _ e; omega)
          replace Ts := Ts.touch ty4 (fun e => by have := lTs _ e; omega)
          replace G := since_touch7 G ty4 (by omega)
          replace M := Xy4
          clear Xy4
          have cb0 : World.cell? _ _ = some (.int .u32 Q) := B.cell 0
          have cb1 : World.cell? _ _ = some (.string E) := B.cell 1
          have cb2 : World.cell? _ _ = some (.slice ra sn rc) := B.cell 2
          have cb3 : World.cell? _ _ = some (.int .i64 room) := B.cell 3
          clear Yp Yz
          go_wp2_with (fail)
          refine (begins7 S X hXp hXl (by omega) _).mono ?_
          rintro _ w20 ⟨rfl, g20⟩
          replace B := B.since g20
          replace M := M.since g20
          replace Tr := Tr.since g20
          replace Ts := Ts.since g20
          replace G := G.trans g20
          replace cb0 : World.cell? _ _ = some (.int .u32 Q) := B.cell 0
          replace cb1 : World.cell? _ _ = some (.string E) := B.cell 1
          replace cb2 : World.cell? _ _ = some (.slice ra sn rc) := B.cell 2
          replace cb3 : World.cell? _ _ = some (.int .i64 room) := B.cell 3
          go_wp2_with (fail)
          refine (implInHeld Q E room ra sn rc L hgood _ Tr.reads).mono ?_
          rw [hhN.out]
          rintro _ w21 ⟨rfl, g21⟩
          replace B := B.since g21
          replace M := M.since g21
          replace Tr := Tr.since g21
          replace Ts := Ts.since g21
          replace G := G.trans g21
          clear cb0 cb1 cb2 cb3
          go_wp2_with (fail)
          go_roundw
          case rel => exact ⟨k + 1, (rd + mr), Q, E, L, ra, sa, sn, rc, sc, by omega, by go_num, by rw [hR2.out], hread, B, M, Tr.low (by omega), Ts.low (by omega), G⟩
          case measure => simp [intOf]; omega
        · have h3b : ((k : Int) % 3 == 0) = false := by simpa using h3
          have lTp : ∀ g, (Value.slice pa zn pc).ownBlock = some g → w1.heap.size + 2 ≤ g := fun g e => by have := (Tp.lt e).1; omega
          have lTz : ∀ g, (Value.slice za zn zc).ownBlock = some g → w1.heap.size + 2 ≤ g := fun g e => by have := (Tz.lt e).1; omega
          have hgood : Good Q D room zn L := by rw [← show L.length = zn from Tp.1]; exact hput.good (by omega)
          obtain ⟨X, hX⟩ : ∃ X, Hid (S.extract 0 (rd + D.size) = X) := ⟨_, rfl⟩
          have hle7 := hput.le
          have hXs : X.size = rd + D.size := by rw [← hX.out, ByteArray.size_extract]; omega
          have hXp : S.extract 0 X.size = X := by rw [hXs]; exact hX.out
          have hXl : X.size ≤ S.size := by omega
          have hRs : Rt.size = rd := by rw [← hRt.out, ByteArray.size_extract]; omega
          have hadd : ∀ wx, (Op.stringOp .add Rt D).run Try.prog wx = .ok (.string X) wx := fun wx => by
            have := run_string_add_sum (P := Try.prog) wx Rt D (by omega)
            rw [show Rt ++ D = X by rw [← hRt.out, hput.begins]; exact hX.out] at this
            exact this
          have hnx := hput.next (by omega) hf
          obtain ⟨NN, hNN⟩ : ∃ NN : Nat, NN = rd + D.size := ⟨_, rfl⟩
          rw [← hNN] at hnx
          have hsub : IntKind.u32.wrap (Q - first) = (NN : Int) := by simp [IntKind.wrap, IntKind.bits, IntKind.signed]; exact hnx
          have hnn : IntKind.i64.wrap (NN : Int) = (NN : Int) := by rw [IntWalk.i64_left, IntWalk.wrap64_in _ ⟨by omega, by omega⟩]
          have hlen : IntKind.i64.wrap ((Rt.size : Int) + (D.size : Int)) = (NN : Int) := by rw [IntWalk.i64_left, IntWalk.wrap64_in _ ⟨by omega, by omega⟩]; omega
          obtain ⟨hN, hhN⟩ : ∃ hN, Hid (inHeld Q D room L = hN) := ⟨_, rfl⟩
          have hNr : ¬ room < hN := by have := hput.held; rw [hhN.out] at this; omega
          clear hnx hNN hXs hRs hle7
          have cy3s0 : World.cell? _ _ = some (.int .u32 Q) := Yp.cell 0
          have cy3s1 : World.cell? _ _ = some (.string D) := Yp.cell 1
          have cy3s2 : World.cell? _ _ = some (.slice pa zn pc) := Yp.cell 2
          have cy3s3 : World.cell? _ _ = some (.int .i64 room) := Yp.cell 3
          have cy3d0 : World.cell? _ _ = some (.int .u32 q) := B.cell 0
          have cy3d1 : World.cell? _ _ = some (.string d) := B.cell 1
          have cy3d2 : World.cell? _ _ = some (.slice a1 n c1) := B.cell 2
          have cy3d3 : World.cell? _ _ = some (.int .i64 room) := B.cell 3
          have zy30 := B.fz 0
          have zy31 := B.fz 1
          have zy32 := B.fz 2
          have zy33 := B.fz 3
          obtain ⟨y3, hy3, ty3, Xy3⟩ := put4_named B (.int .u32 Q) (.string D) (.slice pa zn pc) (.int .i64 room)
          replace M := M.touch ty3 (by omega)
          replace Yz := Yz.touch ty3 (by omega)
          replace Tp := Tp.touch ty3 (fun e => by have := lTp _ e; omega)
          replace Tz := Tz.touch ty3 (fun e => by have := lTz _ e; omega)
          replace G := since_touch7 G ty3 (by omega)
          replace B := Xy3
          clear Xy3
          have cy4s0 : World.cell? _ _ = some (.int .u32 Q) := Yz.cell 0
          have cy4s1 : World.cell? _ _ = some (.string D) := Yz.cell 1
          have cy4s2 : World.cell? _ _ = some (.slice za zn zc) := Yz.cell 2
          have cy4s3 : World.cell? _ _ = some (.int .i64 room) := Yz.cell 3
          have cy4d0 : World.cell? _ _ = some (.int .u32 q) := M.cell 0
          have cy4d1 : World.cell? _ _ = some (.string d) := M.cell 1
          have cy4d2 : World.cell? _ _ = some (.slice a2 n c2) := M.cell 2
          have cy4d3 : World.cell? _ _ = some (.int .i64 room) := M.cell 3
          have zy40 := M.fz 0
          have zy41 := M.fz 1
          have zy42 := M.fz 2
          have zy43 := M.fz 3
          obtain ⟨y4, hy4, ty4, Xy4⟩ := put4_named M (.int .u32 Q) (.string D) (.slice za zn zc) (.int .i64 room)
          replace B := B.touch ty4 (by omega)
          replace Tp := Tp.touch ty4 (fun e => by have := lTp _ e; omega)
          replace Tz := Tz.touch ty4 (fun e => by have := lTz _ e; omega)
          replace G := since_touch7 G ty4 (by omega)
          replace M := Xy4
          clear Xy4
          have cb0 : World.cell? _ _ = some (.int .u32 Q) := B.cell 0
          have cb1 : World.cell? _ _ = some (.string D) := B.cell 1
          have cb2 : World.cell? _ _ = some (.slice pa zn pc) := B.cell 2
          have cb3 : World.cell? _ _ = some (.int .i64 room) := B.cell 3
          clear Yp Yz
          go_wp2_with (fail)
          refine (begins7 S X hXp hXl (by omega) _).mono ?_
          rintro _ w20 ⟨rfl, g20⟩
          replace B := B.since g20
          replace M := M.since g20
          replace Tp := Tp.since g20
          replace Tz := Tz.since g20
          replace G := G.trans g20
          replace cb0 : World.cell? _ _ = some (.int .u32 Q) := B.cell 0
          replace cb1 : World.cell? _ _ = some (.string D) := B.cell 1
          replace cb2 : World.cell? _ _ = some (.slice pa zn pc) := B.cell 2
          replace cb3 : World.cell? _ _ = some (.int .i64 room) := B.cell 3
          go_wp2_with (fail)
          refine (implInHeld Q D room pa zn pc L hgood _ Tp.reads).mono ?_
          rw [hhN.out]
          rintro _ w21 ⟨rfl, g21⟩
          replace B := B.since g21
          replace M := M.since g21
          replace Tp := Tp.since g21
          replace Tz := Tz.since g21
          replace G := G.trans g21
          clear cb0 cb1 cb2 cb3
          go_wp2_with (fail)
          go_roundw
          case rel => exact ⟨k + 1, rd, Q, D, L, pa, za, zn, pc, zc, by omega, by go_num, by rw [hRt.out], hput, B, M, Tp.low (by omega), Tz.low (by omega), G⟩
          case measure => simp [intOf]; omega
    · have hkK : k = K := by omega
      subst hkK
      clear B M T U
      go_wp2_with (fail)
      go_ret
      exact ⟨rfl, G1.trans G⟩
end Go.Proofs.Ytmgaikpninblgaa
