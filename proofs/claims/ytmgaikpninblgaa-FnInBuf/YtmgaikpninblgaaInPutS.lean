/-
  Contract of spec's InPut.
-/
import Derived.Test.YtmgaikpninblgaaSpecFact
import Derived.Test.YtmgaikpninblgaaInReadP
import Derived.Test.YtmgaikpninblgaaBuf
namespace Go.Proofs.Ytmgaikpninblgaa
open Go.ChangeShapes Go.WideShapes Go.ChangeAt Go.RowKit Go.Deep
set_option linter.unusedVariables false
set_option maxRecDepth 10000

theorem blk_grown {w w' : World} {b : Nat} {cs : Array Value} {row : Option Nat} (h : Blk b w cs) (k : w.grownBy w' row) (hne : row = some b → False) : Blk b w' cs :=
  ⟨Nat.lt_of_lt_of_le h.lt k.size, fun i => (k.frozen_far ⟨b, i, none⟩ h.lt (fun e => hne e.symm)).trans (h.fz i), fun i => (k.cell_far ⟨b, i, none⟩ h.lt (fun e => hne e.symm)).trans (h.cell i)⟩

set_option maxHeartbeats 8000000 in
theorem specInPut (q : Int) (d : ByteArray) (r : Int) (a : Option Addr) (n cap : Nat) (ps : List (Int × ByteArray)) (seq : Int) (s : ByteArray) (at' : Int) (gd : Good q d r n ps) (hseq : IsWord seq) (ha : IsDist q seq at') (hss : s.size ≤ 1048576) (hnil : a = none → cap = 0) (w : World) (R : Rd shP w a n ps) :
    Calls Try.prog 10 #[inVal q d (.slice a n cap) r, .int .u32 seq, .string s] w fun e w' => ∃ a' m c, e = .returned (.tuple #[inVal (pQ q d r ps at' s) (pD q d r ps at' s) (.slice a' m c) r, .int .i64 (pM q d r ps at' s)]) ∧ Own shP w' w.heap.size (.slice a' m c) m (pL q d r ps at' s) ∧ (∀ x, a' = some x → w.heap.size ≤ x.block ∧ x.block < w'.heap.size) ∧ (a' = none → c = 0) ∧ Since w w' := by
  have hlen := R.len
  have hdist := fun wx => specDist q seq at' gd.hq hseq ha wx
  have hok := fun wx Rx => specInOk q d r a n cap ps gd wx Rx
  have hfr := fun wx Rx => copyIn q d r a n cap ps gd.hn hnil wx Rx
  have G : Since w ((w.alloc (.cells #[.int .u32 q, .string d, .slice a n cap, .int .i64 r] 31)).alloc (.cells #[.int .u32 0, .string ⟨#[]⟩, .slice none 0 0, .int .i64 0] 31)) := ((Since.refl _).alloc _).alloc _
  have A := (Blk.new w #[.int .u32 q, .string d, .slice a n cap, .int .i64 r] 31).since ((Since.refl _).alloc (.cells #[.int .u32 0, .string ⟨#[]⟩, .slice none 0 0, .int .i64 0] 31))
  have B := Blk.new (w.alloc (.cells #[.int .u32 q, .string d, .slice a n cap, .int .i64 r] 31)) #[.int .u32 0, .string ⟨#[]⟩, .slice none 0 0, .int .i64 0] 31
  simp only [World.size_alloc] at A B
  have hok1 := hok _ (R.since G)
  clear hok
  obtain ⟨ha1, ha2, _⟩ := ha
  by_cases hp : putOk q d r ps at' s
  · obtain ⟨hk, hp1, hp2, hp3⟩ := hp
    have hp : putOk q d r ps at' s := ⟨hk, hp1, hp2, hp3⟩
    obtain ⟨⟨hr1, hr2⟩, hr3, hkb⟩ := inOk_room hk
    obtain ⟨W, hW⟩ := Int.eq_ofNat_of_zero_le (show 0 ≤ r - (d.size : Int) by omega)
    rw [hW] at hkb
    have hcells := fun wx Rx => cellsS q d r a n cap ps gd hk W hW wx Rx
    have hd1 : decide ((536 : Int) < (s.size : Int)) = false := decide_eq_false (by omega)
    have hd2 : decide ((4096 : Int) ≤ at') = false := decide_eq_false (by omega)
    have hd3 : decide (at' ≤ -100000) = false := decide_eq_false (by omega)
    obtain ⟨J, hJ⟩ : ∃ J, pJ q ps at' s W = J := ⟨_, rfl⟩
    have hJok := pJ_ok q ps at' s W hkb
    rw [hJ] at hJok
    have eQ : Hid (pQ q d r ps at' s = (q + (nst J : Int)) % 4294967296) := by unfold pQ; rw [if_pos hp, hW]; rw [show pJ q ps at' s ((W : Nat) : Int) = J from hJ]; exact gQ_nst q gd.hq J W hJok
    have eD : Hid (pD q d r ps at' s = d ++ textOf (pF q ps at' s) (nst J)) := by unfold pD; rw [if_pos hp, hW]; rw [show pJ q ps at' s ((W : Nat) : Int) = J from hJ]; exact gD_nst d _ J
    have eL : Hid (pL q d r ps at' s = (rst J).map (prtOf q (pF q ps at' s))) := by unfold pL; rw [if_pos hp, hW]; rw [show pJ q ps at' s ((W : Nat) : Int) = J from hJ]; exact gL_rst q _ J W hJok
    have eM : Hid (pM q d r ps at' s = (cnt (newP (lay q ps (fun _ => -1)) at' s.size) W : Int)) := by unfold pM; rw [if_pos hp, hW]; exact (newP_pM q ps at' s W hkb).symm
    have hc0 : ∀ i, lay q ps (fun _ => -1) i = -1 ∨ 0 ≤ lay q ps (fun _ => -1) i := fun i => (lay_none q ps W hkb i).2.1
    have hsF := fun i => stepF_pF q ps at' s W hkb i
    have hfs := fun i => pF_small q ps at' s W hkb i
    have hcv : ∀ i, i < W → (decide (i < nst J) || cov (rst J) i) = decide (0 ≤ pF q ps at' s i) := fun i hi => by
      rw [← rst_cov J W hJok i, ← hJ]
      exact pF_cov q ps at' s W hkb i (by omega)
    obtain ⟨hro, hnw⟩ := rst_ok J W hJok
    have hq := gd.hq
    rw [hk] at hok1
    generalize pF q ps at' s = f1 at eD eL hsF hfs hcv
    generalize lay q ps (fun _ => -1) = c0 at eM hc0 hsF hcells
    generalize hns : nst J = ns at eQ eD hcv hnw hro
    generalize hrs : rst J = rs at eL hcv hro
    replace hsF : Hid _ := hsF
    replace hfs : Hid _ := hfs
    replace hcv : Hid _ := hcv
    replace hc0 : Hid _ := hc0
    replace hro : Hid _ := hro
    clear hp hkb hJ hJok hfr hns hrs
    unfold inVal at *
    go_enter Try.func10, Try.ntmps10
    go_wp2_with (first | (go_at_call 36; refine (hdist _).mono ?_; rintro _ _ ⟨rfl, rfl⟩) | (go_at_call 37; refine hok1.mono ?_; rintro _ w1 ⟨rfl, g1⟩; replace A := A.since g1; replace B := B.since g1; replace G := G.trans g1; have a0 := A.cell 0; have a1 := A.cell 1; have a2 := A.cell 2; have a3 := A.cell 3; simp at a0 a1 a2 a3))
    refine (hcells _ (R.since G)).mono ?_
    rintro _ w2 ⟨g0, cc, rfl, T0, g2⟩
    have hbl := B.lt
    have hgl0 := T0.low'
    have hgh0 := T0.lt
    replace A := A.since g2
    replace B := B.since g2
    replace G := G.trans g2
    have T1 : Held shI w2 (w.heap.size + 2) g0 W cc (cl (stepF c0 at' s 0) W) := by
      rw [cl_ext (stepF c0 at' s 0) c0 W (fun i _ => stepF_zero c0 at' s i (hc0.out i))]
      exact T0.raise (by omega)
    clear T0 a0 a1 a2 a3 hcells R hok1 hdist
    obtain ⟨w3, hw3⟩ : ∃ w3, w3 = w2 := ⟨_, rfl⟩
    go_wp2
    go_loopw [10, 11] (fun fr i wr => ∃ (k : Nat), k ≤ s.size ∧ i = .int .i64 k ∧ fr = .int .i64 (cnt (newP c0 at' k) W : Int) ∧ Held shI wr (w.heap.size + 2) g0 W cc (cl (stepF c0 at' s k) W) ∧ Touch g0 w2 wr) (fun _ i _ => s.size - (intOf i).toNat)
    case atStart => exact ⟨0, by omega, rfl, by rw [newP_none]; rfl, T1, Touch.refl _ _⟩
    case round =>
      obtain ⟨k, hk1, rfl, rfl, T2, t2⟩ := hrel
      have hcl := cnt_le (newP c0 at' k) W
      by_cases hlt : k < s.size
      · have hlt' : (k : Int) < (s.size : Int) := by omega
        have i1 := fun wx => specIn (at' + (k : Int)) 0 ((W : Int) - 1) wx
        have hw1 : IntKind.i64.wrap (at' + (k : Int)) = at' + (k : Int) := by rw [IntWalk.i64_left]; exact IntWalk.wrap64_in _ ⟨by omega, by omega⟩
        by_cases hin : 0 ≤ at' + (k : Int) ∧ at' + (k : Int) ≤ (W : Int) - 1
        · rw [show decide (0 ≤ at' + (k : Int) ∧ at' + (k : Int) ≤ (W : Int) - 1) = true from decide_eq_true hin] at i1
          obtain ⟨m, hm⟩ := Int.eq_ofNat_of_zero_le hin.1
          have hmW : m < W := by omega
          have c1 := T2.num m hmW
          rw [cl_at _ _ _ hmW, stepF_at c0 at' s k m hm.symm (hc0.out m)] at c1
          have f1' := T2.free m
          have hmt : (at' + (k : Int)).toNat = m := by omega
          have hnn : 0 ≤ at' + (k : Int) := hin.1
          have hmW' : at' + (k : Int) < (W : Int) := by omega
          by_cases hneg : c0 m < 0
          · have hdn : decide (c0 m < 0) = true := decide_eq_true hneg
            have hT := T2.setI m hmW (byteAt s k)
            rw [cl_set, stepF_new c0 at' s k m hm.symm hneg] at hT
            have hnp := newP_new c0 at' k m W hm.symm hmW hneg
            replace hT : Hid _ := hT
            replace hnp : Hid _ := hnp
            clear hin hm
            go_wp2_with (go_at_call 40; refine (i1 _).mono ?_; rintro _ _ ⟨rfl, rfl⟩)
            have hval : wrap64 ((s[k]'hlt).toNat : Int) = byteAt s k := by
              have hr := byteAt_range s k
              rw [byteAt_in s k hlt] at hr ⊢
              exact IntWalk.wrap64_in _ ⟨by omega, by omega⟩
            go_roundw
            case rel => exact ⟨k + 1, by omega, by go_num, by rw [hnp.out], by rw [hval]; exact hT.out, t2.put _ _⟩
            case measure => simp [intOf]; omega
          · have hdn : decide (c0 m < 0) = false := decide_eq_false hneg
            have hsame : cl (stepF c0 at' s (k + 1)) W = cl (stepF c0 at' s k) W := cl_ext _ _ _ fun i _ => stepF_same c0 at' s k i (by
              by_cases e : i = m
              · right
                subst e
                omega
              · left
                omega)
            have hnp := newP_same c0 at' k W (fun i hi e => by obtain rfl : i = m := (by omega); omega)
            replace hsame : Hid _ := hsame
            replace hnp : Hid _ := hnp
            clear hin hm
            go_wp2_with (go_at_call 40; refine (i1 _).mono ?_; rintro _ _ ⟨rfl, rfl⟩)
            go_roundw
            case rel => exact ⟨k + 1, by omega, by go_num, by rw [hnp.out], by rw [hsame.out]; exact T2, t2⟩
            case measure => simp [intOf]; omega
        · rw [show decide (0 ≤ at' + (k : Int) ∧ at' + (k : Int) ≤ (W : Int) - 1) = false from decide_eq_false hin] at i1
          have hsame : cl (stepF c0 at' s (k + 1)) W = cl (stepF c0 at' s k) W := cl_ext _ _ _ fun i _ => stepF_same c0 at' s k i (by left; omega)
          have hnp := newP_same c0 at' k W (fun i hi e => by omega)
          replace hsame : Hid _ := hsame
          replace hnp : Hid _ := hnp
          clear hin
          go_wp2_with (go_at_call 40; refine (i1 _).mono ?_; rintro _ _ ⟨rfl, rfl⟩)
          go_roundw
          case rel => exact ⟨k + 1, by omega, by go_num, by rw [hnp.out], by rw [hsame.out]; exact T2, t2⟩
          case measure => simp [intOf]; omega
      · have hks : k = s.size := by omega
        subst hks
        obtain ⟨wA, hwA⟩ : ∃ wA, wA = wr := ⟨_, rfl⟩
        subst hwA
        have A2 := A.touch t2 (show w.heap.size ≠ g0 by omega)
        have B2 := B.touch t2 (show w.heap.size + 1 ≠ g0 by omega)
        have G2 := G.touch t2 (show w.heap.size ≤ g0 by omega)
        have T3 : Held shI wA (w.heap.size + 2) g0 W cc (cl f1 W) := by
          rw [← cl_ext (stepF c0 at' s s.size) f1 W (fun i _ => hsF.out i)]
          exact T2
        have aa1 := A2.cell 1
        simp at aa1
        obtain ⟨rc0, w4, hconv, BB, g4⟩ := bytesBuf d wA
        have BB0 : BufB w4 wA.heap.size wA.heap.size (d.size + 0) rc0 (fun i => if i < d.size then byteAt d i else f1 (i - d.size)) := BB.congr fun i hi => (if_pos hi).symm
        have hg0 := T3.lt
        have hpos2 : ∀ i, i < ns → 0 ≤ f1 i := fun i hi => by
          have := hcv.out i (by omega)
          rw [show decide (i < ns) = true from decide_eq_true hi, Bool.true_or] at this
          exact of_decide_eq_true this.symm
        clear T1 T2 hcl BB hw3
        go_wp2
        clear aa1
        go_loopw [12, 13] (fun v ix wr5 => ∃ (k gr rc : Nat), k ≤ ns ∧ ix = .int .i64 k ∧ v = .slice (some ⟨gr, 0, none⟩) (d.size + k) rc ∧ BufB wr5 wA.heap.size gr (d.size + k) rc (fun i => if i < d.size then byteAt d i else f1 (i - d.size)) ∧ Since wA wr5) (fun _ ix _ => ns - (intOf ix).toNat)
        case atStart => exact ⟨0, wA.heap.size, rc0, by omega, rfl, rfl, BB0, g4⟩
        case round =>
          obtain ⟨wr5, hw5⟩ : ∃ wr5, wr5 = wr := ⟨_, rfl⟩
          subst hw5
          obtain ⟨k, gr, rc, hkn, rfl, rfl, BF, S5⟩ := hrel
          have T4 := T3.since S5
          have hgrl := BF.lo
          clear BB0
          by_cases hlt : k < ns
          · have hkW : k < W := by omega
            have hkW' : (k : Int) < (W : Int) := by omega
            have hpk := hpos2 k hlt
            have hdk : decide (0 ≤ f1 k) = true := decide_eq_true hpk
            have c1 := T4.num k hkW
            rw [cl_at _ _ _ hkW] at c1
            have hw8 : IntKind.u8.wrap (f1 k) = f1 k := by
              have := hfs.out k
              simp [IntKind.wrap, IntKind.bits, IntKind.signed]
              omega
            have gY := (Since.refl wr5).alloc (.cells #[.int .u8 (f1 k)] 5)
            have BY := BF.since gY
            have hsrc : (wr5.alloc (.cells #[.int .u8 (f1 k)] 5)).cell? ⟨wr5.heap.size, 0, none⟩ = some (.int .u8 (f1 k)) := by simp
            have hsz5 := S5.le
            have hBsz : wA.heap.size ≤ (wr5.alloc (.cells #[.int .u8 (f1 k)] 5)).heap.size := by simp; omega
            clear hpos2
            go_wp2_with (at_builtin; refine app_buf rfl _ _ rfl rfl BY rfl hsrc hBsz (by omega) ?_; intro gr' rc' w6 BF6 t6 hat6)
            have S6 : Since wA w6 := (S5.trans gY).touch t6 (by omega)
            have BF7 : BufB w6 wA.heap.size gr' (d.size + (k + 1)) rc' (fun i => if i < d.size then byteAt d i else f1 (i - d.size)) := by
              rw [← Nat.add_assoc]
              refine BF6.congr fun j hj => ?_
              by_cases e : j = d.size + k
              · rw [if_pos e, if_neg (by omega), e, show d.size + k - d.size = k by omega]
              · rw [if_neg e]
            go_roundw
            case rel => exact ⟨k + 1, gr', rc', by omega, by go_num, by first | rfl | (rw [Nat.add_assoc]), BF7, S6⟩
            case measure => simp [intOf]; omega
          · have hkn2 : k = ns := by omega
            clear hkn hlt
            revert BF
            rw [hkn2]
            intro BF
            clear hkn2
            by_cases hkW : ns < W
            · have hkW' : (ns : Int) < (W : Int) := by omega
              have c1 := T4.num ns hkW
              rw [cl_at _ _ _ hkW] at c1
              have hdk : decide (0 ≤ f1 ns) = false := by
                rw [← hcv.out ns hkW, show decide (ns < ns) = false from decide_eq_false (by omega), Bool.false_or]
                cases hh : cov rs ns
                · rfl
                · have := cov_low rs ns W ns hro.out hh
                  omega
              have A3 := A2.since S5
              have B3 := B2.since S5
              have G3 := G2.trans S5
              have T5 := T3.since S5
              have hD : textOf (fun i => if i < d.size then byteAt d i else f1 (i - d.size)) (d.size + ns) = d ++ textOf f1 ns := by
                refine textOf_join _ _ _ _ (by rw [textOf_size]) (fun i hi => if_pos hi) (fun i hi => ?_)
                rw [textOf_size] at hi
                rw [if_neg (by omega), show d.size + i - d.size = i by omega]
                exact (byteAt_textOf f1 ns i hi ⟨hpos2 i hi, hfs.out i⟩).symm
              have hcv2 := bytesBack (fun i => if i < d.size then byteAt d i else f1 (i - d.size)) (d.size + ns) rc gr wr5 BF.cell
              rw [hD] at hcv2
              obtain ⟨D, hDD⟩ : ∃ D, Hid (d ++ textOf f1 ns = D) := ⟨_, rfl⟩
              rw [hDD.out] at hcv2 eD
              have q0 := A3.cell 0
              have q3 := A3.cell 3
              simp at q0 q3
              have hw32 : IntKind.u32.wrap ((ns : Nat) : Int) = (ns : Int) := by simp [IntKind.wrap, IntKind.bits, IntKind.signed]; omega
              have hw33 : IntKind.u32.wrap (q + ((ns : Nat) : Int)) = (q + (ns : Int)) % 4294967296 := by simp [IntKind.wrap, IntKind.bits, IntKind.signed]
              obtain ⟨wb, hwb⟩ : ∃ wb, wb = wr5 := ⟨_, rfl⟩
              have P0 := (Blk.new wr5 #[.int .u32 ((q + (ns : Int)) % 4294967296), .string D, .slice none 0 0, .int .i64 r] 31).since ((Since.refl _).alloc (.cells #[] 5))
              have gB : Since wr5 ((wr5.alloc (.cells #[.int .u32 ((q + (ns : Int)) % 4294967296), .string D, .slice none 0 0, .int .i64 r] 31)).alloc (.cells #[] 5)) := ((Since.refl _).alloc _).alloc _
              have BF0 : BufB ((wr5.alloc (.cells #[.int .u32 ((q + (ns : Int)) % 4294967296), .string D, .slice none 0 0, .int .i64 r] 31)).alloc (.cells #[] 5)) (wr5.heap.size + 1) (wr5.heap.size + 1) 0 0 (fun j => f1 (ns - 0 + j)) := by
                have h := BufB.empty (wr5.alloc (.cells #[.int .u32 ((q + (ns : Int)) % 4294967296), .string D, .slice none 0 0, .int .i64 r] 31))
                rw [World.size_alloc] at h
                exact h.congr fun j hj => by omega
              have O0 : Own shP ((wr5.alloc (.cells #[.int .u32 ((q + (ns : Int)) % 4294967296), .string D, .slice none 0 0, .int .i64 r] 31)).alloc (.cells #[] 5)) (wr5.heap.size + 1) (.slice none 0 0) 0 [] := Own.nil _ _
              obtain ⟨ob, hob⟩ : ∃ ob, wr5.heap.size = ob := ⟨_, rfl⟩
              rw [hob] at P0 BF0 O0
              clear hD hpos2
              go_wp2
              try rw [hob]
              subst hwb
              go_loopw [15, 16] (fun v ix wx => ∃ (i rl gb rc3 : Nat) (done todo : List (Int × Int)) (vp : Value), ns ≤ i ∧ i ≤ W + 1 ∧ ix = .int .i64 i ∧ v = .slice (some ⟨gb, 0, none⟩) rl rc3 ∧ rl ≤ i ∧ Scan rs W i rl done todo ∧ Blk ob wx #[.int .u32 ((q + (ns : Int)) % 4294967296), .string D, vp, .int .i64 r] ∧ Own shP wx (ob + 1) vp done.length (done.map (prtOf q f1)) ∧ BufB wx (ob + 1) gb rl rc3 (fun j => f1 (i - rl + j)) ∧ vp.ownBlock ≠ some gb ∧ Since wb wx) (fun _ ix _ => W + 1 - (intOf ix).toNat)
              case atStart => exact ⟨ns, 0, ob + 1, 0, [], rs, .slice none 0 0, by omega, by omega, rfl, rfl, by omega, ⟨rfl, fun x hx => (by cases hx), .inl ⟨rfl, fun s t e => by have := (okB_mem rs ns W hro.out s (by rw [e]; simp)).1; omega⟩⟩, P0, O0, BF0, by simp [Value.ownBlock], gB⟩
              case round =>
                obtain ⟨wx, hwx⟩ : ∃ wx, wx = wr := ⟨_, rfl⟩
                subst hwx
                obtain ⟨i, rl, gb, rc3, done, todo, vp, hni, hiW1, rfl, rfl, hrli, Sc, P, OW, BF, hvg, SX⟩ := hrel
                have hPl := P.lt
                have hBlo := BF.lo
                clear P0 gB BF0 O0 hconv q0 q3 hcv2
                have TX := T5.since SX
                have hdl : done.length ≤ 4096 := by
                  have h1 := okB_many rs ns W hro.out (by omega)
                  rw [Sc.split, List.length_append] at h1
                  omega
                by_cases hle : i ≤ W
                · have hle' : (i : Int) ≤ (W : Int) := by omega
                  have a0x := (A3.since SX).cell 0
                  simp at a0x
                  by_cases hiW : i < W
                  · have hiW' : (i : Int) < (W : Int) := by omega
                    have c1 := TX.num i hiW
                    rw [cl_at _ _ _ hiW] at c1
                    by_cases hpos : 0 ≤ f1 i
                    · have hdi : decide (0 ≤ f1 i) = true := decide_eq_true hpos
                      have hcr : cov rs i = true := by
                        have := hcv.out i hiW
                        rw [hdi, show decide (i < ns) = false from decide_eq_false (by omega), Bool.false_or] at this
                        exact this
                      obtain ⟨hsc, s', t', hto, hs1, hs0⟩ := Sc.hit hro.out hcr
                      have hw8 : IntKind.u8.wrap (f1 i) = f1 i := by
                        have := hfs.out i
                        simp [IntKind.wrap, IntKind.bits, IntKind.signed]
                        omega
                      have gY := (Since.refl wx).alloc (.cells #[.int .u8 (f1 i)] 5)
                      have BY := BF.since gY
                      have hsrc : (wx.alloc (.cells #[.int .u8 (f1 i)] 5)).cell? ⟨wx.heap.size, 0, none⟩ = some (.int .u8 (f1 i)) := by simp
                      have hBsz : ob + 1 ≤ (wx.alloc (.cells #[.int .u8 (f1 i)] 5)).heap.size := by simp; omega
                      replace hsc : Hid _ := hsc
                      go_wp2_with (at_builtin; refine app_buf rfl _ _ rfl rfl BY rfl hsrc hBsz (by omega) ?_; intro gb' rc' w6 BF6 t6 hat6)
                      have P6 := (P.since gY).touch t6 (by omega)
                      have O6 := (OW.since gY).touch t6 hvg
                      have S6 : Since wb w6 := (SX.trans gY).touch t6 (by omega)
                      have hvg6 : vp.ownBlock ≠ some gb' := by
                        rcases hat6 with h | h
                        · rw [h]; exact hvg
                        · intro e
                          have := (OW.lt e).2
                          simp at h
                          omega
                      have BF7 : BufB w6 (ob + 1) gb' (rl + 1) rc' (fun j => f1 (i + 1 - (rl + 1) + j)) := BF6.congr fun j hj => by
                        by_cases e : j = rl
                        · rw [if_pos e, e, show i + 1 - (rl + 1) + rl = i by omega]
                        · rw [if_neg e, show i + 1 - (rl + 1) = i - rl by omega]
                      go_roundw
                      case rel => exact ⟨i + 1, rl + 1, gb', rc', done, todo, vp, by omega, by omega, by go_num, rfl, by omega, hsc.out, P6, O6, BF7, hvg6, S6⟩
                      case measure => simp [intOf]; omega
                    · have hdi : decide (0 ≤ f1 i) = false := decide_eq_false hpos
                      have hcr : cov rs i = false := by
                        have := hcv.out i hiW
                        rw [hdi, Bool.or_eq_false_iff] at this
                        exact this.2
                      by_cases hrl : rl = 0
                      · skip
                        subst hrl
                        have hsc := Sc.miss0 hro.out hcr
                        replace hsc : Hid _ := hsc
                        go_wp2
                        go_roundw
                        case rel => exact ⟨i + 1, 0, gb, rc3, done, todo, vp, by omega, by omega, by go_num, rfl, by omega, hsc.out, P, OW, BF.congr (fun j hj => by omega), hvg, SX⟩
                        case measure => simp [intOf]; omega
                      · skip
                        obtain ⟨s', t', hto, hs2, hs1, hs0, hsc⟩ := Sc.miss hro.out hcr (by omega)
                        have hprt : prtOf q f1 s' = ((q + ((i - rl : Nat) : Int)) % 4294967296, textOf (fun j => f1 (i - rl + j)) rl) := by
                          unfold prtOf
                          rw [show s'.1.toNat = i - rl by omega, show (s'.2 - s'.1).toNat = rl by omega, show s'.1 = ((i - rl : Nat) : Int) by omega]
                        have hcv2 := bytesBack (fun j => f1 (i - rl + j)) rl rc3 gb wx BF.cell
                        generalize htx : textOf (fun j => f1 (i - rl + j)) rl = tx at hcv2 hprt
                        have hrl0 : (0 : Int) < (rl : Int) := by omega
                        have hsubi : (i : Int) - (rl : Int) = ((i - rl : Nat) : Int) := by omega
                        have hw32 : IntKind.u32.wrap ((i - rl : Nat) : Int) = ((i - rl : Nat) : Int) := by simp [IntKind.wrap, IntKind.bits, IntKind.signed]; omega
                        have hw33 : IntKind.u32.wrap (q + ((i - rl : Nat) : Int)) = (q + ((i - rl : Nat) : Int)) % 4294967296 := by simp [IntKind.wrap, IntKind.bits, IntKind.signed]
                        obtain ⟨va, vc, rfl, hvn, hvs⟩ := OW.form
                        have p2 := P.cell 2
                        simp at p2
                        replace hsc : Hid _ := hsc
                        replace hprt : Hid _ := hprt
                        generalize hir : i - rl = ir at *
                        have gY := (Since.refl wx).alloc (.cells #[.int .u32 ((q + (ir : Int)) % 4294967296), .string tx] 68)
                        have OY := OW.since gY
                        have RY := Rd.one (S := shP) wx ((q + (ir : Int)) % 4294967296, tx) 68 wx.heap.size rfl
                        have hOsz : ob + 1 ≤ (wx.alloc (.cells #[.int .u32 ((q + (ir : Int)) % 4294967296), .string tx] 68)).heap.size := by simp; omega
                        go_wp2_with (at_builtin; refine app_own (v := .slice va done.length vc) laidP rfl _ _ rfl rfl OY rfl RY (by omega) (by unfold maxLen; omega) (by omega) hOsz _ rfl ?_; intro g6 c6 w6 T6 hg6 hat6; have P6 : Blk ob w6 _ := blk_grown (P.since gY) hg6 (fun e => by have := (OW.lt e).1; omega); have p26 := P6.cell 2; simp at p26; have z26 := P6.fz 2)
                        have hgl6 := T6.low'
                        have P7 := P6.put 2 (.slice (some ⟨g6, 0, none⟩) (done.length + 1) c6) (by simp)
                        have T7 := T6.other (show g6 ≠ ob by omega) 2 (.slice (some ⟨g6, 0, none⟩) (done.length + 1) c6)
                        have S7 : Since wb _ := since_put1 (since_grown (SX.trans gY) hg6 (fun j e => by have := (OW.lt e).1; omega)) (show wb.heap.size ≤ ob by omega) 2 (.slice (some ⟨g6, 0, none⟩) (done.length + 1) c6)
                        have hgh7 := T7.lt
                        have gE := (Since.refl (w6.setCell ⟨ob, 2, none⟩ (.slice (some ⟨g6, 0, none⟩) (done.length + 1) c6))).alloc (.cells #[] 5)
                        have P8 := P7.since gE
                        have T8 := T7.since gE
                        have BE := BufB.empty (w6.setCell ⟨ob, 2, none⟩ (.slice (some ⟨g6, 0, none⟩) (done.length + 1) c6))
                        have hsz7 : (w6.setCell ⟨ob, 2, none⟩ (.slice (some ⟨g6, 0, none⟩) (done.length + 1) c6)).heap.size = w6.heap.size := by simp [World.setCell]
                        rw [hsz7] at BE hgh7
                        refine ⟨⟨i + 1, 0, w6.heap.size, 0, done ++ [s'], t', .slice (some ⟨g6, 0, none⟩) (done.length + 1) c6, by omega, by omega, by go_num, rfl, by omega, hsc.out, by simpa using P8, ?_, (BE.low (by omega)).congr (fun j hj => by omega), ?_, S7.trans gE⟩, ?_⟩
                        · rw [List.map_append, List.map_singleton, hprt.out, List.length_append, List.length_singleton]
                          exact T8
                        · simp [Value.ownBlock]
                          omega
                        · simp [intOf]; omega
                  · have hiW' : ¬ (i : Int) < (W : Int) := by omega
                    have hcr : cov rs i = false := by
                      cases hh : cov rs i
                      · rfl
                      · have := cov_low rs ns W i hro.out hh
                        omega
                    by_cases hrl : rl = 0
                    · skip
                      subst hrl
                      have hsc := Sc.miss0 hro.out hcr
                      replace hsc : Hid _ := hsc
                      go_wp2
                      go_roundw
                      case rel => exact ⟨i + 1, 0, gb, rc3, done, todo, vp, by omega, by omega, by go_num, rfl, by omega, hsc.out, P, OW, BF.congr (fun j hj => by omega), hvg, SX⟩
                      case measure => simp [intOf]; omega
                    · skip
                      obtain ⟨s', t', hto, hs2, hs1, hs0, hsc⟩ := Sc.miss hro.out hcr (by omega)
                      have hprt : prtOf q f1 s' = ((q + ((i - rl : Nat) : Int)) % 4294967296, textOf (fun j => f1 (i - rl + j)) rl) := by
                        unfold prtOf
                        rw [show s'.1.toNat = i - rl by omega, show (s'.2 - s'.1).toNat = rl by omega, show s'.1 = ((i - rl : Nat) : Int) by omega]
                      have hcv2 := bytesBack (fun j => f1 (i - rl + j)) rl rc3 gb wx BF.cell
                      generalize htx : textOf (fun j => f1 (i - rl + j)) rl = tx at hcv2 hprt
                      have hrl0 : (0 : Int) < (rl : Int) := by omega
                      have hsubi : (i : Int) - (rl : Int) = ((i - rl : Nat) : Int) := by omega
                      have hw32 : IntKind.u32.wrap ((i - rl : Nat) : Int) = ((i - rl : Nat) : Int) := by simp [IntKind.wrap, IntKind.bits, IntKind.signed]; omega
                      have hw33 : IntKind.u32.wrap (q + ((i - rl : Nat) : Int)) = (q + ((i - rl : Nat) : Int)) % 4294967296 := by simp [IntKind.wrap, IntKind.bits, IntKind.signed]
                      obtain ⟨va, vc, rfl, hvn, hvs⟩ := OW.form
                      have p2 := P.cell 2
                      simp at p2
                      replace hsc : Hid _ := hsc
                      replace hprt : Hid _ := hprt
                      generalize hir : i - rl = ir at *
                      have gY := (Since.refl wx).alloc (.cells #[.int .u32 ((q + (ir : Int)) % 4294967296), .string tx] 68)
                      have OY := OW.since gY
                      have RY := Rd.one (S := shP) wx ((q + (ir : Int)) % 4294967296, tx) 68 wx.heap.size rfl
                      have hOsz : ob + 1 ≤ (wx.alloc (.cells #[.int .u32 ((q + (ir : Int)) % 4294967296), .string tx] 68)).heap.size := by simp; omega
                      go_wp2_with (at_builtin; refine app_own (v := .slice va done.length vc) laidP rfl _ _ rfl rfl OY rfl RY (by omega) (by unfold maxLen; omega) (by omega) hOsz _ rfl ?_; intro g6 c6 w6 T6 hg6 hat6; have P6 : Blk ob w6 _ := blk_grown (P.since gY) hg6 (fun e => by have := (OW.lt e).1; omega); have p26 := P6.cell 2; simp at p26; have z26 := P6.fz 2)
                      have hgl6 := T6.low'
                      have P7 := P6.put 2 (.slice (some ⟨g6, 0, none⟩) (done.length + 1) c6) (by simp)
                      have T7 := T6.other (show g6 ≠ ob by omega) 2 (.slice (some ⟨g6, 0, none⟩) (done.length + 1) c6)
                      have S7 : Since wb _ := since_put1 (since_grown (SX.trans gY) hg6 (fun j e => by have := (OW.lt e).1; omega)) (show wb.heap.size ≤ ob by omega) 2 (.slice (some ⟨g6, 0, none⟩) (done.length + 1) c6)
                      have hgh7 := T7.lt
                      have gE := (Since.refl (w6.setCell ⟨ob, 2, none⟩ (.slice (some ⟨g6, 0, none⟩) (done.length + 1) c6))).alloc (.cells #[] 5)
                      have P8 := P7.since gE
                      have T8 := T7.since gE
                      have BE := BufB.empty (w6.setCell ⟨ob, 2, none⟩ (.slice (some ⟨g6, 0, none⟩) (done.length + 1) c6))
                      have hsz7 : (w6.setCell ⟨ob, 2, none⟩ (.slice (some ⟨g6, 0, none⟩) (done.length + 1) c6)).heap.size = w6.heap.size := by simp [World.setCell]
                      rw [hsz7] at BE hgh7
                      refine ⟨⟨i + 1, 0, w6.heap.size, 0, done ++ [s'], t', .slice (some ⟨g6, 0, none⟩) (done.length + 1) c6, by omega, by omega, by go_num, rfl, by omega, hsc.out, by simpa using P8, ?_, (BE.low (by omega)).congr (fun j hj => by omega), ?_, S7.trans gE⟩, ?_⟩
                      · rw [List.map_append, List.map_singleton, hprt.out, List.length_append, List.length_singleton]
                        exact T8
                      · simp [Value.ownBlock]
                        omega
                      · simp [intOf]; omega
                · have hiE : i = W + 1 := by omega
                  have hto := Sc.over hro.out (by omega)
                  have hdn := Sc.split
                  rw [hto, List.append_nil] at hdn
                  have hnle : ¬ (i : Int) ≤ (W : Int) := by omega
                  have hS5 := S5.le
                  have BX := B3.since SX
                  obtain ⟨va, vc, rfl, hvn, hvs⟩ := OW.form
                  have b0 := BX.cell 0
                  have b1 := BX.cell 1
                  have b2 := BX.cell 2
                  have b3 := BX.cell 3
                  have p0 := P.cell 0
                  have p1 := P.cell 1
                  have p2 := P.cell 2
                  have p3 := P.cell 3
                  simp at b0 b1 b2 b3 p0 p1 p2 p3
                  have z0 := BX.fz 0
                  have z1 := BX.fz 1
                  have z2 := BX.fz 2
                  have z3 := BX.fz 3
                  have B4 := (((BX.put 0 (.int .u32 ((q + (ns : Int)) % 4294967296)) (by simp)).put 1 (.string D) (by simp)).put 2 (.slice va done.length vc) (by simp)).put 3 (.int .i64 r) (by simp)
                  have k0 := B4.cell 0
                  have k1 := B4.cell 1
                  have k2 := B4.cell 2
                  have k3 := B4.cell 3
                  simp at k0 k1 k2 k3
                  have hlow : ∀ x, va = some x → ob + 1 ≤ x.block ∧ x.block < wx.heap.size := fun x hx => OW.lt (by rw [(hvs x hx).2])
                  clear hto hiE
                  go_wp2
                  refine bodyPost_ret (v := .tuple #[.agg #[.int .u32 ((q + (ns : Int)) % 4294967296), .string D, .slice va done.length vc, .int .i64 r], .int .i64 (cnt (newP c0 at' s.size) W : Int)]) ?_ rfl ⟨va, done.length, vc, by rw [eQ.out, eD.out, eM.out], ?_, fun x hx => ?_, fun h => (hvn h).2, ?_⟩
                  · simp [results, go_sem, k0, k1, k2, k3]
                  · rw [eL.out, hdn]
                    exact (Own.touch OW (((((Touch.refl _ _).put _ _).put _ _).put _ _).put _ _) (fun e => by have := OW.lt e; omega)).low (by omega)
                  · have := hlow x hx
                    exact ⟨by omega, by simpa [World.setCell] using this.2⟩
                  · exact since_put1 (since_put1 (since_put1 (since_put1 (G3.trans SX) (by omega) _ _) (by omega) _ _) (by omega) _ _) (by omega) _ _
            · have hkW' : ¬ (ns : Int) < (W : Int) := by omega
              have A3 := A2.since S5
              have B3 := B2.since S5
              have G3 := G2.trans S5
              have T5 := T3.since S5
              have hD : textOf (fun i => if i < d.size then byteAt d i else f1 (i - d.size)) (d.size + ns) = d ++ textOf f1 ns := by
                refine textOf_join _ _ _ _ (by rw [textOf_size]) (fun i hi => if_pos hi) (fun i hi => ?_)
                rw [textOf_size] at hi
                rw [if_neg (by omega), show d.size + i - d.size = i by omega]
                exact (byteAt_textOf f1 ns i hi ⟨hpos2 i hi, hfs.out i⟩).symm
              have hcv2 := bytesBack (fun i => if i < d.size then byteAt d i else f1 (i - d.size)) (d.size + ns) rc gr wr5 BF.cell
              rw [hD] at hcv2
              obtain ⟨D, hDD⟩ : ∃ D, Hid (d ++ textOf f1 ns = D) := ⟨_, rfl⟩
              rw [hDD.out] at hcv2 eD
              have q0 := A3.cell 0
              have q3 := A3.cell 3
              simp at q0 q3
              have hw32 : IntKind.u32.wrap ((ns : Nat) : Int) = (ns : Int) := by simp [IntKind.wrap, IntKind.bits, IntKind.signed]; omega
              have hw33 : IntKind.u32.wrap (q + ((ns : Nat) : Int)) = (q + (ns : Int)) % 4294967296 := by simp [IntKind.wrap, IntKind.bits, IntKind.signed]
              obtain ⟨wb, hwb⟩ : ∃ wb, wb = wr5 := ⟨_, rfl⟩
              have P0 := (Blk.new wr5 #[.int .u32 ((q + (ns : Int)) % 4294967296), .string D, .slice none 0 0, .int .i64 r] 31).since ((Since.refl _).alloc (.cells #[] 5))
              have gB : Since wr5 ((wr5.alloc (.cells #[.int .u32 ((q + (ns : Int)) % 4294967296), .string D, .slice none 0 0, .int .i64 r] 31)).alloc (.cells #[] 5)) := ((Since.refl _).alloc _).alloc _
              have BF0 : BufB ((wr5.alloc (.cells #[.int .u32 ((q + (ns : Int)) % 4294967296), .string D, .slice none 0 0, .int .i64 r] 31)).alloc (.cells #[] 5)) (wr5.heap.size + 1) (wr5.heap.size + 1) 0 0 (fun j => f1 (ns - 0 + j)) := by
                have h := BufB.empty (wr5.alloc (.cells #[.int .u32 ((q + (ns : Int)) % 4294967296), .string D, .slice none 0 0, .int .i64 r] 31))
                rw [World.size_alloc] at h
                exact h.congr fun j hj => by omega
              have O0 : Own shP ((wr5.alloc (.cells #[.int .u32 ((q + (ns : Int)) % 4294967296), .string D, .slice none 0 0, .int .i64 r] 31)).alloc (.cells #[] 5)) (wr5.heap.size + 1) (.slice none 0 0) 0 [] := Own.nil _ _
              obtain ⟨ob, hob⟩ : ∃ ob, wr5.heap.size = ob := ⟨_, rfl⟩
              rw [hob] at P0 BF0 O0
              clear hD hpos2
              go_wp2
              try rw [hob]
              subst hwb
              go_loopw [15, 16] (fun v ix wx => ∃ (i rl gb rc3 : Nat) (done todo : List (Int × Int)) (vp : Value), ns ≤ i ∧ i ≤ W + 1 ∧ ix = .int .i64 i ∧ v = .slice (some ⟨gb, 0, none⟩) rl rc3 ∧ rl ≤ i ∧ Scan rs W i rl done todo ∧ Blk ob wx #[.int .u32 ((q + (ns : Int)) % 4294967296), .string D, vp, .int .i64 r] ∧ Own shP wx (ob + 1) vp done.length (done.map (prtOf q f1)) ∧ BufB wx (ob + 1) gb rl rc3 (fun j => f1 (i - rl + j)) ∧ vp.ownBlock ≠ some gb ∧ Since wb wx) (fun _ ix _ => W + 1 - (intOf ix).toNat)
              case atStart => exact ⟨ns, 0, ob + 1, 0, [], rs, .slice none 0 0, by omega, by omega, rfl, rfl, by omega, ⟨rfl, fun x hx => (by cases hx), .inl ⟨rfl, fun s t e => by have := (okB_mem rs ns W hro.out s (by rw [e]; simp)).1; omega⟩⟩, P0, O0, BF0, by simp [Value.ownBlock], gB⟩
              case round =>
                obtain ⟨wx, hwx⟩ : ∃ wx, wx = wr := ⟨_, rfl⟩
                subst hwx
                obtain ⟨i, rl, gb, rc3, done, todo, vp, hni, hiW1, rfl, rfl, hrli, Sc, P, OW, BF, hvg, SX⟩ := hrel
                have hPl := P.lt
                have hBlo := BF.lo
                clear P0 gB BF0 O0 hconv q0 q3 hcv2
                have TX := T5.since SX
                have hdl : done.length ≤ 4096 := by
                  have h1 := okB_many rs ns W hro.out (by omega)
                  rw [Sc.split, List.length_append] at h1
                  omega
                by_cases hle : i ≤ W
                · have hle' : (i : Int) ≤ (W : Int) := by omega
                  have a0x := (A3.since SX).cell 0
                  simp at a0x
                  by_cases hiW : i < W
                  · exact absurd hiW (by omega)
                  · have hiW' : ¬ (i : Int) < (W : Int) := by omega
                    have hcr : cov rs i = false := by
                      cases hh : cov rs i
                      · rfl
                      · have := cov_low rs ns W i hro.out hh
                        omega
                    by_cases hrl : rl = 0
                    · skip
                      subst hrl
                      have hsc := Sc.miss0 hro.out hcr
                      replace hsc : Hid _ := hsc
                      go_wp2
                      go_roundw
                      case rel => exact ⟨i + 1, 0, gb, rc3, done, todo, vp, by omega, by omega, by go_num, rfl, by omega, hsc.out, P, OW, BF.congr (fun j hj => by omega), hvg, SX⟩
                      case measure => simp [intOf]; omega
                    · skip
                      obtain ⟨s', t', hto, hs2, hs1, hs0, hsc⟩ := Sc.miss hro.out hcr (by omega)
                      have hprt : prtOf q f1 s' = ((q + ((i - rl : Nat) : Int)) % 4294967296, textOf (fun j => f1 (i - rl + j)) rl) := by
                        unfold prtOf
                        rw [show s'.1.toNat = i - rl by omega, show (s'.2 - s'.1).toNat = rl by omega, show s'.1 = ((i - rl : Nat) : Int) by omega]
                      have hcv2 := bytesBack (fun j => f1 (i - rl + j)) rl rc3 gb wx BF.cell
                      generalize htx : textOf (fun j => f1 (i - rl + j)) rl = tx at hcv2 hprt
                      have hrl0 : (0 : Int) < (rl : Int) := by omega
                      have hsubi : (i : Int) - (rl : Int) = ((i - rl : Nat) : Int) := by omega
                      have hw32 : IntKind.u32.wrap ((i - rl : Nat) : Int) = ((i - rl : Nat) : Int) := by simp [IntKind.wrap, IntKind.bits, IntKind.signed]; omega
                      have hw33 : IntKind.u32.wrap (q + ((i - rl : Nat) : Int)) = (q + ((i - rl : Nat) : Int)) % 4294967296 := by simp [IntKind.wrap, IntKind.bits, IntKind.signed]
                      obtain ⟨va, vc, rfl, hvn, hvs⟩ := OW.form
                      have p2 := P.cell 2
                      simp at p2
                      replace hsc : Hid _ := hsc
                      replace hprt : Hid _ := hprt
                      generalize hir : i - rl = ir at *
                      have gY := (Since.refl wx).alloc (.cells #[.int .u32 ((q + (ir : Int)) % 4294967296), .string tx] 68)
                      have OY := OW.since gY
                      have RY := Rd.one (S := shP) wx ((q + (ir : Int)) % 4294967296, tx) 68 wx.heap.size rfl
                      have hOsz : ob + 1 ≤ (wx.alloc (.cells #[.int .u32 ((q + (ir : Int)) % 4294967296), .string tx] 68)).heap.size := by simp; omega
                      go_wp2_with (at_builtin; refine app_own (v := .slice va done.length vc) laidP rfl _ _ rfl rfl OY rfl RY (by omega) (by unfold maxLen; omega) (by omega) hOsz _ rfl ?_; intro g6 c6 w6 T6 hg6 hat6; have P6 : Blk ob w6 _ := blk_grown (P.since gY) hg6 (fun e => by have := (OW.lt e).1; omega); have p26 := P6.cell 2; simp at p26; have z26 := P6.fz 2)
                      have hgl6 := T6.low'
                      have P7 := P6.put 2 (.slice (some ⟨g6, 0, none⟩) (done.length + 1) c6) (by simp)
                      have T7 := T6.other (show g6 ≠ ob by omega) 2 (.slice (some ⟨g6, 0, none⟩) (done.length + 1) c6)
                      have S7 : Since wb _ := since_put1 (since_grown (SX.trans gY) hg6 (fun j e => by have := (OW.lt e).1; omega)) (show wb.heap.size ≤ ob by omega) 2 (.slice (some ⟨g6, 0, none⟩) (done.length + 1) c6)
                      have hgh7 := T7.lt
                      have gE := (Since.refl (w6.setCell ⟨ob, 2, none⟩ (.slice (some ⟨g6, 0, none⟩) (done.length + 1) c6))).alloc (.cells #[] 5)
                      have P8 := P7.since gE
                      have T8 := T7.since gE
                      have BE := BufB.empty (w6.setCell ⟨ob, 2, none⟩ (.slice (some ⟨g6, 0, none⟩) (done.length + 1) c6))
                      have hsz7 : (w6.setCell ⟨ob, 2, none⟩ (.slice (some ⟨g6, 0, none⟩) (done.length + 1) c6)).heap.size = w6.heap.size := by simp [World.setCell]
                      rw [hsz7] at BE hgh7
                      refine ⟨⟨i + 1, 0, w6.heap.size, 0, done ++ [s'], t', .slice (some ⟨g6, 0, none⟩) (done.length + 1) c6, by omega, by omega, by go_num, rfl, by omega, hsc.out, by simpa using P8, ?_, (BE.low (by omega)).congr (fun j hj => by omega), ?_, S7.trans gE⟩, ?_⟩
                      · rw [List.map_append, List.map_singleton, hprt.out, List.length_append, List.length_singleton]
                        exact T8
                      · simp [Value.ownBlock]
                        omega
                      · simp [intOf]; omega
                · have hiE : i = W + 1 := by omega
                  have hto := Sc.over hro.out (by omega)
                  have hdn := Sc.split
                  rw [hto, List.append_nil] at hdn
                  have hnle : ¬ (i : Int) ≤ (W : Int) := by omega
                  have hS5 := S5.le
                  have BX := B3.since SX
                  obtain ⟨va, vc, rfl, hvn, hvs⟩ := OW.form
                  have b0 := BX.cell 0
                  have b1 := BX.cell 1
                  have b2 := BX.cell 2
                  have b3 := BX.cell 3
                  have p0 := P.cell 0
                  have p1 := P.cell 1
                  have p2 := P.cell 2
                  have p3 := P.cell 3
                  simp at b0 b1 b2 b3 p0 p1 p2 p3
                  have z0 := BX.fz 0
                  have z1 := BX.fz 1
                  have z2 := BX.fz 2
                  have z3 := BX.fz 3
                  have B4 := (((BX.put 0 (.int .u32 ((q + (ns : Int)) % 4294967296)) (by simp)).put 1 (.string D) (by simp)).put 2 (.slice va done.length vc) (by simp)).put 3 (.int .i64 r) (by simp)
                  have k0 := B4.cell 0
                  have k1 := B4.cell 1
                  have k2 := B4.cell 2
                  have k3 := B4.cell 3
                  simp at k0 k1 k2 k3
                  have hlow : ∀ x, va = some x → ob + 1 ≤ x.block ∧ x.block < wx.heap.size := fun x hx => OW.lt (by rw [(hvs x hx).2])
                  clear hto hiE
                  go_wp2
                  refine bodyPost_ret (v := .tuple #[.agg #[.int .u32 ((q + (ns : Int)) % 4294967296), .string D, .slice va done.length vc, .int .i64 r], .int .i64 (cnt (newP c0 at' s.size) W : Int)]) ?_ rfl ⟨va, done.length, vc, by rw [eQ.out, eD.out, eM.out], ?_, fun x hx => ?_, fun h => (hvn h).2, ?_⟩
                  · simp [results, go_sem, k0, k1, k2, k3]
                  · rw [eL.out, hdn]
                    exact (Own.touch OW (((((Touch.refl _ _).put _ _).put _ _).put _ _).put _ _) (fun e => by have := OW.lt e; omega)).low (by omega)
                  · have := hlow x hx
                    exact ⟨by omega, by simpa [World.setCell] using this.2⟩
                  · exact since_put1 (since_put1 (since_put1 (since_put1 (G3.trans SX) (by omega) _ _) (by omega) _ _) (by omega) _ _) (by omega) _ _
  · have eQ : Hid (pQ q d r ps at' s = q) := by unfold pQ; exact if_neg hp
    have eD : Hid (pD q d r ps at' s = d) := by unfold pD; exact if_neg hp
    have eL : Hid (pL q d r ps at' s = ps) := by unfold pL; exact if_neg hp
    have eM : Hid (pM q d r ps at' s = 0) := by unfold pM; exact if_neg hp
    unfold putOk at hp
    cases hk : inOk q d r ps
    · rw [hk] at hok1
      clear hp
      unfold inVal at *
      go_enter Try.func10, Try.ntmps10
      go_wp2_with (first | (go_at_call 36; refine (hdist _).mono ?_; rintro _ _ ⟨rfl, rfl⟩) | (go_at_call 37; refine hok1.mono ?_; rintro _ w1 ⟨rfl, g1⟩; replace A := A.since g1; replace B := B.since g1; replace G := G.trans g1; have a0 := A.cell 0; have a1 := A.cell 1; have a2 := A.cell 2; have a3 := A.cell 3; simp at a0 a1 a2 a3) | (go_at_call 38; refine (hfr _ (R.since G)).mono ?_; rintro _ w2 ⟨g, c, rfl, T, g2⟩; have hbl := B.lt; replace B := B.since g2; replace G := G.trans g2; have b0 := B.cell 0; have b1 := B.cell 1; have b2 := B.cell 2; have b3 := B.cell 3; simp at b0 b1 b2 b3; have z0 := B.fz 0; have z1 := B.fz 1; have z2 := B.fz 2; have z3 := B.fz 3))
      have hgl := T.low'
      have hgh := T.lt
      have hB1 := B.lt
      have B4 := (((B.put 0 (.int .u32 q) (by simp)).put 1 (.string d) (by simp)).put 2 (.slice (some ⟨g, 0, none⟩) n c) (by simp)).put 3 (.int .i64 r) (by simp)
      have k0 := B4.cell 0
      have k1 := B4.cell 1
      have k2 := B4.cell 2
      have k3 := B4.cell 3
      simp at k0 k1 k2 k3
      have T4 := (((T.other (show g ≠ w.heap.size + 1 by omega) 0 (.int .u32 q)).other (show g ≠ w.heap.size + 1 by omega) 1 (.string d)).other (show g ≠ w.heap.size + 1 by omega) 2 (.slice (some ⟨g, 0, none⟩) n c)).other (show g ≠ w.heap.size + 1 by omega) 3 (.int .i64 r)
      refine bodyPost_ret (v := .tuple #[.agg #[.int .u32 q, .string d, .slice (some ⟨g, 0, none⟩) n c, .int .i64 r], .int .i64 0]) ?_ rfl ⟨some ⟨g, 0, none⟩, n, c, by rw [eQ.out, eD.out, eM.out], ?_, fun x hx => ?_, (fun h => by cases h), ?_⟩
      · simp [results, go_sem, k0, k1, k2, k3]
      · rw [eL.out]
        exact T4.raise (by omega)
      · cases hx
        exact ⟨by show w.heap.size ≤ g; omega, T4.lt⟩
      · exact since_put1 (since_put1 (since_put1 (since_put1 G (by omega) _ _) (by omega) _ _) (by omega) _ _) (by omega) _ _
    · rw [hk] at hok1 hp
      by_cases c1 : (536 : Int) < (s.size : Int)
      · have hd1 : decide ((536 : Int) < (s.size : Int)) = true := decide_eq_true c1
        clear hp
        unfold inVal at *
        go_enter Try.func10, Try.ntmps10
        go_wp2_with (first | (go_at_call 36; refine (hdist _).mono ?_; rintro _ _ ⟨rfl, rfl⟩) | (go_at_call 37; refine hok1.mono ?_; rintro _ w1 ⟨rfl, g1⟩; replace A := A.since g1; replace B := B.since g1; replace G := G.trans g1; have a0 := A.cell 0; have a1 := A.cell 1; have a2 := A.cell 2; have a3 := A.cell 3; simp at a0 a1 a2 a3) | (go_at_call 38; refine (hfr _ (R.since G)).mono ?_; rintro _ w2 ⟨g, c, rfl, T, g2⟩; have hbl := B.lt; replace B := B.since g2; replace G := G.trans g2; have b0 := B.cell 0; have b1 := B.cell 1; have b2 := B.cell 2; have b3 := B.cell 3; simp at b0 b1 b2 b3; have z0 := B.fz 0; have z1 := B.fz 1; have z2 := B.fz 2; have z3 := B.fz 3))
        have hgl := T.low'
        have hgh := T.lt
        have hB1 := B.lt
        have B4 := (((B.put 0 (.int .u32 q) (by simp)).put 1 (.string d) (by simp)).put 2 (.slice (some ⟨g, 0, none⟩) n c) (by simp)).put 3 (.int .i64 r) (by simp)
        have k0 := B4.cell 0
        have k1 := B4.cell 1
        have k2 := B4.cell 2
        have k3 := B4.cell 3
        simp at k0 k1 k2 k3
        have T4 := (((T.other (show g ≠ w.heap.size + 1 by omega) 0 (.int .u32 q)).other (show g ≠ w.heap.size + 1 by omega) 1 (.string d)).other (show g ≠ w.heap.size + 1 by omega) 2 (.slice (some ⟨g, 0, none⟩) n c)).other (show g ≠ w.heap.size + 1 by omega) 3 (.int .i64 r)
        refine bodyPost_ret (v := .tuple #[.agg #[.int .u32 q, .string d, .slice (some ⟨g, 0, none⟩) n c, .int .i64 r], .int .i64 0]) ?_ rfl ⟨some ⟨g, 0, none⟩, n, c, by rw [eQ.out, eD.out, eM.out], ?_, fun x hx => ?_, (fun h => by cases h), ?_⟩
        · simp [results, go_sem, k0, k1, k2, k3]
        · rw [eL.out]
          exact T4.raise (by omega)
        · cases hx
          exact ⟨by show w.heap.size ≤ g; omega, T4.lt⟩
        · exact since_put1 (since_put1 (since_put1 (since_put1 G (by omega) _ _) (by omega) _ _) (by omega) _ _) (by omega) _ _
      · have hd1 : decide ((536 : Int) < (s.size : Int)) = false := decide_eq_false c1
        by_cases c2 : (4096 : Int) ≤ at'
        · have hd2 : decide ((4096 : Int) ≤ at') = true := decide_eq_true c2
          clear hp
          unfold inVal at *
          go_enter Try.func10, Try.ntmps10
          go_wp2_with (first | (go_at_call 36; refine (hdist _).mono ?_; rintro _ _ ⟨rfl, rfl⟩) | (go_at_call 37; refine hok1.mono ?_; rintro _ w1 ⟨rfl, g1⟩; replace A := A.since g1; replace B := B.since g1; replace G := G.trans g1; have a0 := A.cell 0; have a1 := A.cell 1; have a2 := A.cell 2; have a3 := A.cell 3; simp at a0 a1 a2 a3) | (go_at_call 38; refine (hfr _ (R.since G)).mono ?_; rintro _ w2 ⟨g, c, rfl, T, g2⟩; have hbl := B.lt; replace B := B.since g2; replace G := G.trans g2; have b0 := B.cell 0; have b1 := B.cell 1; have b2 := B.cell 2; have b3 := B.cell 3; simp at b0 b1 b2 b3; have z0 := B.fz 0; have z1 := B.fz 1; have z2 := B.fz 2; have z3 := B.fz 3))
          have hgl := T.low'
          have hgh := T.lt
          have hB1 := B.lt
          have B4 := (((B.put 0 (.int .u32 q) (by simp)).put 1 (.string d) (by simp)).put 2 (.slice (some ⟨g, 0, none⟩) n c) (by simp)).put 3 (.int .i64 r) (by simp)
          have k0 := B4.cell 0
          have k1 := B4.cell 1
          have k2 := B4.cell 2
          have k3 := B4.cell 3
          simp at k0 k1 k2 k3
          have T4 := (((T.other (show g ≠ w.heap.size + 1 by omega) 0 (.int .u32 q)).other (show g ≠ w.heap.size + 1 by omega) 1 (.string d)).other (show g ≠ w.heap.size + 1 by omega) 2 (.slice (some ⟨g, 0, none⟩) n c)).other (show g ≠ w.heap.size + 1 by omega) 3 (.int .i64 r)
          refine bodyPost_ret (v := .tuple #[.agg #[.int .u32 q, .string d, .slice (some ⟨g, 0, none⟩) n c, .int .i64 r], .int .i64 0]) ?_ rfl ⟨some ⟨g, 0, none⟩, n, c, by rw [eQ.out, eD.out, eM.out], ?_, fun x hx => ?_, (fun h => by cases h), ?_⟩
          · simp [results, go_sem, k0, k1, k2, k3]
          · rw [eL.out]
            exact T4.raise (by omega)
          · cases hx
            exact ⟨by show w.heap.size ≤ g; omega, T4.lt⟩
          · exact since_put1 (since_put1 (since_put1 (since_put1 G (by omega) _ _) (by omega) _ _) (by omega) _ _) (by omega) _ _
        · have hd2 : decide ((4096 : Int) ≤ at') = false := decide_eq_false c2
          have hd3 : decide (at' ≤ -100000) = true := decide_eq_true (by
            have : ¬ -99999 ≤ at' := fun h => hp ⟨rfl, by omega, h, by omega⟩
            omega)
          clear hp
          unfold inVal at *
          go_enter Try.func10, Try.ntmps10
          go_wp2_with (first | (go_at_call 36; refine (hdist _).mono ?_; rintro _ _ ⟨rfl, rfl⟩) | (go_at_call 37; refine hok1.mono ?_; rintro _ w1 ⟨rfl, g1⟩; replace A := A.since g1; replace B := B.since g1; replace G := G.trans g1; have a0 := A.cell 0; have a1 := A.cell 1; have a2 := A.cell 2; have a3 := A.cell 3; simp at a0 a1 a2 a3) | (go_at_call 38; refine (hfr _ (R.since G)).mono ?_; rintro _ w2 ⟨g, c, rfl, T, g2⟩; have hbl := B.lt; replace B := B.since g2; replace G := G.trans g2; have b0 := B.cell 0; have b1 := B.cell 1; have b2 := B.cell 2; have b3 := B.cell 3; simp at b0 b1 b2 b3; have z0 := B.fz 0; have z1 := B.fz 1; have z2 := B.fz 2; have z3 := B.fz 3))
          have hgl := T.low'
          have hgh := T.lt
          have hB1 := B.lt
          have B4 := (((B.put 0 (.int .u32 q) (by simp)).put 1 (.string d) (by simp)).put 2 (.slice (some ⟨g, 0, none⟩) n c) (by simp)).put 3 (.int .i64 r) (by simp)
          have k0 := B4.cell 0
          have k1 := B4.cell 1
          have k2 := B4.cell 2
          have k3 := B4.cell 3
          simp at k0 k1 k2 k3
          have T4 := (((T.other (show g ≠ w.heap.size + 1 by omega) 0 (.int .u32 q)).other (show g ≠ w.heap.size + 1 by omega) 1 (.string d)).other (show g ≠ w.heap.size + 1 by omega) 2 (.slice (some ⟨g, 0, none⟩) n c)).other (show g ≠ w.heap.size + 1 by omega) 3 (.int .i64 r)
          refine bodyPost_ret (v := .tuple #[.agg #[.int .u32 q, .string d, .slice (some ⟨g, 0, none⟩) n c, .int .i64 r], .int .i64 0]) ?_ rfl ⟨some ⟨g, 0, none⟩, n, c, by rw [eQ.out, eD.out, eM.out], ?_, fun x hx => ?_, (fun h => by cases h), ?_⟩
          · simp [results, go_sem, k0, k1, k2, k3]
          · rw [eL.out]
            exact T4.raise (by omega)
          · cases hx
            exact ⟨by show w.heap.size ≤ g; omega, T4.lt⟩
          · exact since_put1 (since_put1 (since_put1 (since_put1 G (by omega) _ _) (by omega) _ _) (by omega) _ _) (by omega) _ _
end Go.Proofs.Ytmgaikpninblgaa
