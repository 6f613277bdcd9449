/-
  Contract of spec's PutSeg, at every segment.
-/
import Derived.Test.YtigjppamjfnmcaaPutSegI
import Derived.Test.YtigjppamjfnmcaaM4
import Derived.Test.YtigjppamjfnmcaaBytes
namespace Go.Proofs.Ytigjppamjfnmcaa
open Go.ChangeShapes Go.WideShapes Go.ChangeAt Go.RowKit
set_option linter.unusedVariables false
set_option maxRecDepth 10000

set_option maxRecDepth 10000 in
theorem two_form (fl : Int) (h : 0 ≤ fl ∧ fl ≤ 31) : strOfNums [80, fl] = two (20480 + fl) ∧ strOfNums [96, fl] = two (24576 + fl) := by
  have e1 : (20480 + fl) / 256 % 256 = 80 := by omega
  have e2 : (20480 + fl) % 256 = fl := by omega
  have e3 : (24576 + fl) / 256 % 256 = 96 := by omega
  have e4 : (24576 + fl) % 256 = fl := by omega
  unfold two
  rw [e1, e2, e3, e4]
  exact ⟨rfl, rfl⟩

set_option maxRecDepth 10000 in
theorem two_head : strOfNums [2, 4] = two 516 := rfl

set_option maxHeartbeats 4000000 in
set_option maxRecDepth 10000 in
theorem specPutSeg (src dst : Int) (fr to sq ak fl wn ms : Int) (d : ByteArray) (hs : IsWord src) (hd : IsWord dst) (hsq : IsWord sq) (hak : IsWord ak) (hf : IsInt fl) (w : World) :
    Calls Try.prog 17 #[.int .u32 src, .int .u32 dst, segVal fr to sq ak fl wn ms d] w fun e w' => e = .returned (.string (putSeg src dst fr to sq ak fl wn ms d)) ∧ Since w w' := by
  have hok := fun wx => specSegOk fr to sq ak fl wn ms d hf wx
  have hn : ∀ (x : Bool) (w : World), (Op.unary .not (.bool x)).run Try.prog w = .ok (.bool (!x)) w := fun _ _ => rfl
  unfold segVal at hok ⊢
  have G := Since.refl (w.alloc (.cells #[.int .i64 fr, .int .i64 to, .int .u32 sq, .int .u32 ak, .int .i64 fl, .int .i64 wn, .int .i64 ms, .string d] 28))
  by_cases h : segOk fr to fl wn ms d = true
  case neg =>
    rw [putSeg, if_neg h]
    rw [show segOk fr to fl wn ms d = false by simpa using h] at hok
    clear h
    go_enter Try.func17, Try.ntmps17
    go_wp2_with (first | (go_at_call 33; refine (hok _).mono ?_; rintro _ w1 ⟨rfl, g1⟩; replace G := Since.trans G g1))
    go_ret
    exact ⟨rfl, ((Since.refl _).alloc _).trans G⟩
  rw [putSeg, if_pos h]
  rw [h] at hok
  simp only [segOk, Bool.and_eq_true, decide_eq_true_eq] at h
  obtain ⟨⟨f0, f1⟩, ⟨o0, o1⟩, ⟨l0, l1⟩, ⟨n0, n1⟩, hm, hz⟩ := h
  have hform := two_form fl ⟨l0, l1⟩
  have m8 : IntKind.u8.wrap fl = fl := by rw [IntKind.wrap_u8]; omega
  have hqw : ∀ n x, IsWord n → Calls Try.prog 35 #[.int .u32 n] x fun e w' => e = .returned (.string (wordT n)) ∧ Since x w' := fun n x hn => (specPutWord n hn.1 hn.2 x).mono fun _ _ ⟨h1, h2⟩ => ⟨h1, Since.of h2⟩
  by_cases h0 : ms = 0
  · subst h0
    clear hm
    have hform := hform.1
    have eF : segForm 0 = 20480 := by rfl
    have eO : segBehind 0 d = two 0 ++ ⟨#[]⟩ ++ d := by rfl
    rw [eF, eO]
    clear eF eO
    go_enter Try.func17, Try.ntmps17
    go_wp2_with (first | (go_at_call 33; refine (hok _).mono ?_; rintro _ w1 ⟨rfl, g1⟩; replace G := Since.trans G g1; obtain ⟨C0, C1, C2, C3, C4, C5, C6, C7⟩ := kept8 G))
    clear hok C0 C1 C2 C3 C4 C5 C6 C7
    obtain ⟨wb, hwb⟩ : ∃ wb, w.alloc (.cells #[.int .i64 fr, .int .i64 to, .int .u32 sq, .int .u32 ak, .int .i64 fl, .int .i64 wn, .int .i64 0, .string d] 28) = wb := ⟨_, rfl⟩
    have HB : Since w wb := by rw [← hwb]; exact (Since.refl _).alloc _
    have hk : ∀ x, Since wb x → Since (w.alloc (.cells #[.int .i64 fr, .int .i64 to, .int .u32 sq, .int .u32 ak, .int .i64 fl, .int .i64 wn, .int .i64 0, .string d] 28)) x := fun x h => by rw [hwb]; exact h
    rw [hwb] at G
    clear hwb
    have C : ∀ x, Since wb x → x.cell? ⟨w.heap.size, 0, none⟩ = some (.int .i64 fr) ∧ x.cell? ⟨w.heap.size, 1, none⟩ = some (.int .i64 to) ∧ x.cell? ⟨w.heap.size, 2, none⟩ = some (.int .u32 sq) ∧ x.cell? ⟨w.heap.size, 3, none⟩ = some (.int .u32 ak) ∧ x.cell? ⟨w.heap.size, 4, none⟩ = some (.int .i64 fl) ∧ x.cell? ⟨w.heap.size, 5, none⟩ = some (.int .i64 wn) ∧ x.cell? ⟨w.heap.size, 6, none⟩ = some (.int .i64 0) ∧ x.cell? ⟨w.heap.size, 7, none⟩ = some (.string d) := fun x h => kept8 (w := w) (hk x h)
    refine wp_region_each (wb := wb) (fun i x v => match i with
          | 0 => v = .pointer (some ⟨w.heap.size, 0, none⟩)
          | 1 => v = .int .i64 fr
          | 2 => v = .string (two fr)
          | 3 => v = .pointer (some ⟨w.heap.size, 1, none⟩)
          | 4 => v = .int .i64 to
          | 5 => v = .string (two to)
          | 6 => v = .string (two fr ++ two to)
          | 7 => v = .pointer (some ⟨w.heap.size, 2, none⟩)
          | 8 => v = .int .u32 sq
          | 9 => v = .string (wordT sq)
          | 10 => v = .string (two fr ++ two to ++ wordT sq)
          | 11 => v = .pointer (some ⟨w.heap.size, 3, none⟩)
          | 12 => v = .int .u32 ak
          | 13 => v = .string (wordT ak)
          | 14 => v = .string (two fr ++ two to ++ wordT sq ++ wordT ak)
          | 15 => v = .int .u8 80
          | 16 => v = .pointer (some ⟨w.heap.size, 4, none⟩)
          | 17 => v = .int .i64 fl
          | 18 => v = .int .u8 fl
          | 19 => bytesAt x [80, fl] v
          | 20 => v = .string (strOfNums [80, fl])
          | 21 => v = .string (two fr ++ two to ++ wordT sq ++ wordT ak ++ strOfNums [80, fl])
          | 22 => v = .pointer (some ⟨w.heap.size, 5, none⟩)
          | 23 => v = .int .i64 wn
          | 24 => v = .string (two wn)
          | 25 => v = .string (two fr ++ two to ++ wordT sq ++ wordT ak ++ strOfNums [80, fl] ++ two wn)
          | 26 => v = .string (two fr ++ two to ++ wordT sq ++ wordT ak ++ strOfNums [80, fl] ++ two wn)
          | _ => True) (fun v => { tmps := #[.int .u32 src, .int .u32 dst, .agg #[.int .i64 fr, .int .i64 to, .int .u32 sq, .int .u32 ak, .int .i64 fl, .int .i64 wn, .int .i64 0, .string d], undef, undef, .pointer (some ⟨w.heap.size, 0, none⟩), .string ⟨#[]⟩, .int .u8 80, .string ⟨#[]⟩, v 26, undef, undef, undef, .agg #[.int .i64 fr, .int .i64 to, .int .u32 sq, .int .u32 ak, .int .i64 fl, .int .i64 wn, .int .i64 0, .string d], .bool true, .bool false, .pointer (some ⟨w.heap.size, 6, none⟩), .int .i64 0, .bool false, undef, undef, undef, undef, undef, undef, v 0, v 1, v 2, v 3, v 4, v 5, v 6, v 7, v 8, v 9, v 10, v 11, v 12, v 13, v 14, v 15, v 16, v 17, v 18, v 19, v 20, v 21, v 22, v 23, v 24, v 25, undef, undef, undef, undef, undef, undef, undef, undef, undef, undef, undef, undef, undef, undef, undef, undef, undef, undef, undef, undef, undef, undef, undef, undef, undef, undef, undef], defers := [] }) (by kernel_rfl) (by kernel_rfl) G ?_ (fun vals => by kernel_rfl) ?_ ?_
    case refine_1 =>
      intro j x x' v h1 h2
      match j, h2 with
      | 19, h2 => exact bytesAt_since h1 h2
      | 0, h2 | 1, h2 | 2, h2 | 3, h2 | 4, h2 | 5, h2 | 6, h2 | 7, h2 | 8, h2 | 9, h2 | 10, h2 | 11, h2 | 12, h2 | 13, h2 | 14, h2 | 15, h2 | 16, h2 | 17, h2 | 18, h2 | 20, h2 | 21, h2 | 22, h2 | 23, h2 | 24, h2 | 25, h2 | 26, h2 => exact h2
      | n + 27, _ => trivial
    case refine_2 =>
      have a1 := fun wx => addS (two fr) (two to) (by simp only [two_size]; simp) wx
      have a2 := fun wx => addS (two fr ++ two to) (wordT sq) (by simp only [ByteArray.size_append, two_size, wordT_size]; simp) wx
      have a3 := fun wx => addS (two fr ++ two to ++ wordT sq) (wordT ak) (by simp only [ByteArray.size_append, two_size, wordT_size]; simp) wx
      have a4 := fun wx => addS (two fr ++ two to ++ wordT sq ++ wordT ak) (strOfNums [80, fl]) (by simp only [ByteArray.size_append, two_size, wordT_size, strOfNums_size]; simp) wx
      have a5 := fun wx => addS (two fr ++ two to ++ wordT sq ++ wordT ak ++ strOfNums [80, fl]) (two wn) (by simp only [ByteArray.size_append, two_size, wordT_size, strOfNums_size]; simp) wx
      repeat (first | exact eachDoes_nil | refine eachDoes_cons ?_ ?_)
      all_goals intro vals x hx hv
      all_goals obtain ⟨C0, C1, C2, C3, C4, C5, C6, C7⟩ := C x hx
      all_goals simp [Region.binds] at hv
      all_goals first
        | (simp [does, doesUpon, go_sem, hv, C0, C1, C2, C3, C4, C5, Since.refl, a1, a2, a3, a4, a5, m8]; done)
        | (have ht := bytesAt_text hv; simp [does, doesUpon, go_sem, ht, Since.refl]; done)
        | (simp [does, doesUpon, go_sem, hv]; exact ⟨(Since.refl _).alloc _, bytesAt_new2 _ _ _ _⟩)
        | (simp [does, doesUpon, go_sem, hv]; refine (specTwo _ (by omega) (by omega) _).mono ?_; rintro _ x' ⟨rfl, h1⟩; simp [h1]; done)
        | (simp [does, doesUpon, go_sem, hv]; refine (hqw _ _ (by assumption)).mono ?_; rintro _ x' ⟨rfl, h1⟩; simp [h1]; done)
    case refine_3 =>
      intro valt x2 hx2 hv
      have h0 : valt 0 = _ := hv 0 (by decide)
      have h1 : valt 1 = _ := hv 1 (by decide)
      have h2 : valt 2 = _ := hv 2 (by decide)
      have h3 : valt 3 = _ := hv 3 (by decide)
      have h4 : valt 4 = _ := hv 4 (by decide)
      have h5 : valt 5 = _ := hv 5 (by decide)
      have h6 : valt 6 = _ := hv 6 (by decide)
      have h7 : valt 7 = _ := hv 7 (by decide)
      have h8 : valt 8 = _ := hv 8 (by decide)
      have h9 : valt 9 = _ := hv 9 (by decide)
      have h10 : valt 10 = _ := hv 10 (by decide)
      have h11 : valt 11 = _ := hv 11 (by decide)
      have h12 : valt 12 = _ := hv 12 (by decide)
      have h13 : valt 13 = _ := hv 13 (by decide)
      have h14 : valt 14 = _ := hv 14 (by decide)
      have h15 : valt 15 = _ := hv 15 (by decide)
      have h16 : valt 16 = _ := hv 16 (by decide)
      have h17 : valt 17 = _ := hv 17 (by decide)
      have h18 : valt 18 = _ := hv 18 (by decide)
      have h20 : valt 20 = _ := hv 20 (by decide)
      have h21 : valt 21 = _ := hv 21 (by decide)
      have h22 : valt 22 = _ := hv 22 (by decide)
      have h23 : valt 23 = _ := hv 23 (by decide)
      have h24 : valt 24 = _ := hv 24 (by decide)
      have h25 : valt 25 = _ := hv 25 (by decide)
      have h26 : valt 26 = _ := hv 26 (by decide)
      clear hv
      dsimp only
      simp only [h0, h1, h2, h3, h4, h5, h6, h7, h8, h9, h10, h11, h12, h13, h14, h15, h16, h17, h18, h20, h21, h22, h23, h24, h25, h26]
      clear h0 h1 h2 h3 h4 h5 h6 h7 h8 h9 h10 h11 h12 h13 h14 h15 h16 h17 h18 h20 h21 h22 h23 h24 h25 h26
      have eH : two fr ++ two to ++ wordT sq ++ wordT ak ++ strOfNums [80, fl] ++ two wn = segAhead fr to sq ak fl wn 20480 := by rw [hform]; rfl
      rw [eH]
      clear eH C m8 hqw hform
      have e1 := segAhead_size fr to sq ak fl wn 20480
      generalize hA : segAhead fr to sq ak fl wn 20480 = A at e1 ⊢
      go_wp2
      have hne : Nonempty (Later wb) := ⟨⟨wb, Since.refl _⟩⟩
      have C7 : ∀ x : Later wb, x.val.cell? ⟨w.heap.size, 7, none⟩ = some (.string d) := fun x => (kept8 (w := w) (hk _ x.ok)).2.2.2.2.2.2.2
      have hc : ∀ (x : Later wb), Calls Try.prog 34 #[.int .i64 0] x.val fun e w'' => e = .returned (.string (two 0)) ∧ ∃ y : Later wb, w'' = y.val := fun x => calm_call (specTwo 0 (by omega) (by omega) x.val)
      have b1 := fun wx => addS (two 0) ⟨#[]⟩ (by first | (simp only [two_size]; decide) | (simp only [ByteArray.size_append, two_size]; omega)) wx
      have b2 := fun wx => addS (two 0 ++ ⟨#[]⟩) d (by first | (simp only [ByteArray.size_append, two_size]; omega) | (have : (⟨#[]⟩ : ByteArray).size = 0 := rfl; simp only [ByteArray.size_append, two_size, this]; omega)) wx
      clear hk
      refine wp_region_calm (wb := wb) (by kernel_rfl) (by kernel_rfl) hx2 ?_
      repeat (go_big_quiet_step (exact hc _))
      refine wpQuiet_nil ?_
      rintro _ ⟨x3, rfl⟩
      clear b1 b2 hc
      have e2 : (two 0 ++ ⟨#[]⟩ ++ d).size ≤ 542 := by first | (simp only [ByteArray.size_append, two_size]; omega) | (have : (⟨#[]⟩ : ByteArray).size = 0 := rfl; simp only [ByteArray.size_append, two_size, this]; omega)
      generalize hB : two 0 ++ ⟨#[]⟩ ++ d = B at e2 ⊢
      have t0 := fun wx => specTwo 0 (by omega) (by omega) wx
      have z0 := two_size 0
      have hr := segSum_range src dst A B (by omega)
      have hS : segSum src dst A B = 65535 - foldOf (pseudoOf src dst 6 ((A ++ two 0 ++ B).size : Int) + ones (A ++ two 0 ++ B)) := rfl
      have zs : (A ++ two 0 ++ B).size = A.size + 2 + B.size := by simp only [ByteArray.size_append, z0]
      have b3 := fun wx => addS A (two 0) (by omega) wx
      have b4 := fun wx => addS (A ++ two 0) B (by simp only [ByteArray.size_append]; omega) wx
      generalize hz0 : two 0 = Z at t0 z0 hS zs b3 b4
      generalize hs0 : A ++ Z ++ B = s at hS zs b4
      have hp := fun wx => specPseudo src dst 6 (s.size : Int) hs hd wx
      have ho := fun wx => specOnes s (by omega) wx
      have h1 := pseudo_range src dst (s.size : Int) (by omega) (by omega)
      have h2 := ones_range s
      have h3 := ones_neg s
      have h5 : 0 ≤ ones s := by omega
      have hfo := fun wx => specFold (pseudoOf src dst 6 (s.size : Int) + ones s) (by omega) (by omega) wx
      clear h3 zs
      generalize pseudoOf src dst 6 (s.size : Int) = p at hp h1 hfo hS
      generalize ones s = u at ho h2 h5 hfo hS
      generalize foldOf (p + u) = f at hfo hS
      have m1 : IntKind.i64.wrap (p + u) = p + u := by rw [IntWalk.i64_left]; exact IntWalk.wrap64_in _ ⟨by omega, by omega⟩
      generalize hk : segSum src dst A B = k at hr hS
      have m2 : IntKind.i64.wrap (65535 - f) = k := by rw [← hS, IntWalk.i64_left]; exact IntWalk.wrap64_in _ ⟨by omega, by omega⟩
      have m3 : IntKind.i64.wrap (65535 - f) = 65535 - f := by rw [m2, hS]
      have t1 := fun wx => specTwo (65535 - f) (by omega) (by omega) wx
      have zk := two_size (65535 - f)
      have eT : two k = two (65535 - f) := by rw [hS]
      generalize two (65535 - f) = T at t1 zk eT
      have b5 := fun wx => addS A T (by omega) wx
      have b6 := fun wx => addS (A ++ T) B (by simp only [ByteArray.size_append]; omega) wx
      have G9 := x3.ok
      clear m2 hS e1 e2 z0 zk hr h1 h2 h5
      go_wp2_with (first | (go_at_call 34; refine (t0 _).mono ?_; clear t0; rintro _ w7 ⟨rfl, g7⟩; replace G9 := Since.trans G9 g7) | (go_at_call 37; refine (hp _).mono ?_; rintro _ w8 ⟨rfl, g8⟩; replace G9 := Since.trans G9 g8) | (go_at_call 38; refine (ho _).mono ?_; rintro _ _ ⟨rfl, rfl⟩) | (go_at_call 36; refine (hfo _).mono ?_; rintro _ _ ⟨rfl, rfl⟩) | (go_at_call 34; refine (t1 _).mono ?_; clear t1; rintro _ w9 ⟨rfl, g9⟩; replace G9 := Since.trans G9 g9))
      go_ret
      refine ⟨?_, HB.trans G9⟩
      subst hA hB
      rw [hk, eT]
      rfl
  · have h0b : (ms == 0) = false := by simp [h0]
    have hms : 0 ≤ ms ∧ ms ≤ 65535 := by simp only [mssFits, Bool.or_eq_true, Bool.and_eq_true, decide_eq_true_eq] at hm; omega
    clear hm
    have hform := hform.2
    have eF : segForm ms = 24576 := by rw [segForm, if_neg h0]
    have eO : segBehind ms d = two 0 ++ (two 516 ++ two ms) ++ d := by rw [segBehind, segOpt, if_neg h0]
    rw [eF, eO]
    clear eF eO
    go_enter Try.func17, Try.ntmps17
    go_wp2_with (first | (go_at_call 33; refine (hok _).mono ?_; rintro _ w1 ⟨rfl, g1⟩; replace G := Since.trans G g1; obtain ⟨C0, C1, C2, C3, C4, C5, C6, C7⟩ := kept8 G))
    clear hok C0 C1 C2 C3 C4 C5 C6 C7
    obtain ⟨wb, hwb⟩ : ∃ wb, w.alloc (.cells #[.int .i64 fr, .int .i64 to, .int .u32 sq, .int .u32 ak, .int .i64 fl, .int .i64 wn, .int .i64 ms, .string d] 28) = wb := ⟨_, rfl⟩
    have HB : Since w wb := by rw [← hwb]; exact (Since.refl _).alloc _
    have hk : ∀ x, Since wb x → Since (w.alloc (.cells #[.int .i64 fr, .int .i64 to, .int .u32 sq, .int .u32 ak, .int .i64 fl, .int .i64 wn, .int .i64 ms, .string d] 28)) x := fun x h => by rw [hwb]; exact h
    rw [hwb] at G
    clear hwb
    have C : ∀ x, Since wb x → x.cell? ⟨w.heap.size, 0, none⟩ = some (.int .i64 fr) ∧ x.cell? ⟨w.heap.size, 1, none⟩ = some (.int .i64 to) ∧ x.cell? ⟨w.heap.size, 2, none⟩ = some (.int .u32 sq) ∧ x.cell? ⟨w.heap.size, 3, none⟩ = some (.int .u32 ak) ∧ x.cell? ⟨w.heap.size, 4, none⟩ = some (.int .i64 fl) ∧ x.cell? ⟨w.heap.size, 5, none⟩ = some (.int .i64 wn) ∧ x.cell? ⟨w.heap.size, 6, none⟩ = some (.int .i64 ms) ∧ x.cell? ⟨w.heap.size, 7, none⟩ = some (.string d) := fun x h => kept8 (w := w) (hk x h)
    refine wp_region_each (wb := wb) (fun i x v => match i with
          | 0 => bytesAt x [2, 4] v
          | 1 => v = .string (strOfNums [2, 4])
          | 2 => v = .pointer (some ⟨w.heap.size, 6, none⟩)
          | 3 => v = .int .i64 ms
          | 4 => v = .string (two ms)
          | 5 => v = .string (strOfNums [2, 4] ++ two ms)
          | 6 => v = .string (strOfNums [2, 4] ++ two ms)
          | _ => True) (fun v => { tmps := #[.int .u32 src, .int .u32 dst, .agg #[.int .i64 fr, .int .i64 to, .int .u32 sq, .int .u32 ak, .int .i64 fl, .int .i64 wn, .int .i64 ms, .string d], undef, undef, .pointer (some ⟨w.heap.size, 0, none⟩), .string ⟨#[]⟩, .int .u8 96, v 6, undef, undef, undef, undef, .agg #[.int .i64 fr, .int .i64 to, .int .u32 sq, .int .u32 ak, .int .i64 fl, .int .i64 wn, .int .i64 ms, .string d], .bool true, .bool false, .pointer (some ⟨w.heap.size, 6, none⟩), .int .i64 ms, .bool (ms != 0), v 0, v 1, v 2, v 3, v 4, v 5, undef, undef, undef, undef, undef, undef, undef, undef, undef, undef, undef, undef, undef, undef, undef, undef, undef, undef, undef, undef, undef, undef, undef, undef, undef, undef, undef, undef, undef, undef, undef, undef, undef, undef, undef, undef, undef, undef, undef, undef, undef, undef, undef, undef, undef, undef, undef, undef, undef, undef, undef, undef, undef], defers := [] }) (by kernel_rfl) (by kernel_rfl) G ?_ (fun vals => by kernel_rfl) ?_ ?_
    case refine_1 =>
      intro j x x' v h1 h2
      match j, h2 with
      | 0, h2 => exact bytesAt_since h1 h2
      | 1, h2 | 2, h2 | 3, h2 | 4, h2 | 5, h2 | 6, h2 => exact h2
      | n + 7, _ => trivial
    case refine_2 =>
      have a1 := fun wx => addS (strOfNums [2, 4]) (two ms) (by simp only [strOfNums_size, two_size]; simp) wx
      repeat (first | exact eachDoes_nil | refine eachDoes_cons ?_ ?_)
      all_goals intro vals x hx hv
      all_goals obtain ⟨C0, C1, C2, C3, C4, C5, C6, C7⟩ := C x hx
      all_goals simp [Region.binds] at hv
      all_goals first
        | (simp [does, doesUpon, go_sem, hv, C6, Since.refl, a1]; done)
        | (have ht := bytesAt_text hv; simp [does, doesUpon, go_sem, ht, Since.refl]; done)
        | (simp [does, doesUpon, go_sem, hv]; exact ⟨(Since.refl _).alloc _, bytesAt_new2 _ _ _ _⟩)
        | (simp [does, doesUpon, go_sem, hv]; refine (specTwo _ (by omega) (by omega) _).mono ?_; rintro _ x' ⟨rfl, h1⟩; simp [h1]; done)
    case refine_3 =>
      intro vals x1 hx1 hv
      have h1 : vals 1 = _ := hv 1 (by decide)
      have h2 : vals 2 = _ := hv 2 (by decide)
      have h3 : vals 3 = _ := hv 3 (by decide)
      have h4 : vals 4 = _ := hv 4 (by decide)
      have h5 : vals 5 = _ := hv 5 (by decide)
      have h6 : vals 6 = _ := hv 6 (by decide)
      clear hv
      dsimp only
      simp only [h1, h2, h3, h4, h5, h6]
      clear h1 h2 h3 h4 h5 h6
      rw [two_head]
      go_wp2
      refine wp_region_each (wb := wb) (fun i x v => match i with
          | 0 => v = .pointer (some ⟨w.heap.size, 0, none⟩)
          | 1 => v = .int .i64 fr
          | 2 => v = .string (two fr)
          | 3 => v = .pointer (some ⟨w.heap.size, 1, none⟩)
          | 4 => v = .int .i64 to
          | 5 => v = .string (two to)
          | 6 => v = .string (two fr ++ two to)
          | 7 => v = .pointer (some ⟨w.heap.size, 2, none⟩)
          | 8 => v = .int .u32 sq
          | 9 => v = .string (wordT sq)
          | 10 => v = .string (two fr ++ two to ++ wordT sq)
          | 11 => v = .pointer (some ⟨w.heap.size, 3, none⟩)
          | 12 => v = .int .u32 ak
          | 13 => v = .string (wordT ak)
          | 14 => v = .string (two fr ++ two to ++ wordT sq ++ wordT ak)
          | 15 => v = .int .u8 96
          | 16 => v = .pointer (some ⟨w.heap.size, 4, none⟩)
          | 17 => v = .int .i64 fl
          | 18 => v = .int .u8 fl
          | 19 => bytesAt x [96, fl] v
          | 20 => v = .string (strOfNums [96, fl])
          | 21 => v = .string (two fr ++ two to ++ wordT sq ++ wordT ak ++ strOfNums [96, fl])
          | 22 => v = .pointer (some ⟨w.heap.size, 5, none⟩)
          | 23 => v = .int .i64 wn
          | 24 => v = .string (two wn)
          | 25 => v = .string (two fr ++ two to ++ wordT sq ++ wordT ak ++ strOfNums [96, fl] ++ two wn)
          | 26 => v = .string (two fr ++ two to ++ wordT sq ++ wordT ak ++ strOfNums [96, fl] ++ two wn)
          | _ => True) (fun v => { tmps := #[.int .u32 src, .int .u32 dst, .agg #[.int .i64 fr, .int .i64 to, .int .u32 sq, .int .u32 ak, .int .i64 fl, .int .i64 wn, .int .i64 ms, .string d], undef, undef, .pointer (some ⟨w.heap.size, 0, none⟩), .string ⟨#[]⟩, .int .u8 96, .string (two 516 ++ two ms), v 26, undef, undef, undef, .agg #[.int .i64 fr, .int .i64 to, .int .u32 sq, .int .u32 ak, .int .i64 fl, .int .i64 wn, .int .i64 ms, .string d], .bool true, .bool false, .pointer (some ⟨w.heap.size, 6, none⟩), .int .i64 ms, .bool (ms != 0), vals 0, .string (two 516), .pointer (some ⟨w.heap.size, 6, none⟩), .int .i64 ms, .string (two ms), .string (two 516 ++ two ms), v 0, v 1, v 2, v 3, v 4, v 5, v 6, v 7, v 8, v 9, v 10, v 11, v 12, v 13, v 14, v 15, v 16, v 17, v 18, v 19, v 20, v 21, v 22, v 23, v 24, v 25, undef, undef, undef, undef, undef, undef, undef, undef, undef, undef, undef, undef, undef, undef, undef, undef, undef, undef, undef, undef, undef, undef, undef, undef, undef, undef, undef], defers := [] }) (by kernel_rfl) (by kernel_rfl) hx1 ?_ (fun vals => by kernel_rfl) ?_ ?_
      case refine_1 =>
        intro j x x' v h1 h2
        match j, h2 with
        | 19, h2 => exact bytesAt_since h1 h2
        | 0, h2 | 1, h2 | 2, h2 | 3, h2 | 4, h2 | 5, h2 | 6, h2 | 7, h2 | 8, h2 | 9, h2 | 10, h2 | 11, h2 | 12, h2 | 13, h2 | 14, h2 | 15, h2 | 16, h2 | 17, h2 | 18, h2 | 20, h2 | 21, h2 | 22, h2 | 23, h2 | 24, h2 | 25, h2 | 26, h2 => exact h2
        | n + 27, _ => trivial
      case refine_2 =>
        have a1 := fun wx => addS (two fr) (two to) (by simp only [two_size]; simp) wx
        have a2 := fun wx => addS (two fr ++ two to) (wordT sq) (by simp only [ByteArray.size_append, two_size, wordT_size]; simp) wx
        have a3 := fun wx => addS (two fr ++ two to ++ wordT sq) (wordT ak) (by simp only [ByteArray.size_append, two_size, wordT_size]; simp) wx
        have a4 := fun wx => addS (two fr ++ two to ++ wordT sq ++ wordT ak) (strOfNums [96, fl]) (by simp only [ByteArray.size_append, two_size, wordT_size, strOfNums_size]; simp) wx
        have a5 := fun wx => addS (two fr ++ two to ++ wordT sq ++ wordT ak ++ strOfNums [96, fl]) (two wn) (by simp only [ByteArray.size_append, two_size, wordT_size, strOfNums_size]; simp) wx
        repeat (first | exact eachDoes_nil | refine eachDoes_cons ?_ ?_)
        all_goals intro vals x hx hv
        all_goals obtain ⟨C0, C1, C2, C3, C4, C5, C6, C7⟩ := C x hx
        all_goals simp [Region.binds] at hv
        all_goals first
          | (simp [does, doesUpon, go_sem, hv, C0, C1, C2, C3, C4, C5, Since.refl, a1, a2, a3, a4, a5, m8]; done)
          | (have ht := bytesAt_text hv; simp [does, doesUpon, go_sem, ht, Since.refl]; done)
          | (simp [does, doesUpon, go_sem, hv]; exact ⟨(Since.refl _).alloc _, bytesAt_new2 _ _ _ _⟩)
          | (simp [does, doesUpon, go_sem, hv]; refine (specTwo _ (by omega) (by omega) _).mono ?_; rintro _ x' ⟨rfl, h1⟩; simp [h1]; done)
          | (simp [does, doesUpon, go_sem, hv]; refine (hqw _ _ (by assumption)).mono ?_; rintro _ x' ⟨rfl, h1⟩; simp [h1]; done)
      case refine_3 =>
        intro valt x2 hx2 hv
        have h0 : valt 0 = _ := hv 0 (by decide)
        have h1 : valt 1 = _ := hv 1 (by decide)
        have h2 : valt 2 = _ := hv 2 (by decide)
        have h3 : valt 3 = _ := hv 3 (by decide)
        have h4 : valt 4 = _ := hv 4 (by decide)
        have h5 : valt 5 = _ := hv 5 (by decide)
        have h6 : valt 6 = _ := hv 6 (by decide)
        have h7 : valt 7 = _ := hv 7 (by decide)
        have h8 : valt 8 = _ := hv 8 (by decide)
        have h9 : valt 9 = _ := hv 9 (by decide)
        have h10 : valt 10 = _ := hv 10 (by decide)
        have h11 : valt 11 = _ := hv 11 (by decide)
        have h12 : valt 12 = _ := hv 12 (by decide)
        have h13 : valt 13 = _ := hv 13 (by decide)
        have h14 : valt 14 = _ := hv 14 (by decide)
        have h15 : valt 15 = _ := hv 15 (by decide)
        have h16 : valt 16 = _ := hv 16 (by decide)
        have h17 : valt 17 = _ := hv 17 (by decide)
        have h18 : valt 18 = _ := hv 18 (by decide)
        have h20 : valt 20 = _ := hv 20 (by decide)
        have h21 : valt 21 = _ := hv 21 (by decide)
        have h22 : valt 22 = _ := hv 22 (by decide)
        have h23 : valt 23 = _ := hv 23 (by decide)
        have h24 : valt 24 = _ := hv 24 (by decide)
        have h25 : valt 25 = _ := hv 25 (by decide)
        have h26 : valt 26 = _ := hv 26 (by decide)
        clear hv
        dsimp only
        simp only [h0, h1, h2, h3, h4, h5, h6, h7, h8, h9, h10, h11, h12, h13, h14, h15, h16, h17, h18, h20, h21, h22, h23, h24, h25, h26]
        clear h0 h1 h2 h3 h4 h5 h6 h7 h8 h9 h10 h11 h12 h13 h14 h15 h16 h17 h18 h20 h21 h22 h23 h24 h25 h26
        have eH : two fr ++ two to ++ wordT sq ++ wordT ak ++ strOfNums [96, fl] ++ two wn = segAhead fr to sq ak fl wn 24576 := by rw [hform]; rfl
        rw [eH]
        clear eH C m8 hqw hform
        have e1 := segAhead_size fr to sq ak fl wn 24576
        generalize hA : segAhead fr to sq ak fl wn 24576 = A at e1 ⊢
        go_wp2
        have hne : Nonempty (Later wb) := ⟨⟨wb, Since.refl _⟩⟩
        have C7 : ∀ x : Later wb, x.val.cell? ⟨w.heap.size, 7, none⟩ = some (.string d) := fun x => (kept8 (w := w) (hk _ x.ok)).2.2.2.2.2.2.2
        have hc : ∀ (x : Later wb), Calls Try.prog 34 #[.int .i64 0] x.val fun e w'' => e = .returned (.string (two 0)) ∧ ∃ y : Later wb, w'' = y.val := fun x => calm_call (specTwo 0 (by omega) (by omega) x.val)
        have b1 := fun wx => addS (two 0) (two 516 ++ two ms) (by first | (simp only [two_size]; decide) | (simp only [ByteArray.size_append, two_size]; omega)) wx
        have b2 := fun wx => addS (two 0 ++ (two 516 ++ two ms)) d (by first | (simp only [ByteArray.size_append, two_size]; omega) | (have : (⟨#[]⟩ : ByteArray).size = 0 := rfl; simp only [ByteArray.size_append, two_size, this]; omega)) wx
        clear hk
        refine wp_region_calm (wb := wb) (by kernel_rfl) (by kernel_rfl) hx2 ?_
        repeat (go_big_quiet_step (exact hc _))
        refine wpQuiet_nil ?_
        rintro _ ⟨x3, rfl⟩
        clear b1 b2 hc
        have e2 : (two 0 ++ (two 516 ++ two ms) ++ d).size ≤ 542 := by first | (simp only [ByteArray.size_append, two_size]; omega) | (have : (⟨#[]⟩ : ByteArray).size = 0 := rfl; simp only [ByteArray.size_append, two_size, this]; omega)
        generalize hB : two 0 ++ (two 516 ++ two ms) ++ d = B at e2 ⊢
        have t0 := fun wx => specTwo 0 (by omega) (by omega) wx
        have z0 := two_size 0
        have hr := segSum_range src dst A B (by omega)
        have hS : segSum src dst A B = 65535 - foldOf (pseudoOf src dst 6 ((A ++ two 0 ++ B).size : Int) + ones (A ++ two 0 ++ B)) := rfl
        have zs : (A ++ two 0 ++ B).size = A.size + 2 + B.size := by simp only [ByteArray.size_append, z0]
        have b3 := fun wx => addS A (two 0) (by omega) wx
        have b4 := fun wx => addS (A ++ two 0) B (by simp only [ByteArray.size_append]; omega) wx
        generalize hz0 : two 0 = Z at t0 z0 hS zs b3 b4
        generalize hs0 : A ++ Z ++ B = s at hS zs b4
        have hp := fun wx => specPseudo src dst 6 (s.size : Int) hs hd wx
        have ho := fun wx => specOnes s (by omega) wx
        have h1 := pseudo_range src dst (s.size : Int) (by omega) (by omega)
        have h2 := ones_range s
        have h3 := ones_neg s
        have h5 : 0 ≤ ones s := by omega
        have hfo := fun wx => specFold (pseudoOf src dst 6 (s.size : Int) + ones s) (by omega) (by omega) wx
        clear h3 zs
        generalize pseudoOf src dst 6 (s.size : Int) = p at hp h1 hfo hS
        generalize ones s = u at ho h2 h5 hfo hS
        generalize foldOf (p + u) = f at hfo hS
        have m1 : IntKind.i64.wrap (p + u) = p + u := by rw [IntWalk.i64_left]; exact IntWalk.wrap64_in _ ⟨by omega, by omega⟩
        generalize hk : segSum src dst A B = k at hr hS
        have m2 : IntKind.i64.wrap (65535 - f) = k := by rw [← hS, IntWalk.i64_left]; exact IntWalk.wrap64_in _ ⟨by omega, by omega⟩
        have m3 : IntKind.i64.wrap (65535 - f) = 65535 - f := by rw [m2, hS]
        have t1 := fun wx => specTwo (65535 - f) (by omega) (by omega) wx
        have zk := two_size (65535 - f)
        have eT : two k = two (65535 - f) := by rw [hS]
        generalize two (65535 - f) = T at t1 zk eT
        have b5 := fun wx => addS A T (by omega) wx
        have b6 := fun wx => addS (A ++ T) B (by simp only [ByteArray.size_append]; omega) wx
        have G9 := x3.ok
        clear m2 hS e1 e2 z0 zk hr h1 h2 h5
        go_wp2_with (first | (go_at_call 34; refine (t0 _).mono ?_; clear t0; rintro _ w7 ⟨rfl, g7⟩; replace G9 := Since.trans G9 g7) | (go_at_call 37; refine (hp _).mono ?_; rintro _ w8 ⟨rfl, g8⟩; replace G9 := Since.trans G9 g8) | (go_at_call 38; refine (ho _).mono ?_; rintro _ _ ⟨rfl, rfl⟩) | (go_at_call 36; refine (hfo _).mono ?_; rintro _ _ ⟨rfl, rfl⟩) | (go_at_call 34; refine (t1 _).mono ?_; clear t1; rintro _ w9 ⟨rfl, g9⟩; replace G9 := Since.trans G9 g9))
        go_ret
        refine ⟨?_, HB.trans G9⟩
        subst hA hB
        rw [hk, eT]
        rfl
end Go.Proofs.Ytigjppamjfnmcaa
