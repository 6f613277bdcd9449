/-
  Contracts of impl's PutSeg, at every segment.
-/
import Derived.Test.YtigjppamjfnmcaaM3
import Derived.Test.YtigjppamjfnmcaaCalm
import Derived.Test.YtigjppamjfnmcaaSegOk
namespace Go.Proofs.Ytigjppamjfnmcaa
open Go.ChangeShapes Go.WideShapes Go.ChangeAt Go.RowKit
set_option linter.unusedVariables false

/-- The first sixteen bytes of a segment's header. -/
def segAhead (fr to sq ak fl wn form : Int) : ByteArray := two fr ++ two to ++ wordT sq ++ wordT ak ++ two (form + fl) ++ two wn

theorem segAhead_size (fr to sq ak fl wn form : Int) : (segAhead fr to sq ak fl wn form).size = 16 := by
  simp only [segAhead, ByteArray.size_append, two_size, wordT_size]

/-- Twice the byte that tells whether there is an option, as a half. -/
def segForm (ms : Int) : Int := if ms = 0 then 20480 else 24576

/-- The option's bytes. -/
def segOpt (ms : Int) : ByteArray := if ms = 0 then ⟨#[]⟩ else two 516 ++ two ms

theorem segOpt_size (ms : Int) : (segOpt ms).size ≤ 4 := by
  unfold segOpt
  split
  · decide
  · simp only [ByteArray.size_append, two_size]
    omega

/-- What comes behind the sum. -/
def segBehind (ms : Int) (d : ByteArray) : ByteArray := two 0 ++ segOpt ms ++ d

theorem segBehind_size (ms : Int) (d : ByteArray) : (segBehind ms d).size ≤ 6 + d.size := by
  have := segOpt_size ms
  simp only [segBehind, ByteArray.size_append, two_size]
  omega

/-- The sum of both parts. -/
def segSum (src dst : Int) (a b : ByteArray) : Int := 65535 - foldOf (pseudoOf src dst 6 ((a ++ two 0 ++ b).size : Int) + ones (a ++ two 0 ++ b))

/-- The bytes of a segment. -/
def putSeg (src dst fr to sq ak fl wn ms : Int) (d : ByteArray) : ByteArray :=
  if segOk fr to fl wn ms d = true then segAhead fr to sq ak fl wn (segForm ms) ++ two (segSum src dst (segAhead fr to sq ak fl wn (segForm ms)) (segBehind ms d)) ++ segBehind ms d else ⟨#[]⟩

theorem pseudo_range (src dst n : Int) (h0 : 0 ≤ n) (h1 : n ≤ 65535) : 0 ≤ pseudoOf src dst 6 n ∧ pseudoOf src dst 6 n ≤ 65535 := by
  rw [pseudoOf, if_pos ⟨⟨by omega, by omega⟩, h0, h1⟩]
  generalize hs : wordT src ++ wordT dst ++ two 6 ++ two n = s
  have hz : s.size = 12 := by
    subst hs
    simp only [ByteArray.size_append, two_size, wordT_size]
  have h2 := ones_range s
  have h3 := ones_neg s
  omega

theorem segSum_range (src dst : Int) (a b : ByteArray) (h : a.size + b.size ≤ 1990) : 0 ≤ segSum src dst a b ∧ segSum src dst a b ≤ 65535 := by
  unfold segSum
  generalize hs : a ++ two 0 ++ b = s
  have hz : s.size = a.size + 2 + b.size := by
    subst hs
    simp only [ByteArray.size_append, two_size]
  have h1 := pseudo_range src dst (s.size : Int) (by omega) (by omega)
  have h2 := ones_range s
  have h3 := ones_neg s
  have h4 := foldOf_range (pseudoOf src dst 6 (s.size : Int) + ones s) (by omega)
  omega

set_option maxHeartbeats 1000000 in
theorem sumOfSeg (src dst : Int) (a b : ByteArray) (hs : IsWord src) (hd : IsWord dst) (h : a.size + b.size ≤ 1990) (w : World) :
    Calls Try.prog 44 #[.int .u32 src, .int .u32 dst, .string a, .string b] w fun e w' => e = .returned (.int .i64 (segSum src dst a b)) ∧ Since w w' := by
  unfold segSum
  have t1 := fun wx => halfText 0 wx
  have z1 := two_size 0
  generalize two 0 = z at t1 z1 ⊢
  have a1 := fun wx => addS a z (by omega) wx
  have a2 := fun wx => addS (a ++ z) b (by simp only [ByteArray.size_append]; omega) wx
  have zs : (a ++ z ++ b).size = a.size + 2 + b.size := by simp only [ByteArray.size_append, z1]
  generalize a ++ z ++ b = s at a2 zs ⊢
  have hp := fun wx => implPseudo src dst 6 (s.size : Int) hs hd wx
  have ho := fun wx => implOnes s wx
  have h1 := pseudo_range src dst (s.size : Int) (by omega) (by omega)
  have h2 := ones_range s
  have h3 := ones_neg s
  have hf := fun wx => folded (pseudoOf src dst 6 (s.size : Int) + ones s) (by omega) (by omega) wx
  have h4 := foldOf_range (pseudoOf src dst 6 (s.size : Int) + ones s) (by omega)
  generalize pseudoOf src dst 6 (s.size : Int) = p at hp h1 hf h4 ⊢
  have h5 : 0 ≤ ones s := by omega
  clear h3
  generalize ones s = o at ho h2 h5 hf h4 ⊢
  generalize foldOf (p + o) = f at hf h4 ⊢
  have m1 : IntKind.i64.wrap (p + o) = p + o := by rw [IntWalk.i64_left]; exact IntWalk.wrap64_in _ ⟨by omega, by omega⟩
  have m2 : IntKind.i64.wrap (65535 - f) = 65535 - f := by rw [IntWalk.i64_left]; exact IntWalk.wrap64_in _ ⟨by omega, by omega⟩
  clear zs z1 h
  go_enter Try.func44, Try.ntmps44
  go_wp2_with (first | (go_at_call 42; refine (t1 _).mono ?_; rintro _ w1 ⟨rfl, g1⟩) | (go_at_call 63; refine (hp _).mono ?_; rintro _ w2 ⟨rfl, g2⟩) | (go_at_call 64; refine (ho _).mono ?_; rintro _ w3 ⟨rfl, g3⟩) | (go_at_call 62; refine (hf _).mono ?_; rintro _ _ ⟨rfl, rfl⟩))
  go_ret
  exact ⟨rfl, (g1.trans g2).trans g3⟩

theorem or_ttl6 (x y : Int) (hx : 0 ≤ x ∧ x ≤ 255) (hy : 0 ≤ y ∧ y ≤ 255) : bits .or .i64 (x * 256) y = x * 256 + y := by
  exact bits_join .i64 32 (by decide) (fun n h2 h3 => by rw [IntWalk.i64_left]; exact IntWalk.wrap64_in _ ⟨by omega, by omega⟩) 8 (x * 256) y (by omega) (by omega) (by omega) (by omega) (by omega) (by omega)

theorem or_form (fl : Int) (h : 0 ≤ fl ∧ fl ≤ 31) : bits .or .i64 20480 fl = 20480 + fl ∧ bits .or .i64 24576 fl = 24576 + fl :=
  ⟨or_ttl6 80 fl (by omega) (by omega), or_ttl6 96 fl (by omega) (by omega)⟩

set_option maxHeartbeats 4000000 in
theorem implPutSeg (src dst : Int) (fr to sq ak fl wn ms : Int) (d : ByteArray) (hs : IsWord src) (hd : IsWord dst) (hsq : IsWord sq) (hak : IsWord ak) (hf : IsInt fl) (w : World) :
    Calls Try.prog 19 #[.int .u32 src, .int .u32 dst, segVal fr to sq ak fl wn ms d] w fun e w' => e = .returned (.string (putSeg src dst fr to sq ak fl wn ms d)) ∧ Since w w' := by
  have hok := fun wx => implSegOk fr to sq ak fl wn ms d hf wx
  have hn : ∀ (x : Bool) (w : World), (Op.unary .not (.bool x)).run Try.prog w = .ok (.bool (!x)) w := fun _ _ => rfl
  unfold segVal at hok ⊢
  have G := Since.refl (w.alloc (.cells #[.int .i64 fr, .int .i64 to, .int .u32 sq, .int .u32 ak, .int .i64 fl, .int .i64 wn, .int .i64 ms, .string d] 28))
  by_cases h : segOk fr to fl wn ms d = true
  case neg =>
    rw [putSeg, if_neg h]
    rw [show segOk fr to fl wn ms d = false by simpa using h] at hok
    clear h
    go_enter Try.func19, Try.ntmps19
    go_wp2_with (first | (go_at_call 41; refine (hok _).mono ?_; rintro _ w1 ⟨rfl, g1⟩; replace G := Since.trans G g1))
    go_ret
    exact ⟨rfl, ((Since.refl _).alloc _).trans G⟩
  rw [putSeg, if_pos h]
  rw [h] at hok
  simp only [segOk, mssFits, Bool.and_eq_true, decide_eq_true_eq] at h
  obtain ⟨⟨f0, f1⟩, ⟨o0, o1⟩, ⟨l0, l1⟩, ⟨n0, n1⟩, hm, hz⟩ := h
  have hor := or_form fl ⟨l0, l1⟩
  by_cases h0 : ms = 0
  · subst h0
    clear hm
    have h0b : ((0 : Int) == 0) = true := rfl
    have hor := hor.1
    have eF : segForm 0 = 20480 := by rfl
    have eO : segBehind 0 d = two 0 ++ ⟨#[]⟩ ++ d := by rfl
    rw [eF, eO]
    clear eF eO
    have a1 := fun wx => addS (two fr) (two to) (by simp only [two_size]; omega) wx
    have a2 := fun wx => addS (two fr ++ two to) (wordT sq) (by simp only [ByteArray.size_append, two_size, wordT_size]; omega) wx
    have a3 := fun wx => addS (two fr ++ two to ++ wordT sq) (wordT ak) (by simp only [ByteArray.size_append, two_size, wordT_size]; omega) wx
    have a4 := fun wx => addS (two fr ++ two to ++ wordT sq ++ wordT ak) (two (20480 + fl)) (by simp only [ByteArray.size_append, two_size, wordT_size]; omega) wx
    have a5 := fun wx => addS (two fr ++ two to ++ wordT sq ++ wordT ak ++ two (20480 + fl)) (two wn) (by simp only [ByteArray.size_append, two_size, wordT_size]; omega) wx
    go_enter Try.func19, Try.ntmps19
    go_wp2_with (first | (go_at_call 41; refine (hok _).mono ?_; rintro _ w1 ⟨rfl, g1⟩; replace G := Since.trans G g1; obtain ⟨C0, C1, C2, C3, C4, C5, C6, C7⟩ := kept8 G))
    obtain ⟨wb, hwb⟩ : ∃ wb, w.alloc (.cells #[.int .i64 fr, .int .i64 to, .int .u32 sq, .int .u32 ak, .int .i64 fl, .int .i64 wn, .int .i64 0, .string d] 28) = wb := ⟨_, rfl⟩
    have hk : ∀ x : Later wb, Since (w.alloc (.cells #[.int .i64 fr, .int .i64 to, .int .u32 sq, .int .u32 ak, .int .i64 fl, .int .i64 wn, .int .i64 0, .string d] 28)) x.val := fun x => by rw [hwb]; exact x.ok
    rw [hwb] at G
    clear C0 C1 C2 C3 C4 C5 C6 C7
    have C0 : ∀ x : Later wb, x.val.cell? ⟨w.heap.size, 0, none⟩ = some (.int .i64 fr) := fun x => (kept8 (w := w) (hk x)).1
    have C1 : ∀ x : Later wb, x.val.cell? ⟨w.heap.size, 1, none⟩ = some (.int .i64 to) := fun x => (kept8 (w := w) (hk x)).2.1
    have C2 : ∀ x : Later wb, x.val.cell? ⟨w.heap.size, 2, none⟩ = some (.int .u32 sq) := fun x => (kept8 (w := w) (hk x)).2.2.1
    have C3 : ∀ x : Later wb, x.val.cell? ⟨w.heap.size, 3, none⟩ = some (.int .u32 ak) := fun x => (kept8 (w := w) (hk x)).2.2.2.1
    have C4 : ∀ x : Later wb, x.val.cell? ⟨w.heap.size, 4, none⟩ = some (.int .i64 fl) := fun x => (kept8 (w := w) (hk x)).2.2.2.2.1
    have C5 : ∀ x : Later wb, x.val.cell? ⟨w.heap.size, 5, none⟩ = some (.int .i64 wn) := fun x => (kept8 (w := w) (hk x)).2.2.2.2.2.1
    have C6 : ∀ x : Later wb, x.val.cell? ⟨w.heap.size, 6, none⟩ = some (.int .i64 0) := fun x => (kept8 (w := w) (hk x)).2.2.2.2.2.2.1
    have C7 : ∀ x : Later wb, x.val.cell? ⟨w.heap.size, 7, none⟩ = some (.string d) := fun x => (kept8 (w := w) (hk x)).2.2.2.2.2.2.2
    have HB : Since w wb := by rw [← hwb]; exact (Since.refl _).alloc _
    clear hok hwb hk
    have hc : ∀ n (x : Later wb), Calls Try.prog 42 #[.int .i64 n] x.val fun e w'' => e = .returned (.string (two n)) ∧ ∃ y : Later wb, w'' = y.val := fun n x => calm_call (halfText n x.val)
    have hq : ∀ n (x : Later wb), IsWord n → Calls Try.prog 43 #[.int .u32 n] x.val fun e w'' => e = .returned (.string (wordT n)) ∧ ∃ y : Later wb, w'' = y.val := fun n x hn => calm_call ((implPutWord n hn.1 hn.2 x.val).mono fun _ _ ⟨h1, h2⟩ => ⟨h1, Since.of h2⟩)
    have hne : Nonempty (Later wb) := ⟨⟨wb, Since.refl _⟩⟩
    refine wp_region_calm (wb := wb) (by kernel_rfl) (by kernel_rfl) G ?_
    repeat (go_big_quiet_step (first | exact hc _ _ | (refine hq _ _ ?_; assumption)))
    refine wpQuiet_nil ?_
    rintro _ ⟨x1, rfl⟩
    go_wp2
    rw [show two fr ++ two to ++ wordT sq ++ wordT ak ++ two (20480 + fl) ++ two wn = segAhead fr to sq ak fl wn 20480 from rfl]
    clear a1 a2 a3 a4 a5 hq hor
    have e1 := segAhead_size fr to sq ak fl wn 20480
    generalize hA : segAhead fr to sq ak fl wn 20480 = A at e1 ⊢
    have b1 := fun wx => addS (two 0) ⟨#[]⟩ (by first | (simp only [two_size]; decide) | (simp only [ByteArray.size_append, two_size]; omega)) wx
    have b2 := fun wx => addS (two 0 ++ ⟨#[]⟩) d (by first | (simp only [ByteArray.size_append, two_size]; omega) | (have : (⟨#[]⟩ : ByteArray).size = 0 := rfl; simp only [ByteArray.size_append, two_size, this]; omega)) wx
    refine wp_region_calm (wb := wb) (by kernel_rfl) (by kernel_rfl) x1.ok ?_
    repeat (go_big_quiet_step (exact hc _ _))
    refine wpQuiet_nil ?_
    rintro _ ⟨x2, rfl⟩
    clear b1 b2
    have e2 : (two 0 ++ ⟨#[]⟩ ++ d).size ≤ 542 := by first | (simp only [ByteArray.size_append, two_size]; omega) | (have : (⟨#[]⟩ : ByteArray).size = 0 := rfl; simp only [ByteArray.size_append, two_size, this]; omega)
    generalize hB : two 0 ++ ⟨#[]⟩ ++ d = B at e2 ⊢
    have hsm := fun wx => sumOfSeg src dst A B hs hd (by omega) wx
    generalize hS : segSum src dst A B = k at hsm
    have ht := fun wx => halfText k wx
    have zk := two_size k
    generalize hT : two k = T at ht zk
    have b3 := fun wx => addS A T (by omega) wx
    have b4 := fun wx => addS (A ++ T) B (by simp only [ByteArray.size_append]; omega) wx
    have G9 := x2.ok
    clear hc
    go_wp2_with (first | (go_at_call 44; refine (hsm _).mono ?_; rintro _ w8 ⟨rfl, g8⟩; replace G9 := Since.trans G9 g8) | (go_at_call 42; refine (ht _).mono ?_; rintro _ w9 ⟨rfl, g9⟩; replace G9 := Since.trans G9 g9))
    go_ret
    refine ⟨?_, HB.trans G9⟩
    subst hT hS hA hB
    rfl
  · have h0b : (ms == 0) = false := by simp [h0]
    have hor := hor.2
    have eF : segForm ms = 24576 := by rw [segForm, if_neg h0]
    have eO : segBehind ms d = two 0 ++ (two 516 ++ two ms) ++ d := by rw [segBehind, segOpt, if_neg h0]
    rw [eF, eO]
    clear eF eO
    have a1 := fun wx => addS (two fr) (two to) (by simp only [two_size]; omega) wx
    have a2 := fun wx => addS (two fr ++ two to) (wordT sq) (by simp only [ByteArray.size_append, two_size, wordT_size]; omega) wx
    have a3 := fun wx => addS (two fr ++ two to ++ wordT sq) (wordT ak) (by simp only [ByteArray.size_append, two_size, wordT_size]; omega) wx
    have a4 := fun wx => addS (two fr ++ two to ++ wordT sq ++ wordT ak) (two (24576 + fl)) (by simp only [ByteArray.size_append, two_size, wordT_size]; omega) wx
    have a5 := fun wx => addS (two fr ++ two to ++ wordT sq ++ wordT ak ++ two (24576 + fl)) (two wn) (by simp only [ByteArray.size_append, two_size, wordT_size]; omega) wx
    have a9 := fun wx => addS (two 516) (two ms) (by simp only [two_size]; omega) wx
    go_enter Try.func19, Try.ntmps19
    go_wp2_with (first | (go_at_call 41; refine (hok _).mono ?_; rintro _ w1 ⟨rfl, g1⟩; replace G := Since.trans G g1; obtain ⟨C0, C1, C2, C3, C4, C5, C6, C7⟩ := kept8 G))
    obtain ⟨wb, hwb⟩ : ∃ wb, w.alloc (.cells #[.int .i64 fr, .int .i64 to, .int .u32 sq, .int .u32 ak, .int .i64 fl, .int .i64 wn, .int .i64 ms, .string d] 28) = wb := ⟨_, rfl⟩
    have hk : ∀ x : Later wb, Since (w.alloc (.cells #[.int .i64 fr, .int .i64 to, .int .u32 sq, .int .u32 ak, .int .i64 fl, .int .i64 wn, .int .i64 ms, .string d] 28)) x.val := fun x => by rw [hwb]; exact x.ok
    rw [hwb] at G
    clear C0 C1 C2 C3 C4 C5 C6 C7
    have C0 : ∀ x : Later wb, x.val.cell? ⟨w.heap.size, 0, none⟩ = some (.int .i64 fr) := fun x => (kept8 (w := w) (hk x)).1
    have C1 : ∀ x : Later wb, x.val.cell? ⟨w.heap.size, 1, none⟩ = some (.int .i64 to) := fun x => (kept8 (w := w) (hk x)).2.1
    have C2 : ∀ x : Later wb, x.val.cell? ⟨w.heap.size, 2, none⟩ = some (.int .u32 sq) := fun x => (kept8 (w := w) (hk x)).2.2.1
    have C3 : ∀ x : Later wb, x.val.cell? ⟨w.heap.size, 3, none⟩ = some (.int .u32 ak) := fun x => (kept8 (w := w) (hk x)).2.2.2.1
    have C4 : ∀ x : Later wb, x.val.cell? ⟨w.heap.size, 4, none⟩ = some (.int .i64 fl) := fun x => (kept8 (w := w) (hk x)).2.2.2.2.1
    have C5 : ∀ x : Later wb, x.val.cell? ⟨w.heap.size, 5, none⟩ = some (.int .i64 wn) := fun x => (kept8 (w := w) (hk x)).2.2.2.2.2.1
    have C6 : ∀ x : Later wb, x.val.cell? ⟨w.heap.size, 6, none⟩ = some (.int .i64 ms) := fun x => (kept8 (w := w) (hk x)).2.2.2.2.2.2.1
    have C7 : ∀ x : Later wb, x.val.cell? ⟨w.heap.size, 7, none⟩ = some (.string d) := fun x => (kept8 (w := w) (hk x)).2.2.2.2.2.2.2
    have HB : Since w wb := by rw [← hwb]; exact (Since.refl _).alloc _
    clear hok hwb hk
    have hc : ∀ n (x : Later wb), Calls Try.prog 42 #[.int .i64 n] x.val fun e w'' => e = .returned (.string (two n)) ∧ ∃ y : Later wb, w'' = y.val := fun n x => calm_call (halfText n x.val)
    have hq : ∀ n (x : Later wb), IsWord n → Calls Try.prog 43 #[.int .u32 n] x.val fun e w'' => e = .returned (.string (wordT n)) ∧ ∃ y : Later wb, w'' = y.val := fun n x hn => calm_call ((implPutWord n hn.1 hn.2 x.val).mono fun _ _ ⟨h1, h2⟩ => ⟨h1, Since.of h2⟩)
    have hne : Nonempty (Later wb) := ⟨⟨wb, Since.refl _⟩⟩
    refine wp_region_calm (wb := wb) (by kernel_rfl) (by kernel_rfl) G ?_
    repeat (go_big_quiet_step (exact hc _ _))
    refine wpQuiet_nil ?_
    rintro _ ⟨x1, rfl⟩
    go_wp2
    refine wp_region_calm (wb := wb) (by kernel_rfl) (by kernel_rfl) x1.ok ?_
    repeat (go_big_quiet_step (first | exact hc _ _ | (refine hq _ _ ?_; assumption)))
    refine wpQuiet_nil ?_
    rintro _ ⟨x2, rfl⟩
    go_wp2
    rw [show two fr ++ two to ++ wordT sq ++ wordT ak ++ two (24576 + fl) ++ two wn = segAhead fr to sq ak fl wn 24576 from rfl]
    clear a1 a2 a3 a4 a5 hq hor
    have e1 := segAhead_size fr to sq ak fl wn 24576
    generalize hA : segAhead fr to sq ak fl wn 24576 = A at e1 ⊢
    have b1 := fun wx => addS (two 0) (two 516 ++ two ms) (by first | (simp only [two_size]; decide) | (simp only [ByteArray.size_append, two_size]; omega)) wx
    have b2 := fun wx => addS (two 0 ++ (two 516 ++ two ms)) d (by first | (simp only [ByteArray.size_append, two_size]; omega) | (have : (⟨#[]⟩ : ByteArray).size = 0 := rfl; simp only [ByteArray.size_append, two_size, this]; omega)) wx
    refine wp_region_calm (wb := wb) (by kernel_rfl) (by kernel_rfl) x2.ok ?_
    repeat (go_big_quiet_step (exact hc _ _))
    refine wpQuiet_nil ?_
    rintro _ ⟨x3, rfl⟩
    clear b1 b2
    have e2 : (two 0 ++ (two 516 ++ two ms) ++ d).size ≤ 542 := by first | (simp only [ByteArray.size_append, two_size]; omega) | (have : (⟨#[]⟩ : ByteArray).size = 0 := rfl; simp only [ByteArray.size_append, two_size, this]; omega)
    generalize hB : two 0 ++ (two 516 ++ two ms) ++ d = B at e2 ⊢
    have hsm := fun wx => sumOfSeg src dst A B hs hd (by omega) wx
    generalize hS : segSum src dst A B = k at hsm
    have ht := fun wx => halfText k wx
    have zk := two_size k
    generalize hT : two k = T at ht zk
    have b3 := fun wx => addS A T (by omega) wx
    have b4 := fun wx => addS (A ++ T) B (by simp only [ByteArray.size_append]; omega) wx
    have G9 := x3.ok
    clear hc
    go_wp2_with (first | (go_at_call 44; refine (hsm _).mono ?_; rintro _ w8 ⟨rfl, g8⟩; replace G9 := Since.trans G9 g8) | (go_at_call 42; refine (ht _).mono ?_; rintro _ w9 ⟨rfl, g9⟩; replace G9 := Since.trans G9 g9))
    go_ret
    refine ⟨?_, HB.trans G9⟩
    subst hT hS hA hB
    rfl
end Go.Proofs.Ytigjppamjfnmcaa
