/-
  Contracts of impl's and spec's NetSend, at every net of at most 1048576 texts of at most 1048576 bytes.
-/
import Derived.Test.YthjdcgckonckoaaRowApp
import Derived.Test.YthjdcgckonckoaaNetOk
namespace Go.Proofs.Ythjdcgckonckoaa
open Go.ChangeShapes Go.WideShapes Go.ChangeAt Go.RowKit
set_option linter.unusedVariables false

/-- Whether a text is taken. -/
def takes (ss : List ByteArray) (s : ByteArray) : Bool := netOk ss && (decide (s.size ≤ 2000) && decide (ss.length < 200))

/-- What NetSend makes of a net. -/
def netSend (ss : List ByteArray) (s : ByteArray) : List ByteArray := if takes ss s = true then ss ++ [s] else ss

theorem specCopy (a : Option Addr) (n cap : Nat) (ss : List ByteArray) (hn : n ≤ 1048576) (hnil : a = none → cap = 0) (w : World) (R : Reads w a n ss) :
    Calls Try.prog 20 #[.agg #[.slice a n cap]] w fun e w' => ∃ g c, e = .returned (.agg #[.slice (some ⟨g, 0, none⟩) n c]) ∧ Texts w' w.heap.size g n c ss ∧ Since w w' := by
  have G : Since w (((w.alloc (.cells #[.slice a n cap] 26)).alloc (.cells #[.slice none 0 0] 26)).alloc (.cells #[] 9)) := (((Since.refl _).alloc _).alloc _).alloc _
  have T0 := empty_texts ((w.alloc (.cells #[.slice a n cap] 26)).alloc (.cells #[.slice none 0 0] 26))
  have R0 := R.since G
  have A := (Rec1.new (w.alloc (.cells #[.slice a n cap] 26)) (.slice none 0 0) 26).since ((Since.refl _).alloc (.cells #[] 9))
  simp only [World.size_alloc] at A T0
  clear R
  go_enter Try.func20, Try.ntmps20
  go_wp2_with (at_builtin; refine app_texts rfl _ _ rfl rfl T0 rfl R0 hnil (by omega) (by simp) ?_)
  intro g c w1 T1 t1
  have A1 := A.touch t1 (by omega)
  have cA := A1.c0
  have fA := A1.fz 0
  have hlow := T1.low
  go_wp2
  refine bodyPost_ret (v := .agg #[.slice (some ⟨g, 0, none⟩) n c]) ?_ rfl ⟨g, c, rfl, ?_, ?_⟩
  · simp [results, go_sem, cA]
  · have := (T1.other (b := w.heap.size + 1) (by omega) 0 (.slice (some ⟨g, 0, none⟩) (0 + n) c)).raise (B' := w.heap.size) (by omega)
    simpa using this
  · exact since_put1 (G.touch t1 (by omega)) (by omega) 0 _

theorem Texts.ne_rec {w : World} {B g n cap b : Nat} {ss : List ByteArray} {a : Option Addr} {l c : Nat} (T : Texts w B g n cap ss) (hn : 0 < n) (R : Rec1 b w (.slice a l c)) : g ≠ b := by
  rintro rfl
  have h1 := T.cell 0 hn
  have h2 := R.c0
  rw [h1] at h2
  simp at h2

theorem takes_cases (ss : List ByteArray) (s : ByteArray) (n : Nat) (hl : ss.length = n) : (netOk ss = true ∧ (s.size : Int) ≤ 2000 ∧ (n : Int) < 200 ∧ netSend ss s = ss ++ [s]) ∨ (netSend ss s = ss ∧ (netOk ss = false ∨ (netOk ss = true ∧ ¬ (s.size : Int) ≤ 2000) ∨ (netOk ss = true ∧ (s.size : Int) ≤ 2000 ∧ ¬ (n : Int) < 200))) := by
  unfold netSend takes
  rw [hl]
  cases netOk ss
  · right
    simp
  · by_cases h1 : s.size ≤ 2000
    · by_cases h2 : n < 200
      · left
        simp [h1, h2]
        omega
      · right
        simp [h1, h2]
        omega
    · right
      simp [h1]
      omega

set_option maxHeartbeats 1000000 in
set_option maxRecDepth 10000 in
theorem specNetSend (a : Option Addr) (n cap : Nat) (ss : List ByteArray) (s : ByteArray) (hn : n ≤ 1048576) (hnil : a = none → cap = 0) (w : World) (R : Reads w a n ss) :
    Calls Try.prog 31 #[.agg #[.slice a n cap], .string s] w fun e w' => ∃ g m c, e = .returned (.agg #[.slice (some ⟨g, 0, none⟩) m c]) ∧ Texts w' w.heap.size g m c (netSend ss s) ∧ Since w w' := by
  have G : Since w ((w.alloc (.cells #[.slice a n cap] 26)).alloc (.cells #[.slice none 0 0] 26)) := ((Since.refl _).alloc _).alloc _
  have N := (Rec1.new w (.slice a n cap) 26).since ((Since.refl _).alloc (.cells #[.slice none 0 0] 26))
  have A := Rec1.new (w.alloc (.cells #[.slice a n cap] 26)) (.slice none 0 0) 26
  simp only [World.size_alloc] at A
  have hlen := R.len
  go_enter Try.func31, Try.ntmps31
  go_wp2_with (fail)
  refine (specCopy a n cap ss hn hnil _ (R.since G)).mono ?_
  rintro _ w1 ⟨g, c, rfl, T, g1⟩
  replace G := G.trans g1
  replace N := N.since g1
  replace A := A.since g1
  have hlow := T.low
  have h1s := G.le
  simp only [World.size_alloc] at hlow
  have cN := N.c0
  have O := Rec1.new w1 (.slice (some ⟨g, 0, none⟩) n c) 26
  have k2 := (Since.refl w1).alloc (.cells #[.slice (some ⟨g, 0, none⟩) n c] 26)
  have hO : w.heap.size ≤ w1.heap.size := G.le
  have hgO : g < w1.heap.size := T.lt
  have hAO := A.lt
  have T2 := (T.since k2).raise (B' := w.heap.size) (by omega)
  have G2 := G.trans k2
  have N2 := N.since k2
  have A2 := A.since k2
  have cN2 := N2.c0
  go_wp2_with (fail)
  refine (specNetOk a n cap ss _ (R.since G2)).mono ?_
  rintro _ w3 ⟨rfl, k3⟩
  have G3 := G2.trans k3
  have N3 := N2.since k3
  have A3 := A2.since k3
  have O3 := O.since k3
  have T3 := T2.since k3
  have cN3 := N3.c0
  have cO3 := O3.c0
  have cA3 := A3.c0
  have fO3 := O3.fz 0
  have fA3 := A3.fz 0
  have hs3 := G3.le
  generalize w1.heap.size = bO at O3 cO3 fO3 hgO hAO hO ⊢
  rcases takes_cases ss s n hlen with ⟨hb, h1, h2, hx⟩ | ⟨hx, hc⟩
  all_goals replace hx : Hid _ := hx
  · rw [hb]
    go_wp2_with (at_builtin; refine app_texts rfl _ _ rfl rfl (T3.since ((Since.refl _).alloc _)) rfl (one_reads w3 s) (by simp) (by omega) (by simp; omega) ?_)
    intro g' c' w4 T4 t4
    have k4 : Touch g w3 w4 := (Touch.of_since ((Since.refl w3).alloc (.cells #[.string s] 9)) g).trans t4
    have O4 := O3.touch k4 (by omega)
    have A4 := A3.touch k4 (by omega)
    have cO4 := O4.c0
    have cA4 := A4.c0
    have fO4 := O4.fz 0
    have O5 := O4.put (.slice (some ⟨g', 0, none⟩) (n + 1) c')
    have A5 := A4.other (a := bO) (by omega) 0 (.slice (some ⟨g', 0, none⟩) (n + 1) c')
    have cO5 := O5.c0
    have cA5 := A5.c0
    have fA5 := A5.fz 0
    have hgn : g' ≠ bO ∧ g' ≠ w.heap.size + 1 := ⟨T4.ne_rec (by omega) O4, T4.ne_rec (by omega) A4⟩
    go_wp2
    refine bodyPost_ret (v := .agg #[.slice (some ⟨g', 0, none⟩) (n + 1) c']) ?_ rfl ⟨g', n + 1, c', rfl, ?_, ?_⟩
    · simp [results, go_sem, cA5]
    · rw [hx.out]
      exact (T4.other hgn.1 0 _).other hgn.2 0 _
    · exact since_put1 (since_put1 (G3.touch k4 (by omega)) (by omega) 0 _) (by omega) 0 _
  · rcases hc with hb | ⟨hb, h1⟩ | ⟨hb, h1, h2⟩
    all_goals
      rw [hb]
      clear R hnil hn T T2 N2 A2 G2 k2 cN2 N A O N3 cN g1 G hlen
      go_wp2
      refine bodyPost_ret (v := .agg #[.slice (some ⟨g, 0, none⟩) n c]) ?_ rfl ⟨g, n, c, rfl, ?_, ?_⟩
      · simp [results, go_sem, cA3]
      · rw [hx.out]
        exact T3.other (by omega) 0 _
      · exact since_put1 G3 (by omega) 0 _

set_option maxHeartbeats 1000000 in
set_option maxRecDepth 10000 in
theorem implNetSend (a : Option Addr) (n cap : Nat) (ss : List ByteArray) (s : ByteArray) (hn : n ≤ 1048576) (hsm : ∀ i, i < n → (txt ss i).size ≤ 1048576) (hs : s.size ≤ 1048576) (w : World) (R : Reads w a n ss)
    (hok : ∀ wx, Since w wx → Calls Try.prog 8 #[.agg #[.slice a n cap]] wx fun e w' => e = .returned (.bool (netOk ss)) ∧ Since wx w') :
    Calls Try.prog 10 #[.agg #[.slice a n cap], .string s] w fun e w' => ∃ g m c, e = .returned (.agg #[.slice (some ⟨g, 0, none⟩) m c]) ∧ Texts w' w.heap.size g m c (netSend ss s) ∧ Since w w' := by
  have G : Since w ((w.alloc (.cells #[.slice a n cap] 26)).alloc (.cells #[.slice none 0 0] 26)) := ((Since.refl _).alloc _).alloc _
  have N := (Rec1.new w (.slice a n cap) 26).since ((Since.refl _).alloc (.cells #[.slice none 0 0] 26))
  have A := Rec1.new (w.alloc (.cells #[.slice a n cap] 26)) (.slice none 0 0) 26
  simp only [World.size_alloc] at A
  have hlen := R.len
  go_enter Try.func10, Try.ntmps10
  go_wp2_with (fail)
  refine (freshTexts a n cap ss hn hsm _ (R.since G)).mono ?_
  rintro _ w1 ⟨g, rfl, T, g1⟩
  replace G := G.trans g1
  replace N := N.since g1
  replace A := A.since g1
  have hlow := T.low
  simp only [World.size_alloc] at hlow
  have cN := N.c0
  go_wp2_with (fail)
  refine (hok _ G).mono ?_
  rintro _ w3 ⟨rfl, k3⟩
  have G3 := G.trans k3
  have A3 := A.since k3
  have T3 := (T.since k3).raise (B' := w.heap.size) (by omega)
  have cA3 := A3.c0
  have fA3 := A3.fz 0
  have hs3 := G3.le
  rcases takes_cases ss s n hlen with ⟨hb, h1, h2, hx⟩ | ⟨hx, hc⟩
  all_goals replace hx : Hid _ := hx
  · rw [hb]
    clear R hok T N A cN g1 hlen hsm hb
    have hcl := fun wx => clone s hs wx
    go_wp2_with (first | (go_at_call 24; refine (hcl _).mono ?_; clear hcl; rintro _ w5 ⟨rfl, k5⟩; replace G3 := G3.trans k5; replace A3 := A3.since k5; replace T3 := T3.since k5; replace hs3 := G3.le) | (at_builtin; refine app_texts rfl _ _ rfl rfl (T3.since ((Since.refl _).alloc _)) rfl (one_reads _ s) (by simp) (by omega) (by simp; omega) ?_))
    intro g' c' w4 T4 t4
    have k4 : Touch g w5 w4 := (Touch.of_since ((Since.refl w5).alloc (.cells #[.string s] 9)) g).trans t4
    have A4 := A3.touch k4 (by omega)
    have cA4 := A4.c0
    have fA4 := A4.fz 0
    have hgn : g' ≠ w.heap.size + 1 := T4.ne_rec (by omega) A4
    go_wp2
    refine bodyPost_ret (v := .agg #[.slice (some ⟨g', 0, none⟩) (n + 1) c']) ?_ rfl ⟨g', n + 1, c', rfl, ?_, ?_⟩
    · simp [results, go_sem, cA4]
    · rw [hx.out]
      exact T4.other hgn 0 _
    · exact since_put1 (G3.touch k4 (by omega)) (by omega) 0 _
  · rcases hc with hb | ⟨hb, h1⟩ | ⟨hb, h1, h2⟩
    all_goals
      rw [hb]
      clear R hok T N A cN g1 hlen hsm hb
      go_wp2
      refine bodyPost_ret (v := .agg #[.slice (some ⟨g, 0, none⟩) n n]) ?_ rfl ⟨g, n, n, rfl, ?_, ?_⟩
      · simp [results, go_sem, cA3]
      · rw [hx.out]
        exact T3.other (by omega) 0 _
      · exact since_put1 G3 (by omega) 0 _

theorem implNetSendOwn (B g n cap : Nat) (ss : List ByteArray) (s : ByteArray) (hn : n ≤ 1048576) (hsm : ∀ i, i < n → (txt ss i).size ≤ 1048576) (hs : s.size ≤ 1048576) (w : World) (T : Texts w B g n cap ss) :
    Calls Try.prog 10 #[.agg #[.slice (some ⟨g, 0, none⟩) n cap], .string s] w fun e w' => ∃ g m c, e = .returned (.agg #[.slice (some ⟨g, 0, none⟩) m c]) ∧ Texts w' w.heap.size g m c (netSend ss s) ∧ Since w w' :=
  implNetSend (some ⟨g, 0, none⟩) n cap ss s hn hsm hs w T.reads (fun wx h => implNetOk g n cap ss B wx (T.since h))
end Go.Proofs.Ythjdcgckonckoaa
