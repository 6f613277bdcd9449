/-
  Contracts of impl's and spec's NetSend, at every net of at most 1048576 texts of at most 1048576 bytes.
-/
import Derived.Test.YtigjppamjfnmcaaRowApp
import Derived.Test.YtigjppamjfnmcaaNetOk
namespace Go.Proofs.Ytigjppamjfnmcaa
open Go.ChangeShapes Go.WideShapes Go.ChangeAt Go.RowKit
set_option linter.unusedVariables false

/-- Whether a text is taken. -/
def takes (ss : List ByteArray) (s : ByteArray) : Bool := netOk ss && (decide (s.size ≤ 2000) && decide (ss.length < 200))

/-- What NetSend makes of a net. -/
def netSend (ss : List ByteArray) (s : ByteArray) : List ByteArray := if takes ss s = true then ss ++ [s] else ss

theorem Texts.ne_rec {w : World} {B g n cap b : Nat} {ss : List ByteArray} {a : Option Addr} {l c : Nat} (T : Texts w B g n cap ss) (hn : 0 < n) (R : Rec1 b w (.slice a l c)) : g ≠ b := by
  rintro rfl
  have h1 := T.cell 0 hn
  have h2 := R.c0
  rw [h1] at h2
  simp at h2

theorem takes_cases (ss : List ByteArray) (s : ByteArray) (n : Nat) (hl : ss.length = n) : (netOk ss = true ∧ (s.size : Int) ≤ 2000 ∧ (n : Int) < 200 ∧ netSend ss s = ss ++ [s]) ∨ (netSend ss s = ss ∧ (netOk ss = false ∨ (netOk ss = true ∧ ¬ (s.size : Int) ≤ 2000) ∨ (netOk ss = true ∧ (s.size : Int) ≤ 2000 ∧ ¬ (n : Int) < 200))) := by
  unfold netSend takes
  rw [hl]
  cases netOk ss
  · right
    simp
  · by_cases h1 : s.size ≤ 2000
    · by_cases h2 : n < 200
      · left
        simp [h1, h2]
        omega
      · right
        simp [h1, h2]
        omega
    · right
      simp [h1]
      omega

set_option maxHeartbeats 1000000 in
set_option maxRecDepth 10000 in
theorem implNetSend (a : Option Addr) (n cap : Nat) (ss : List ByteArray) (s : ByteArray) (hn : n ≤ 1048576) (hsm : ∀ i, i < n → (txt ss i).size ≤ 1048576) (hs : s.size ≤ 1048576) (w : World) (R : Reads w a n ss)
    (hok : ∀ wx, Since w wx → Calls Try.prog 22 #[.agg #[.slice a n cap]] wx fun e w' => e = .returned (.bool (netOk ss)) ∧ Since wx w') :
    Calls Try.prog 8 #[.agg #[.slice a n cap], .string s] w fun e w' => ∃ g m c, e = .returned (.agg #[.slice (some ⟨g, 0, none⟩) m c]) ∧ Texts w' w.heap.size g m c (netSend ss s) ∧ Since w w' := by
  have G : Since w ((w.alloc (.cells #[.slice a n cap] 34)).alloc (.cells #[.slice none 0 0] 34)) := ((Since.refl _).alloc _).alloc _
  have N := (Rec1.new w (.slice a n cap) 34).since ((Since.refl _).alloc (.cells #[.slice none 0 0] 34))
  have A := Rec1.new (w.alloc (.cells #[.slice a n cap] 34)) (.slice none 0 0) 34
  simp only [World.size_alloc] at A
  have hlen := R.len
  go_enter Try.func8, Try.ntmps8
  go_wp2_with (fail)
  refine (freshTexts a n cap ss hn hsm _ (R.since G)).mono ?_
  rintro _ w1 ⟨g, rfl, T, g1⟩
  replace G := G.trans g1
  replace N := N.since g1
  replace A := A.since g1
  have hlow := T.low
  simp only [World.size_alloc] at hlow
  have cN := N.c0
  go_wp2_with (fail)
  refine (hok _ G).mono ?_
  rintro _ w3 ⟨rfl, k3⟩
  have G3 := G.trans k3
  have A3 := A.since k3
  have T3 := (T.since k3).raise (B' := w.heap.size) (by omega)
  have cA3 := A3.c0
  have fA3 := A3.fz 0
  have hs3 := G3.le
  rcases takes_cases ss s n hlen with ⟨hb, h1, h2, hx⟩ | ⟨hx, hc⟩
  all_goals replace hx : Hid _ := hx
  · rw [hb]
    clear R hok T N A cN g1 hlen hsm hb
    have hcl := fun wx => clone s hs wx
    go_wp2_with (first | (go_at_call 23; refine (hcl _).mono ?_; clear hcl; rintro _ w5 ⟨rfl, k5⟩; replace G3 := G3.trans k5; replace A3 := A3.since k5; replace T3 := T3.since k5; replace hs3 := G3.le) | (at_builtin; refine app_texts rfl _ _ rfl rfl (T3.since ((Since.refl _).alloc _)) rfl (one_reads _ s) (by simp) (by omega) (by simp; omega) ?_))
    intro g' c' w4 T4 t4
    have k4 : Touch g w5 w4 := (Touch.of_since ((Since.refl w5).alloc (.cells #[.string s] 9)) g).trans t4
    have A4 := A3.touch k4 (by omega)
    have cA4 := A4.c0
    have fA4 := A4.fz 0
    have hgn : g' ≠ w.heap.size + 1 := T4.ne_rec (by omega) A4
    go_wp2
    refine bodyPost_ret (v := .agg #[.slice (some ⟨g', 0, none⟩) (n + 1) c']) ?_ rfl ⟨g', n + 1, c', rfl, ?_, ?_⟩
    · simp [results, go_sem, cA4]
    · rw [hx.out]
      exact T4.other hgn 0 _
    · exact since_put1 (G3.touch k4 (by omega)) (by omega) 0 _
  · rcases hc with hb | ⟨hb, h1⟩ | ⟨hb, h1, h2⟩
    all_goals
      rw [hb]
      clear R hok T N A cN g1 hlen hsm hb
      go_wp2
      refine bodyPost_ret (v := .agg #[.slice (some ⟨g, 0, none⟩) n n]) ?_ rfl ⟨g, n, n, rfl, ?_, ?_⟩
      · simp [results, go_sem, cA3]
      · rw [hx.out]
        exact T3.other (by omega) 0 _
      · exact since_put1 G3 (by omega) 0 _

theorem implNetSendOwn (B g n cap : Nat) (ss : List ByteArray) (s : ByteArray) (hn : n ≤ 1048576) (hsm : ∀ i, i < n → (txt ss i).size ≤ 1048576) (hs : s.size ≤ 1048576) (w : World) (T : Texts w B g n cap ss) :
    Calls Try.prog 8 #[.agg #[.slice (some ⟨g, 0, none⟩) n cap], .string s] w fun e w' => ∃ g m c, e = .returned (.agg #[.slice (some ⟨g, 0, none⟩) m c]) ∧ Texts w' w.heap.size g m c (netSend ss s) ∧ Since w w' :=
  implNetSend (some ⟨g, 0, none⟩) n cap ss s hn hsm hs w T.reads (fun wx h => implNetOk g n cap ss B wx (T.since h))
end Go.Proofs.Ytigjppamjfnmcaa
