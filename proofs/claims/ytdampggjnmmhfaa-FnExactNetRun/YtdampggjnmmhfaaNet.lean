/-
  Contracts of the laws' functions over a net: copied, measured, held against another, marked.
-/
import Derived.Test.YtdampggjnmmhfaaRowSz
import Derived.Test.YtdampggjnmmhfaaRowTo
import Derived.Test.YtdampggjnmmhfaaMarks
import Derived.Laws.ByValue
namespace Go.Proofs.Ytdampggjnmmhfaa
open Go.ChangeShapes Go.WideShapes Go.ChangeAt Go.RowKit
set_option linter.unusedVariables false

theorem szNet (a : Option Addr) (n cap : Nat) (ss : List ByteArray) (left : Int) (h0 : 0 ≤ left) (hl : left ≤ 1048576) (w : World) (R : Reads w a n ss) (hsm : ∀ i, i < n → (txt ss i).size ≤ maxLen) :
    Calls Try.prog 8 #[.agg #[.slice a n cap], .int .i64 left] w fun e w' => ∃ r : Int, e = .returned (.int .i64 r) ∧ r ≤ left ∧ (0 ≤ r → (n : Int) ≤ left ∧ ∀ i, i < n → ((txt ss i).size : Int) ≤ left) ∧ Since w w' := by
  have hs := szTexts a n cap ss left h0 hl (w.alloc (.cells #[.slice a n cap] 24)) (R.since ((Since.refl _).alloc _)) hsm
  clear R hsm
  go_enter Try.func8, Try.ntmps8
  go_wp2_with (go_at_call 31; refine hs.mono ?_; rintro _ _ ⟨⟨r, rfl, hr, hx⟩, rfl⟩; replace hx : Hid _ := hx)
  all_goals go_ret
  · exact ⟨-1, rfl, by omega, by omega, (Since.refl _).alloc _⟩
  · exact ⟨r, rfl, by omega, hx.out, (Since.refl _).alloc _⟩

theorem toNet (a : Option Addr) (n cap : Nat) (ss : List ByteArray) (hn : n ≤ 1048576) (w : World) (R : Reads w a n ss) :
    Calls Try.prog 10 #[.agg #[.slice a n cap]] w fun e w' => ∃ g, e = .returned (.agg #[.slice (some ⟨g, 0, none⟩) n n]) ∧ Texts w' w.heap.size g n n ss ∧ Since w w' := by
  have ht := toTexts a n cap ss hn (((w.alloc (.cells #[.slice a n cap] 24)).alloc (.cells #[.slice none 0 0] 27)).alloc (.cells #[.slice none 0 0] 27)) (R.since ((((Since.refl _).alloc _).alloc _).alloc _))
  have A := Rec1.new (w.alloc (.cells #[.slice a n cap] 24)) (.slice none 0 0) 27
  have B := Rec1.new ((w.alloc (.cells #[.slice a n cap] 24)).alloc (.cells #[.slice none 0 0] 27)) (.slice none 0 0) 27
  replace A := A.since ((Since.refl _).alloc (.cells #[.slice none 0 0] 27))
  have G : Since w (((w.alloc (.cells #[.slice a n cap] 24)).alloc (.cells #[.slice none 0 0] 27)).alloc (.cells #[.slice none 0 0] 27)) := (((Since.refl _).alloc _).alloc _).alloc _
  clear R
  simp only [World.size_alloc] at A B ht
  go_enter Try.func10, Try.ntmps10
  go_wp2_with (go_at_call 32; refine ht.mono ?_; rintro _ w1 ⟨g, rfl, T, g1⟩; replace A := A.since g1; replace B := B.since g1; have cA := A.c0; have cB := B.c0; have fA := A.fz 0; have fB := B.fz 0)
  refine bodyPost_ret (v := .agg #[.slice (some ⟨g, 0, none⟩) n n]) ?_ rfl ⟨g, rfl, ?_, ?_⟩
  · simp [results, go_sem, cA]
  · have hlow := T.low
    exact ((T.other (by omega) 0 _).other (by omega) 0 _).raise (by omega)
  · exact since_put1 (since_put1 (G.trans g1) (by omega) 0 _) (by omega) 0 _

/-- A net of our own, as a value: its texts. -/
def IsNet (B : Nat) (n cap : Nat) (ss : List ByteArray) (x : World) (v : Value) : Prop := ∃ g, v = .agg #[.slice (some ⟨g, 0, none⟩) n cap] ∧ Texts x B g n cap ss

theorem IsNet.since {B n cap : Nat} {ss : List ByteArray} {x x' : World} {v : Value} (h : IsNet B n cap ss x v) (k : Since x x') : IsNet B n cap ss x' v := by
  obtain ⟨g, e, T⟩ := h
  exact ⟨g, e, T.since k⟩

theorem eqNet (a b : Option Addr) (n m ca cb : Nat) (ss ts : List ByteArray) (w : World) (R : Reads w a n ss) (Q : Reads w b m ts) :
    Calls Try.prog 12 #[.agg #[.slice a n ca], .agg #[.slice b m cb]] w fun e w' => e = .returned (.bool (decide (ss = ts))) ∧ Since w w' := by
  have G : Since w ((w.alloc (.cells #[.slice a n ca] 27)).alloc (.cells #[.slice b m cb] 27)) := ((Since.refl _).alloc _).alloc _
  have he := eqTexts a b n m ca cb ss ts _ (R.since G) (Q.since G)
  clear R Q
  generalize decide (ss = ts) = d at he ⊢
  cases d
  all_goals
    go_enter Try.func12, Try.ntmps12
    go_wp2_with (go_at_call 24; refine he.mono ?_; rintro _ w1 ⟨rfl, g1⟩)
    go_ret
    exact ⟨rfl, G.trans g1⟩

theorem markNet (B g n cap : Nat) (ss : List ByteArray) (k : Int) (hk0 : 1 ≤ k) (hk1 : k + n ≤ 1073741824) (w : World) (T : Texts w B g n cap ss) :
    Calls Try.prog 15 #[.agg #[.slice (some ⟨g, 0, none⟩) n cap], .int .i64 k] w fun e w' => e = .returned (.int .i64 (k + n)) ∧ Touch g w w' ∧ ∃ ms, Marked k n ms ∧ Texts w' B g n cap ms := by
  have G : Since w (w.alloc (.cells #[.slice (some ⟨g, 0, none⟩) n cap] 27)) := (Since.refl _).alloc _
  have hm := markTexts B g n cap ss k hk0 hk1 _ (T.since G)
  clear T
  go_enter Try.func15, Try.ntmps15
  go_wp2_with (go_at_call 27; refine hm.mono ?_; rintro _ w1 ⟨rfl, t1, hx⟩; replace hx : Hid _ := hx)
  go_ret
  exact ⟨rfl, (Touch.of_since G g).trans t1, hx.out⟩

theorem heldNet (a : Option Addr) (n cap : Nat) (ms : List ByteArray) (k : Int) (hk0 : 1 ≤ k) (hk1 : k + n ≤ 1073741824) (w : World) (R : Reads w a n ms) (hM : Marked k n ms) :
    Calls Try.prog 16 #[.agg #[.slice a n cap], .int .i64 k] w fun e w' => e = .returned (.int .i64 (k + n)) ∧ Since w w' := by
  have G : Since w (w.alloc (.cells #[.slice a n cap] 27)) := (Since.refl _).alloc _
  have hh := heldTexts a n cap ms k hk0 hk1 _ (R.since G) hM
  have hpos : ¬ k + (n : Int) < 0 := by omega
  clear R hM
  go_enter Try.func16, Try.ntmps16
  go_wp2_with (go_at_call 28; refine hh.mono ?_; rintro _ w1 ⟨rfl, g1⟩)
  go_ret
  exact ⟨rfl, G.trans g1⟩
end Go.Proofs.Ytdampggjnmmhfaa
