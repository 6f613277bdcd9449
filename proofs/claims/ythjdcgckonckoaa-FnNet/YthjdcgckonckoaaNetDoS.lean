/-
  Contract of spec's NetDo, at every op.
-/
import Derived.Test.YthjdcgckonckoaaNetFate
import Derived.Test.YthjdcgckonckoaaDrawnTail
import Derived.Deep.DeepCutAuto
namespace Go.Proofs.Ythjdcgckonckoaa
open Go.ChangeShapes Go.WideShapes Go.ChangeAt Go.RowKit
set_option linter.unusedVariables false

theorem append_empty (ty B g : Nat) (w : World) (T : Texts w B g 0 0 []) (x : Addr) (m c : Nat) (ts : List ByteArray) (R : Reads w (some x) m ts) (hm : m ≤ 8000000000000) (hB : B ≤ w.heap.size) :
    ∃ g' cap' w', (Builtin.append_ #[24, 24] ty #[.slice (some ⟨g, 0, none⟩) 0 0, .slice (some x) m c]).run Try.prog w = .ok (.slice (some ⟨g', 0, none⟩) m cap') w' ∧ Texts w' B g' m cap' ts ∧ Since w w' := by
  obtain ⟨ii, hi, hz0, hz1, hz2⟩ := info_parts info_str
  obtain ⟨g', cap', w', hr, T', t'⟩ := append_texts ty B g 0 0 [] w T (some x) m c ts R (by simp) (by omega) hB
  simp only [Nat.zero_add, List.nil_append] at hr T'
  have hcells : ∀ j v, (ts.map Value.string)[j]? = some v → w.cell? (x.add j) = some v := fun j u hj => by
    have hjl : j < ts.length := by
      have := (List.getElem?_eq_some_iff.1 hj).1
      simpa using this
    obtain ⟨y, hy, _, hc⟩ := R.cell j (by rw [← R.len]; exact hjl)
    cases hy
    rw [hc, ← hj]
    simp [txt, List.getD, List.getElem?_eq_getElem hjl]
  refine ⟨g', cap', w', hr, T', ?_⟩
  by_cases h0 : m = 0
  · subst h0
    have ht : ts = [] := List.eq_nil_of_length_eq_zero R.len
    subst ht
    obtain ⟨cur, h2, h3, h4, h5, h6, h7⟩ := T.parts
    have hr2 := run_append_room (P := Try.prog) w 24 ty 9 ii Try.underlying24 hi g 0 0 cur h3 x 0 c [] (by simp) (by simp) (by simp) (by omega) (by simp)
    rw [hr2] at hr
    have e : (cur.toList.take (0 * ii.size) ++ [] ++ cur.toList.drop (0 * ii.size + ([] : List Value).length)).toArray = cur := by simp
    rw [e, setRow_self w g cur _ _ h3] at hr
    injection hr with _ hw
    subst hw
    exact Since.refl _
  · have hr2 := run_append_grow (P := Try.prog) w 24 ty 9 ii (.string ByteArray.empty) Try.underlying24 hi hz0 ⟨g, 0, none⟩ 0 0 [] (by simp) (by simp) x m c (ts.map Value.string) (by simp [R.len, hz1]) hcells (by omega) (by omega) (growslice_fits (by omega) (by rw [hz2]; omega))
    simp only [Nat.zero_add] at hr2
    rw [hr2] at hr
    injection hr with _ hw
    subst hw
    exact (Since.refl w).drew.alloc _

theorem Texts.head {w : World} {B g n cap : Nat} {ss : List ByteArray} (T : Texts w B g n cap ss) (i : Nat) (hi : i ≤ n) : Reads w (some ⟨g, 0, none⟩) i (ss.take i) := by
  have hl := T.len
  refine ⟨by rw [List.length_take]; omega, Nat.le_trans hi T.reads.most, fun j hj => ?_⟩
  obtain ⟨x, hx, hb, hc⟩ := T.reads.cell j (by omega)
  refine ⟨x, hx, hb, ?_⟩
  rw [hc]
  simp [txt, List.getD, hj]

theorem Texts.tail {w : World} {B g n cap : Nat} {ss : List ByteArray} (T : Texts w B g n cap ss) (i : Nat) (hi : i ≤ n) (ao : Option Addr) (h : ao = if cap = i then some ⟨g, 0, none⟩ else some ⟨g, i, none⟩) : Reads w ao (n - i) (ss.drop i) := by
  have hl := T.len
  have hr := T.room
  refine ⟨by rw [List.length_drop]; omega, Nat.le_trans (Nat.sub_le _ _) T.reads.most, fun j hj => ?_⟩
  rw [if_neg (by omega)] at h
  refine ⟨_, h, T.lt, ?_⟩
  have := T.cell (i + j) (by omega)
  rw [show (⟨g, i, none⟩ : Addr).add j = ⟨g, i + j, none⟩ by rw [Addr.add_lit], this]
  simp [txt, List.getD, List.getElem?_drop]

theorem placeOf_rem (at_ : Int) (n : Nat) (h0 : 0 < n) : (at_.tmod (n : Int) < 0 ∧ at_.tmod (n : Int) + (n : Int) = (placeOf at_ n : Int)) ∨ (0 ≤ at_.tmod (n : Int) ∧ at_.tmod (n : Int) = (placeOf at_ n : Int)) := by
  have h1 := Int.emod_nonneg at_ (show (n : Int) ≠ 0 by omega)
  have h2 := Int.emod_lt_of_pos at_ (show (0 : Int) < (n : Int) by omega)
  have e : (placeOf at_ n : Int) = at_ % (n : Int) := by
    unfold placeOf
    omega
  rw [e]
  have hd := Int.tmod_eq_emod (a := at_) (b := (n : Int))
  by_cases h : 0 ≤ at_ ∨ (n : Int) ∣ at_
  · rw [if_pos h] at hd
    right
    omega
  · rw [if_neg h] at hd
    left
    have hne : at_ % (n : Int) ≠ 0 := fun h3 => h (.inr (Int.dvd_of_emod_eq_zero h3))
    have habs : ((n : Int).natAbs : Int) = (n : Int) := by simp
    omega

theorem netSend_ok (ss : List ByteArray) (s : ByteArray) (hb : netOk ss = true) (hs : s.size ≤ 2000) : netSend ss s = if ss.length < 200 then ss ++ [s] else ss := by
  unfold netSend takes
  rw [hb, decide_eq_true hs]
  by_cases h : ss.length < 200 <;> simp [h]
end Go.Proofs.Ythjdcgckonckoaa
