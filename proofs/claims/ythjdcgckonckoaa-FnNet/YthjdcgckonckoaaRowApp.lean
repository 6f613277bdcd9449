/-
  append to a list of texts of our own; a new list of the same texts by append, and by strings.Clone of each.
-/
import Derived.Test.YthjdcgckonckoaaRowTo
import Derived.Test.YthjdcgckonckoaaClone
namespace Go.Proofs.Ythjdcgckonckoaa
open Go.ChangeShapes Go.WideShapes Go.ChangeAt Go.RowKit
set_option linter.unusedVariables false

theorem Touch.of_grown {g : Nat} {w w' : World} (h : w.grownBy w' (some g)) : Touch g w w' := ⟨h.os, h.tape, h.output, h.size, fun k hk hne => h.block k hk (fun e => hne (by simpa using e))⟩

theorem append_texts (ty B g n cap : Nat) (ss : List ByteArray) (w : World) (T : Texts w B g n cap ss) (ao : Option Addr) (m c : Nat) (ts : List ByteArray) (R : Reads w ao m ts) (hnil : ao = none → c = 0) (hm : n + m ≤ 8000000000000) (hB : B ≤ w.heap.size) :
    ∃ g' cap' w', (Builtin.append_ #[24, 24] ty #[.slice (some ⟨g, 0, none⟩) n cap, .slice ao m c]).run Try.prog w = .ok (.slice (some ⟨g', 0, none⟩) (n + m) cap') w' ∧ Texts w' B g' (n + m) cap' (ss ++ ts) ∧ Touch g w w' := by
  obtain ⟨ii, hi, hz0, hz1, hz2⟩ := info_parts info_str
  have hlen : (ss ++ ts).length = n + m := by rw [List.length_append, T.len, R.len]
  cases ao with
  | none =>
    have hm0 : m = 0 := by
      rcases Nat.eq_zero_or_pos m with h | h
      · exact h
      · obtain ⟨x, hx, _⟩ := R.cell 0 h
        cases hx
    obtain rfl : c = 0 := hnil rfl
    subst hm0
    have ht : ts = [] := List.eq_nil_of_length_eq_zero R.len
    subst ht
    have hrun := run_append_owned_none (P := Try.prog) w B 24 ty 9 ii 1 Try.underlying24 hi _ n _ T.2
    exact ⟨g, cap, w, hrun, by simpa using T, Touch.refl _ _⟩
  | some x =>
    obtain ⟨v', w', hr, h2, h3, h4⟩ := run_append_own (P := Try.prog) w B 24 ty 9 ii (.string ByteArray.empty) 1 16 Try.underlying24 hi hz0 hz1 hz2 rfl (by decide) _ n _ T.2 x m c (ts.map Value.string) (by simp [R.len]) (fun j u hj => by
        have hjl : j < ts.length := by
          have := (List.getElem?_eq_some_iff.1 hj).1
          simpa using this
        obtain ⟨y, hy, _, hc⟩ := R.cell j (by rw [← R.len]; exact hjl)
        cases hy
        rw [hc, ← hj]
        simp [txt, List.getD, List.getElem?_eq_getElem hjl]) (fun u hu => by
        obtain ⟨s, _, rfl⟩ := List.mem_map.1 hu
        rfl) (by unfold maxLen; omega) (by omega) hB
    rcases h2.2 with ⟨h5, _⟩ | ⟨g', cap', cur, h5, _⟩
    · have := (h4.1 h5).1
      cases this
    · subst h5
      refine ⟨g', cap', w', hr, ⟨hlen, by simpa using h2⟩, Touch.of_grown ?_⟩
      simpa [Value.ownBlock] using h3

theorem app_texts {ops : Array Oper} {rest : List Oper} {o : Oper} {act : Act} {Q : Exit → Act → World → Prop} {B g n cap : Nat} {ss : List ByteArray} {w : World} {ao : Option Addr} {m c : Nat} {ts : List ByteArray} (hgd : o.guard = none) (s x : Operand)
    (ho : o.op = .call { callee := .builtin .append, args := #[s, x], argTypes := #[24, 24] }) (hs : act.eval s = .slice (some ⟨g, 0, none⟩) n cap) (T : Texts w B g n cap ss) (hx : act.eval x = .slice ao m c) (R : Reads w ao m ts) (hnil : ao = none → c = 0) (hm : n + m ≤ 8000000000000) (hB : B ≤ w.heap.size)
    (k : ∀ g' cap' w', Texts w' B g' (n + m) cap' (ss ++ ts) → Touch g w w' → wpList Try.prog ops Q rest (act.put o.dst (.slice (some ⟨g', 0, none⟩) (n + m) cap')) w') :
    wpList Try.prog ops Q (o :: rest) act w := by
  refine wpList_plain hgd fun K hK' => ?_
  obtain ⟨g', cap', w', hrun, T', t'⟩ := append_texts o.type B g n cap ss w T ao m c ts R hnil hm hB
  unfold Oper.wp
  simp [execOp, ho, resolve, invoke, builtin, hs, hx, hrun, Result.andThen]
  exact hK' _ _ (k g' cap' w' T' t')

/-- Where the list lies then: where it lay, or in a new block. -/
theorem append_where (ty B g n cap : Nat) (ss : List ByteArray) (w : World) (T : Texts w B g n cap ss) (x : Addr) (m c : Nat) (ts : List ByteArray) (R : Reads w (some x) m ts) (hm : n + m ≤ 8000000000000) (g' cap' : Nat) (w' : World)
    (hr : (Builtin.append_ #[24, 24] ty #[.slice (some ⟨g, 0, none⟩) n cap, .slice (some x) m c]).run Try.prog w = .ok (.slice (some ⟨g', 0, none⟩) (n + m) cap') w') : g' = g ∨ w.heap.size ≤ g' := by
  obtain ⟨ii, hi, hz0, hz1, hz2⟩ := info_parts info_str
  obtain ⟨cur, h2, h3, h4, h5, h6, h7⟩ := T.parts
  have hcells : ∀ j v, (ts.map Value.string)[j]? = some v → w.cell? (x.add j) = some v := fun j u hj => by
    have hjl : j < ts.length := by
      have := (List.getElem?_eq_some_iff.1 hj).1
      simpa using this
    obtain ⟨y, hy, _, hc⟩ := R.cell j (by rw [← R.len]; exact hjl)
    cases hy
    rw [hc, ← hj]
    simp [txt, List.getD, List.getElem?_eq_getElem hjl]
  by_cases hroom : n + m ≤ cap
  · have hr2 := run_append_room (P := Try.prog) w 24 ty 9 ii Try.underlying24 hi g n cap cur h3 x m c (ts.map Value.string) (by simp [R.len, hz1]) hcells (fun u hu => by
      obtain ⟨s, _, rfl⟩ := List.mem_map.1 hu
      rfl) hroom (by rw [hz1, h6, List.length_map, R.len]; omega)
    rw [hr2] at hr
    injection hr with hv _
    injection hv with hv _
    injection hv with hv
    injection hv with hv
    exact .inl hv.symm
  · have holds : ∀ j u, (ss.map Value.string)[j]? = some u → w.cell? ((⟨g, 0, none⟩ : Addr).add j) = some u := T.2.cells (g := g) rfl
    have hr2 := run_append_grow (P := Try.prog) w 24 ty 9 ii (.string ByteArray.empty) Try.underlying24 hi hz0 ⟨g, 0, none⟩ n cap (ss.map Value.string) (by simp [T.len, hz1]) holds x m c (ts.map Value.string) (by simp [R.len, hz1]) hcells (by omega) (by omega) (growslice_fits (by omega) (by rw [hz2]; omega))
    rw [hr2] at hr
    injection hr with hv _
    injection hv with hv _
    injection hv with hv
    injection hv with hv
    exact .inr (by omega)

theorem app_texts2 {ops : Array Oper} {rest : List Oper} {o : Oper} {act : Act} {Q : Exit → Act → World → Prop} {B g n cap : Nat} {ss : List ByteArray} {w : World} {ao : Addr} {m c : Nat} {ts : List ByteArray} (hgd : o.guard = none) (s x : Operand)
    (ho : o.op = .call { callee := .builtin .append, args := #[s, x], argTypes := #[24, 24] }) (hs : act.eval s = .slice (some ⟨g, 0, none⟩) n cap) (T : Texts w B g n cap ss) (hx : act.eval x = .slice (some ao) m c) (R : Reads w (some ao) m ts) (hm : n + m ≤ 8000000000000) (hB : B ≤ w.heap.size)
    (k : ∀ g' cap' w', Texts w' B g' (n + m) cap' (ss ++ ts) → Touch g w w' → (g' = g ∨ w.heap.size ≤ g') → wpList Try.prog ops Q rest (act.put o.dst (.slice (some ⟨g', 0, none⟩) (n + m) cap')) w') :
    wpList Try.prog ops Q (o :: rest) act w := by
  refine wpList_plain hgd fun K hK' => ?_
  obtain ⟨g', cap', w', hrun, T', t'⟩ := append_texts o.type B g n cap ss w T (some ao) m c ts R (by simp) hm hB
  have hw := append_where o.type B g n cap ss w T ao m c ts R hm g' cap' w' hrun
  unfold Oper.wp
  simp [execOp, ho, resolve, invoke, builtin, hs, hx, hrun, Result.andThen]
  exact hK' _ _ (k g' cap' w' T' t' hw)

/-- A new list of one text. -/
theorem one_reads (w : World) (s : ByteArray) : Reads (w.alloc (.cells #[.string s] 9)) (some ⟨w.heap.size, 0, none⟩) 1 [s] := by
  refine ⟨rfl, by unfold maxLen; omega, fun i hi => ⟨_, rfl, by simp, ?_⟩⟩
  obtain rfl : i = 0 := by omega
  simp [Addr.add, txt]

theorem one_reads' (w : World) (s : ByteArray) (b : Nat) (hb : b = w.heap.size) : Reads (w.alloc (.cells #[.string s] 9)) (some ⟨b, 0, none⟩) 1 [s] := hb ▸ one_reads w s

theorem empty_texts (w : World) : Texts (w.alloc (.cells #[] 9)) w.heap.size w.heap.size 0 0 [] :=
  ⟨rfl, World.ownsRow_made w #[] 0 (Nat.le_refl _) (by decide) rfl⟩

set_option maxHeartbeats 1000000 in
theorem freshTexts (a : Option Addr) (n cap : Nat) (ss : List ByteArray) (hn : n ≤ 1048576) (hsm : ∀ i, i < n → (txt ss i).size ≤ 1048576) (w : World) (R : Reads w a n ss) :
    Calls Try.prog 18 #[.slice a n cap] w fun e w' => ∃ g, e = .returned (.slice (some ⟨g, 0, none⟩) n n) ∧ Texts w' w.heap.size g n n ss ∧ Since w w' := by
  obtain ⟨ii, hi, hz0, hz1, hz2⟩ := info_parts info_str
  go_enter Try.func18, Try.ntmps18
  go_wp2_with (refine wpList_make_full _ rfl _ _ 24 rfl w.heap.size 9 ii (.string ByteArray.empty) 1 Try.underlying24 hi hz0 hz1 .i64 .i64 _ _ n rfl rfl rfl rfl ?c1 ?c2 (Nat.le_refl _) ?_)
  case c1 => rw [hz2]; omega
  case c2 => unfold maxLen; omega
  intro w1 hown hgrow
  have T0 := made_texts hown
  have S0 : Since w w1 := ⟨hgrow.os, hgrow.tape, hgrow.output, hgrow.size, fun k hk => hgrow.block k hk (by simp)⟩
  generalize hg : w.heap.size = g at T0 hown ⊢
  go_wp2
  go_loopw [11] (fun i wr => ∃ (k : Nat), k ≤ n ∧ i = .int .i64 k ∧ Texts wr g g n n (ss.take k ++ List.replicate (n - k) ByteArray.empty) ∧ Since w wr) (fun i _ => n - (intOf i).toNat)
  case atStart => exact ⟨0, by omega, rfl, by simpa using T0, S0⟩
  case round =>
    obtain ⟨k, hk, rfl, T, S⟩ := hrel
    have Rr := R.since S
    by_cases hlt : k < n
    · obtain ⟨x, rfl, hb, hc⟩ := Rr.cell k hlt
      have hcl := fun wx => clone (txt ss k) (hsm k hlt) wx
      go_wp2_with (go_at_call 24; refine (hcl _).mono ?_; rintro _ w2 ⟨rfl, g2⟩; have T2 := T.since g2; have hd := T2.cell k hlt; have hf := T2.free k)
      have hT := T2.set k hlt (txt ss k)
      rw [txt_take_set ss n k R.len hlt] at hT
      go_roundw
      case rel => exact ⟨k + 1, by omega, by go_num, hT, since_put1 (S.trans g2) (by omega) k _⟩
      case measure => simp [intOf]; omega
    · have hkn : k = n := by omega
      subst hkn
      go_wp2
      go_ret
      refine ⟨g, rfl, ?_, S⟩
      have e : ss.take k ++ List.replicate (k - k) ByteArray.empty = ss := by simp [List.take_of_length_le (Nat.le_of_eq R.len)]
      rw [e] at T
      exact T.raise (by omega)
end Go.Proofs.Ythjdcgckonckoaa
