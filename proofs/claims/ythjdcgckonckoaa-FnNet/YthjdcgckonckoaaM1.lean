/-
  Contracts of impl's and spec's NetLoad, at every net.
  Pure facts: how many datagrams are left behind the ops, and whence those come that arrive.
  From the bytes that came in to what a law draws of them: the code's bytes, at, and the two words of l01Pair.
  What FnNet needs of the drawn net and ops: contracts on a net that may be nil.
  The walk of FnNet: for every code.
-/
import Derived.Test.YthjdcgckonckoaaNetOk
import Derived.Test.YthjdcgckonckoaaNetRun
import Derived.Test.YthjdcgckonckoaaM3
import Derived.Test.YthjdcgckonckoaaM2
import Derived.Test.YthjdcgckonckoaaNetRunI
import Derived.Test.YthjdcgckonckoaaNetRunS
namespace Go.Proofs.Ythjdcgckonckoaa
open Go.ChangeShapes Go.WideShapes Go.ChangeAt Go.RowKit
set_option linter.unusedVariables false

/-- How many bytes the first k texts have. -/
def sumTo (ss : List ByteArray) : Nat → Int
  | 0 => 0
  | k + 1 => sumTo ss k + ((txt ss k).size : Int)

/-- What NetLoad answers. -/
def netLoad (ss : List ByteArray) : Int := if netOk ss = true then sumTo ss ss.length else 0

theorem sumTo_range (ss : List ByteArray) (n : Nat) (h : ∀ i, i < n → (txt ss i).size ≤ 2000) : ∀ k, k ≤ n → 0 ≤ sumTo ss k ∧ sumTo ss k ≤ 2000 * (k : Int)
  | 0, _ => by simp [sumTo]
  | k + 1, hk => by
    have ih := sumTo_range ss n h k (by omega)
    have := h k (by omega)
    simp only [sumTo]
    omega

set_option maxHeartbeats 1000000 in
theorem implNetLoad (g n cap : Nat) (ss : List ByteArray) (B : Nat) (w : World) (T : Texts w B g n cap ss) :
    Calls Try.prog 11 #[.agg #[.slice (some ⟨g, 0, none⟩) n cap]] w fun e w' => e = .returned (.int .i64 (netLoad ss)) ∧ Since w w' := by
  have G : Since w (w.alloc (.cells #[.slice (some ⟨g, 0, none⟩) n cap] 26)) := (Since.refl _).alloc _
  have A := Rec1.new w (.slice (some ⟨g, 0, none⟩) n cap) 26
  have T1 := T.since G
  have ho := implNetOk g n cap ss B _ T1
  have hlen := T.len
  cases hok : netOk ss
  · have e : netLoad ss = 0 := by simp [netLoad, hok]
    rw [e]
    rw [hok] at ho
    clear e hok
    go_enter Try.func11, Try.ntmps11
    go_wp2_with (go_at_call 8; refine ho.mono ?_; rintro _ w1 ⟨rfl, g1⟩)
    go_ret
    exact ⟨rfl, G.trans g1⟩
  · have e : netLoad ss = sumTo ss n := by simp [netLoad, hok, hlen]
    rw [e]
    rw [hok] at ho
    obtain ⟨h200, hsm⟩ := (netOk_iff ss).1 hok
    rw [hlen] at h200 hsm
    have hsum := sumTo_range ss n hsm
    clear e hok
    go_enter Try.func11, Try.ntmps11
    go_wp2_with (go_at_call 8; refine ho.mono ?_; rintro _ w1 ⟨rfl, g1⟩; have T2 := T1.since g1; have A1 := A.since g1; have cA := A1.c0)
    go_loop [3, 12] (fun q i => ∃ (k : Nat), k ≤ n ∧ i = .int .i64 k ∧ q = .int .i64 (sumTo ss k)) (fun _ i => n - (intOf i).toNat)
    case atStart => exact ⟨0, by omega, rfl, rfl⟩
    case round =>
      obtain ⟨k, hk, rfl, rfl⟩ := hrel
      by_cases hlt : k < n
      · have hc := T2.cell k hlt
        have hlt' : (k : Int) < (n : Int) := by omega
        have r0 := hsum k hk
        have r1 := hsm k hlt
        have hw : IntKind.i64.wrap (sumTo ss k + ((txt ss k).size : Int)) = sumTo ss (k + 1) := by rw [IntWalk.i64_left, IntWalk.wrap64_in _ ⟨by omega, by omega⟩]; rfl
        go_wp2
        go_round
        case rel => exact ⟨k + 1, by omega, by go_num, by first | rfl | rw [hw] | (rw [← hw, IntWalk.i64_left]) | go_num⟩
        case measure => simp [intOf]; omega
      · have hkn : k = n := by omega
        subst hkn
        go_wp2
        go_ret
        exact ⟨rfl, G.trans g1⟩
end Go.Proofs.Ythjdcgckonckoaa

namespace Go.Proofs.Ythjdcgckonckoaa
open Go.ChangeShapes Go.WideShapes Go.ChangeAt Go.RowKit
set_option linter.unusedVariables false

/-- What the law counts at an op. -/
def countOp (left kind : Int) : Int := if left = 0 then left else if kind = 0 ∨ kind = 4 then left - 1 else if kind = 1 ∧ left < 200 then left + 1 else left

/-- Whether the law calls it spoilt. -/
def spoilOp (left kind : Int) (b : Bool) : Bool := if left = 0 then b else if kind = 2 then true else b

/-- What the law counts behind the first j ops. -/
def countTo (n : Int) (os : List Op4) : Nat → Int × Bool
  | 0 => (n, false)
  | j + 1 => (countOp (countTo n os j).1 (opAt os j).k, spoilOp (countTo n os j).1 (opAt os j).k (countTo n os j).2)

theorem netDo_count (ss : List ByteArray) (k a h t : Int) (hok : netOk ss = true) : ((netDo ss k a h t).1.length : Int) = countOp (ss.length : Int) k := by
  have h200 := ((netOk_all ss).1 hok).1
  by_cases h0 : ss.length = 0
  · unfold netDo countOp
    rw [if_neg (by omega), if_pos (by omega)]
  · have hp := placeOf_lt a ss.length (by omega)
    have e : netDo ss k a h t = befallen ss (placeOf a ss.length) k h t := by
      unfold netDo
      rw [if_pos ⟨hok, by omega⟩]
    rw [e]
    generalize placeOf a ss.length = i at hp ⊢
    have hw : (without ss i).length = ss.length - 1 := without_len ss i _ rfl hp
    have c0 : countOp (ss.length : Int) k = if k = 0 ∨ k = 4 then (ss.length : Int) - 1 else if k = 1 ∧ (ss.length : Int) < 200 then (ss.length : Int) + 1 else (ss.length : Int) := by
      unfold countOp
      rw [if_neg (by omega)]
    rw [c0]
    unfold befallen
    by_cases k0 : k = 0
    · simp only [k0, if_true, true_or, hw]
      omega
    by_cases k1 : k = 1
    · subst k1
      by_cases h2 : ss.length < 200
      · simp [h2]
        omega
      · simp [h2]
        omega
    by_cases k2 : k = 2
    · subst k2
      simp
      split <;> simp
    by_cases k3 : k = 3
    · subst k3
      simp [hw]
      omega
    by_cases k4 : k = 4
    · subst k4
      simp [hw]
      omega
    simp [k0, k1, k2, k3, k4]

theorem run_count (ss : List ByteArray) (os : List Op4) (hok : netOk ss = true) : ∀ j, ((runTo ss os j).1.length : Int) = (countTo (ss.length : Int) os j).1
  | 0 => rfl
  | j + 1 => by
    have ih := run_count ss os hok j
    have := netDo_count (runTo ss os j).1 (opAt os j).k (opAt os j).a (opAt os j).h (opAt os j).t (run_ok ss os hok j)
    simp only [runTo, doAt, countTo, this, ih]

theorem netDo_from (ss : List ByteArray) (k a h t : Int) (hk : ss.length = 0 ∨ k ≠ 2) : (∀ s ∈ (netDo ss k a h t).1, s ∈ ss) ∧ ((netDo ss k a h t).2.2 = true → (netDo ss k a h t).2.1 ∈ ss) := by
  unfold netDo
  split
  · rename_i hc
    have hp := placeOf_lt a ss.length hc.2
    generalize placeOf a ss.length = i at hp ⊢
    have hm := txt_mem hp
    have k2 : k ≠ 2 := hk.resolve_left (by omega)
    unfold befallen
    by_cases k0 : k = 0
    · rw [if_pos k0]
      exact ⟨fun s hs => mem_without hs, by simp⟩
    rw [if_neg k0]
    by_cases k1 : k = 1
    · rw [if_pos k1]
      refine ⟨?_, by simp⟩
      simp only
      split
      · intro s hs
        rcases List.mem_append.1 hs with h | h
        · exact h
        · rw [List.mem_singleton.1 h]
          exact hm
      · exact fun s hs => hs
    rw [if_neg k1, if_neg k2]
    by_cases k3 : k = 3
    · rw [if_pos k3]
      refine ⟨fun s hs => ?_, by simp⟩
      rcases List.mem_append.1 hs with h | h
      · exact mem_without h
      · rw [List.mem_singleton.1 h]
        exact hm
    rw [if_neg k3]
    by_cases k4 : k = 4
    · rw [if_pos k4]
      exact ⟨fun s hs => mem_without hs, fun _ => hm⟩
    rw [if_neg k4]
    exact ⟨fun s hs => hs, by simp⟩
  · exact ⟨fun s hs => hs, by simp⟩

theorem run_from (ss : List ByteArray) (os : List Op4) (hok : netOk ss = true) : ∀ j, (countTo (ss.length : Int) os j).2 = false → (∀ s ∈ (runTo ss os j).1, s ∈ ss) ∧ ∀ s ∈ (runTo ss os j).2, s ∈ ss
  | 0, _ => ⟨fun s hs => hs, by simp [runTo]⟩
  | j + 1, h => by
    have hc := run_count ss os hok j
    simp only [countTo, spoilOp] at h
    have hb : (countTo (ss.length : Int) os j).2 = false ∧ ((runTo ss os j).1.length = 0 ∨ (opAt os j).k ≠ 2) := by
      by_cases h0 : (countTo (ss.length : Int) os j).1 = 0
      · rw [if_pos h0] at h
        exact ⟨h, .inl (by omega)⟩
      · rw [if_neg h0] at h
        by_cases h2 : (opAt os j).k = 2
        · rw [if_pos h2] at h
          cases h
        · rw [if_neg h2] at h
          exact ⟨h, .inr h2⟩
    obtain ⟨i1, i2⟩ := run_from ss os hok j hb.1
    obtain ⟨n1, n2⟩ := netDo_from (runTo ss os j).1 (opAt os j).k (opAt os j).a (opAt os j).h (opAt os j).t hb.2
    refine ⟨fun s hs => i1 s (n1 s hs), ?_⟩
    simp only [runTo]
    intro s hs
    by_cases hd : (doAt (runTo ss os j).1 os j).2.2 = true
    · rw [if_pos hd] at hs
      rcases List.mem_append.1 hs with h | h
      · exact i2 s h
      · rw [List.mem_singleton.1 h]
        exact i1 _ (n2 hd)
    · rw [if_neg hd] at hs
      exact i2 s hs

theorem sumTo_app (ss : List ByteArray) (s : ByteArray) : ∀ k, k ≤ ss.length → sumTo (ss ++ [s]) k = sumTo ss k
  | 0, _ => rfl
  | k + 1, h => by
    simp only [sumTo, sumTo_app ss s k (by omega), txt_append]
    rw [if_pos (by omega)]

theorem load_more (ss : List ByteArray) (s : ByteArray) (hok : netOk ss = true) (h : ss.length < 200) (hs : s.size ≤ 2000) : netSend ss s = ss ++ [s] ∧ netLoad (ss ++ [s]) = netLoad ss + (s.size : Int) := by
  have h1 : netSend ss s = ss ++ [s] := by
    unfold netSend takes
    rw [hok, decide_eq_true hs, decide_eq_true h]
    rfl
  have hok2 : netOk (ss ++ [s]) = true := by
    obtain ⟨_, h2⟩ := (netOk_all ss).1 hok
    refine (netOk_all _).2 ⟨by simp; omega, fun x hx => ?_⟩
    rcases List.mem_append.1 hx with h | h
    · exact h2 x h
    · rw [List.mem_singleton.1 h]
      exact hs
  refine ⟨h1, ?_⟩
  unfold netLoad
  rw [if_pos hok2, if_pos hok, List.length_append, List.length_singleton]
  simp only [sumTo, sumTo_app ss s _ (Nat.le_refl _), txt_append]
  rw [if_neg (by omega), Nat.sub_self]
  rfl
end Go.Proofs.Ythjdcgckonckoaa

namespace Go.Proofs.Ythjdcgckonckoaa
open Go.ChangeShapes Go.WideShapes Go.ChangeAt Go.RowKit
set_option linter.unusedVariables false

theorem bytes_of_row {w : World} {a : Option Addr} {len cap : Nat} {zs : List Int}
    (h : (a = none ∧ len = 0 ∧ cap = 0 ∧ zs = []) ∨ ∃ x, a = some x ∧ len ≤ cap ∧ cap ≤ maxLen ∧ zs.length = cap ∧ (∀ i, i < zs.length → w.cell? (x.add i) = some (.int .u8 (zs.getD i 0))) ∧ ∀ n ∈ zs, (Lit.int .u8 n).wf = true) :
    Bytes w a len zs := by
  rcases h with ⟨_, h0, _, _⟩ | ⟨x, rfl, hl, hm, hz, hcell, hwz⟩
  · exact .inl h0
  · by_cases h0 : len = 0
    · exact .inl h0
    · obtain ⟨b, off, spot⟩ := x
      have hc := hcell 0 (by omega)
      have hspot : spot = none := by simpa [Addr.add] using World.cell?_spot hc
      subst hspot
      refine .inr ⟨b, off, rfl, by omega, fun i hi => ?_⟩
      have h1 := hcell i (by omega)
      have h2 : zs.getD i 0 ∈ zs := by
        rw [List.getD_eq_getElem?_getD, List.getElem?_eq_getElem (by omega : i < zs.length)]
        simp
      have h3 := bounds_u8 (hwz _ h2)
      have hplain : (⟨b, off, none⟩ : Addr).add i = ⟨b, off + i, none⟩ := by unfold Addr.add; split <;> simp_all
      rw [hplain] at h1
      exact ⟨h1, h3.1, h3.2⟩
end Go.Proofs.Ythjdcgckonckoaa

namespace Go.Proofs.Ythjdcgckonckoaa
open Go.ChangeShapes Go.WideShapes Go.ChangeAt Go.RowKit
set_option linter.unusedVariables false

theorem big5 (a : Option Addr) (len cap : Nat) (w : World) :
    Calls Try.prog 4 #[.slice a len cap] w fun e w' => e = .returned (.bool (decide ((1048576 : Int) < (len : Int)))) ∧ w = w' := by
  go_enter Try.func4, Try.ntmps4
  go_wp2
  go_ret
  exact ⟨rfl, rfl⟩

theorem implNetOkNil5 (w : World) :
    Calls Try.prog 8 #[.agg #[.slice none 0 0]] w fun e w' => e = .returned (.bool (netOk [])) ∧ Since w w' := by
  have hc := fun wx => Try.slices_ContainsFunc_empty (α := Nat) none 0 (.func (.func 22) #[] #[]) wx
  have e : netOk [] = true := rfl
  rw [e]
  go_enter Try.func8, Try.ntmps8
  go_wp2_with (go_at_call 23; refine (hc _).mono ?_; rintro _ _ ⟨rfl, rfl⟩)
  go_ret
  exact ⟨rfl, (Since.refl _).alloc _⟩

section
variable {x : World} {B n cp : Nat} {ao : Option Addr} {ss : List ByteArray}

theorem net_cases (h : x.ownsRow B 9 1 (.slice ao n cp) n (ss.map Value.string)) (hc : ss.length = n) : (ao = none ∧ n = 0 ∧ cp = 0 ∧ ss = []) ∨ ∃ g, ao = some ⟨g, 0, none⟩ ∧ Texts x B g n cp ss := by
  rcases h.2 with ⟨h1, h2⟩ | ⟨g, c, cur, h1, h2⟩
  · simp only [Value.slice.injEq] at h1
    obtain ⟨e1, e2, e3⟩ := h1
    subst e1 e2 e3
    exact .inl ⟨rfl, rfl, rfl, List.eq_nil_of_length_eq_zero hc⟩
  · simp only [Value.slice.injEq] at h1
    obtain ⟨e1, _, e3⟩ := h1
    subst e1
    exact .inr ⟨g, rfl, hc, h⟩

theorem net_reads (h : x.ownsRow B 9 1 (.slice ao n cp) n (ss.map Value.string)) (hc : ss.length = n) : Reads x ao n ss ∧ (ao = none → cp = 0) := by
  rcases net_cases h hc with ⟨rfl, rfl, rfl, rfl⟩ | ⟨g, rfl, T⟩
  · exact ⟨⟨rfl, Nat.zero_le _, fun i hi => by omega⟩, fun _ => rfl⟩
  · exact ⟨T.reads, by simp⟩

theorem netOkAny (h : x.ownsRow B 9 1 (.slice ao n cp) n (ss.map Value.string)) (hc : ss.length = n) :
    Calls Try.prog 8 #[.agg #[.slice ao n cp]] x fun e w' => e = .returned (.bool (netOk ss)) ∧ Since x w' := by
  rcases net_cases h hc with ⟨rfl, rfl, rfl, rfl⟩ | ⟨g, rfl, T⟩
  · exact implNetOkNil5 x
  · exact implNetOk g n cp ss B x T

theorem ops_cells {go no co : Nat} {os : List Op4} (h : x.ownsRow B 34 4 (.slice (some ⟨go, 0, none⟩) no co) no (flat os)) (hl : os.length = no) (i : Nat) (hi : i < no) :
    x.cell? ⟨go, i * 4, none⟩ = some (.int .i64 (opAt os i).k) ∧ x.cell? ⟨go, i * 4 + 1, none⟩ = some (.int .i64 (opAt os i).a) ∧ x.cell? ⟨go, i * 4 + 2, none⟩ = some (.int .i64 (opAt os i).h) ∧ x.cell? ⟨go, i * 4 + 3, none⟩ = some (.int .i64 (opAt os i).t) := by
  obtain ⟨f0, f1, f2, f3⟩ := flat_at os i (by omega)
  have c := h.cells (g := go) rfl
  have e : ∀ j, (⟨go, 0, none⟩ : Addr).add j = ⟨go, j, none⟩ := fun j => by simp [Addr.add]; omega
  refine ⟨?_, ?_, ?_, ?_⟩
  · rw [← e]; exact c _ _ f0
  · rw [← e]; exact c _ _ f1
  · rw [← e]; exact c _ _ f2
  · rw [← e]; exact c _ _ f3
end

theorem small_at {ss : List ByteArray} {n m : Nat} (hc : ss.length = n) (h : ∀ s ∈ ss, s.size ≤ m) (i : Nat) (hi : i < n) : (txt ss i).size ≤ m := by
  have hi' : i < ss.length := by omega
  have : txt ss i = ss[i] := by simp [txt, List.getD, List.getElem?_eq_getElem hi']
  rw [this]
  exact h _ (List.getElem_mem hi')

section
variable {w x : World} {ao : Option Addr} {n cp : Nat} {ss : List ByteArray} {go no co : Nat} {os : List Op4}

theorem RunDrawn.later (D : RunDrawn w x ao n cp ss go no co os) {y : World} (k : Since x y) : RunDrawn w y ao n cp ss go no co os :=
  ⟨Since.trans D.since k, owns_since D.net k, D.count, D.few, D.small, owns_since D.ops k, D.olen, D.omost⟩

theorem RunDrawn.impl (D : RunDrawn w x ao n cp ss go no co os) :
    Calls Try.prog 6 #[.agg #[.slice ao n cp], .slice (some ⟨go, 0, none⟩) no co] x fun e w' => ∃ v, e = .returned v ∧ Since x w' ∧ IsRan x.heap.size (netRun ss os) w' v :=
  implNetRun ao n cp ss go no os (by have := D.few; omega) (fun i hi => Nat.le_trans (small_at D.count D.small i hi) (by omega)) D.olen x (net_reads D.net D.count).1 (fun wx h i hi => ops_cells (owns_since D.ops h) D.olen i hi) (fun wx h => netOkAny (owns_since D.net h) D.count) co

theorem RunDrawn.spec (D : RunDrawn w x ao n cp ss go no co os) :
    Calls Try.prog 7 #[.agg #[.slice ao n cp], .slice (some ⟨go, 0, none⟩) no co] x fun e w' => ∃ v, e = .returned v ∧ Since x w' ∧ IsRan x.heap.size (netRun ss os) w' v :=
  specNetRunAny ao n cp ss go no os (by have := D.few; omega) D.olen x (net_reads D.net D.count).1 (net_reads D.net D.count).2 (fun wx h i hi => ops_cells (owns_since D.ops h) D.olen i hi) co
end
end Go.Proofs.Ythjdcgckonckoaa

namespace Go.Proofs.Ythjdcgckonckoaa
open Go.ChangeShapes Go.WideShapes Go.ChangeAt Go.RowKit
set_option linter.unusedVariables false

theorem run_bad (ss : List ByteArray) (os : List Op4) (h : netOk ss = false) : ∀ j, runTo ss os j = (ss, [])
  | 0 => rfl
  | j + 1 => by
    have ih := run_bad ss os h j
    have e : doAt ss os j = (ss, ByteArray.empty, false) := by simp [doAt, netDo, h]
    simp only [runTo, ih, e]
    rfl

theorem ran_same (ss : List ByteArray) (os : List Op4) (h : netOk ss = false ∨ 1000 < os.length) : (netRun ss os).1 = ss := by
  unfold netRun
  split
  · rfl
  · rename_i hno
    rw [run_bad ss os (h.resolve_right hno)]

theorem count_bound (ss : List ByteArray) (os : List Op4) (h : netOk ss = true) (j : Nat) : 0 ≤ (countTo (ss.length : Int) os j).1 ∧ (countTo (ss.length : Int) os j).1 ≤ 200 := by
  have h1 := run_count ss os h j
  have h2 := ((netOk_all _).1 (run_ok ss os h j)).1
  omega

theorem sum_bound (ss : List ByteArray) (h : netOk ss = true) : ∀ k, k ≤ ss.length → 0 ≤ sumTo ss k ∧ sumTo ss k ≤ 2000 * (k : Int)
  | 0, _ => by simp [sumTo]
  | k + 1, hk => by
    have ih := sum_bound ss h k (by omega)
    have hs := small_at rfl ((netOk_all ss).1 h).2 k (by omega)
    simp only [sumTo]
    omega

theorem load_bound (ss : List ByteArray) (h : netOk ss = true) : 0 ≤ netLoad ss ∧ netLoad ss ≤ 400000 := by
  have h1 := sum_bound ss h ss.length (Nat.le_refl _)
  have h2 := ((netOk_all ss).1 h).1
  unfold netLoad
  rw [if_pos h]
  omega

/-- Whether a text is among the first m. -/
def knownTo (ss : List ByteArray) (s : ByteArray) : Nat → Bool
  | 0 => false
  | m + 1 => if txt ss m = s then true else knownTo ss s m

theorem known_in (ss : List ByteArray) (s : ByteArray) (h : s ∈ ss) : knownTo ss s ss.length = true := by
  obtain ⟨i, hi, he⟩ := List.getElem_of_mem h
  have e : txt ss i = s := by simp [txt, List.getD, List.getElem?_eq_getElem hi, he]
  have go : ∀ m, i < m → knownTo ss s m = true := by
    intro m
    induction m with
    | zero => intro h; omega
    | succ m ih =>
      intro hm
      simp only [knownTo]
      by_cases hs : txt ss m = s
      · rw [if_pos hs]
      · rw [if_neg hs]
        refine ih ?_
        rcases Nat.lt_or_ge i m with h | h
        · exact h
        · exact absurd (by rw [show m = i by omega]; exact e) hs
  exact go _ hi

/-- What is carried through the law. -/
structure LS (w : World) (ao : Option Addr) (n cp : Nat) (ss : List ByteArray) (go no co : Nat) (os : List Op4) (nb ob gA mA cA gB mB cB BA : Nat) (x : World) : Prop where
  D : RunDrawn w x ao n cp ss go no co os
  N : Rec1 nb x (.slice ao n cp)
  O : Rec1 ob x (.slice (some ⟨gA, 0, none⟩) mA cA)
  TA : Texts x BA gA mA cA (netRun ss os).1
  TB : Texts x BA gB mB cB (netRun ss os).2

theorem LS.later {w : World} {ao : Option Addr} {n cp : Nat} {ss : List ByteArray} {go no co : Nat} {os : List Op4} {nb ob gA mA cA gB mB cB BA : Nat} {x y : World} (h : LS w ao n cp ss go no co os nb ob gA mA cA gB mB cB BA x) (k : Since x y) : LS w ao n cp ss go no co os nb ob gA mA cA gB mB cB BA y :=
  ⟨h.D.later k, h.N.since k, h.O.since k, h.TA.since k, h.TB.since k⟩

set_option maxHeartbeats 8000000 in
set_option maxRecDepth 20000 in
theorem walkNet (a0 : Option Addr) (len0 cap0 : Nat) (z0 : List Int) (w : World) (hb : Bytes w a0 len0 z0) :
    Calls Try.prog 3 #[.slice a0 len0 cap0] w fun e w' => e = .returned (.bool true) ∧ Below w.heap.size w w' := by
  have hbig := fun wx => big5 a0 len0 cap0 wx
  by_cases hm : len0 ≤ 1048576
  case neg =>
    rw [show decide ((1048576 : Int) < (len0 : Int)) = true by simp; omega] at hbig
    clear hb
    go_enter Try.func3, Try.ntmps3
    go_wp2_with (go_at_call 4; refine (hbig _).mono ?_; rintro _ _ ⟨rfl, rfl⟩)
    go_ret
    exact ⟨rfl, Below.refl _ _⟩
  rw [show decide ((1048576 : Int) < (len0 : Int)) = false by simp; omega] at hbig
  have hdr := drawRun a0 len0 cap0 z0 w hb hm
  clear hb
  go_enter Try.func3, Try.ntmps3
  go_wp2_with (fail)
  refine (hbig _).mono ?_
  rintro _ _ ⟨rfl, rfl⟩
  clear hbig
  go_wp2_with (fail)
  refine hdr.mono ?_
  clear hdr
  rintro _ w1 ⟨ao, n, cp, ss, go, no, co, os, rfl, D⟩
  replace D := D.later ((Since.refl w1).alloc (.cells #[.slice ao n cp] 26))
  have N := Rec1.new w1 (.slice ao n cp) 26
  go_wp2_with (fail)
  refine D.impl.mono ?_
  rintro _ w2 ⟨_, rfl, k2, gA, mA, cA, gB, mB, cB, rfl, hneA, TA, TB⟩
  replace D := (D.later k2).later ((Since.refl w2).alloc (.cells #[.slice (some ⟨gA, 0, none⟩) mA cA] 26))
  replace N := (N.since k2).since ((Since.refl w2).alloc (.cells #[.slice (some ⟨gA, 0, none⟩) mA cA] 26))
  have O := Rec1.new w2 (.slice (some ⟨gA, 0, none⟩) mA cA) 26
  replace TA := TA.since ((Since.refl w2).alloc (.cells #[.slice (some ⟨gA, 0, none⟩) mA cA] 26))
  replace TB := TB.since ((Since.refl w2).alloc (.cells #[.slice (some ⟨gA, 0, none⟩) mA cA] 26))
  have n0 := N.c0
  go_wp2_with (fail)
  refine D.spec.mono ?_
  rintro _ w3 ⟨_, rfl, k3, gC, mC, cC, gD, mD, cD, rfl, hneC, TC, TD⟩
  have hlen : mB = mD := by rw [← TB.len, ← TD.len]
  subst hlen
  have L : LS w ao n cp ss go no co os w1.heap.size w2.heap.size gA mA cA gB mB cB _ (w3.alloc (.cells #[.slice (some ⟨gC, 0, none⟩) mC cC] 26)) := LS.later (LS.later ⟨D, N, O, TA, TB⟩ k3) ((Since.refl w3).alloc _)
  clear D N O TA TB TC TD k2 k3 n0 hneC
  go_wp2_with (fail)
  generalize w3.alloc (.cells #[.slice (some ⟨gC, 0, none⟩) mC cC] 26) = W at L ⊢
  have c0 : ∀ y : Later W, y.val.cell? ⟨w1.heap.size, 0, none⟩ = some (.slice ao n cp) := fun y => (L.later y.ok).N.c0
  have hI : ∀ y : Later W, Calls Try.prog 8 #[.agg #[.slice ao n cp]] y.val fun e w'' => e = .returned (.bool (netOk ss)) ∧ ∃ z : Later W, w'' = z.val := fun y => calm_call (netOkAny (L.later y.ok).D.net L.D.count)
  have hS : ∀ y : Later W, Calls Try.prog 9 #[.agg #[.slice ao n cp]] y.val fun e w'' => e = .returned (.bool (netOk ss)) ∧ ∃ z : Later W, w'' = z.val := fun y => calm_call (specNetOk ao n cp ss y.val (net_reads (L.later y.ok).D.net L.D.count).1)
  have hsame := ran_same ss os
  have hol := L.D.olen
  have hrun : netOk ss = true → no ≤ 1000 → netRun ss os = runTo ss os no := fun _ h => by
    unfold netRun
    rw [if_neg (by omega), hol]
  have hfacts := fun (h : netOk ss = true) => run_from ss os h no
  have hcount := fun (h : netOk ss = true) => run_count ss os h no
  have hallok := fun (h : netOk ss = true) => run_ok ss os h no
  have hbound := fun (h : netOk ss = true) (j : Nat) => count_bound ss os h j
  generalize netOk ss = ok at hI hS hsame hrun hfacts hcount hallok hbound
  have hne : Nonempty (Later W) := ⟨⟨W, Since.refl _⟩⟩
  refine wp_region_calm (wb := W) (by kernel_rfl) (by kernel_rfl) (Since.refl _) ?_
  repeat (go_big_quiet_step (first | exact hI _ | exact hS _))
  refine wpQuiet_nil ?_
  rintro _ ⟨y, rfl⟩
  have q0 := (L.later y.ok).N.c0
  have hS1 := hS y
  clear hI hS c0 hne
  go_wp2_with (fail)
  refine hS1.mono ?_
  clear hS1 q0
  rintro _ _ ⟨rfl, z, rfl⟩
  replace L := L.later z.ok
  have q0 := L.N.c0
  have q1 := L.O.c0
  generalize z.val = x at L q0 q1 ⊢
  have hmA := L.TA.len
  have hcn := L.D.count
  have hB := L.D.since
  by_cases hbad : ok = false ∨ 1000 < no
  · have e1 : (netRun ss os).1 = ss := hsame (by rw [hol]; exact hbad)
    have e2 : mA = n := by rw [← hmA, e1]; exact hcn
    subst e2
    clear L hsame hrun hfacts hcount hallok hbound
    cases ok with
    | false =>
      go_wp2
      go_ret
      exact ⟨rfl, hB⟩
    | true =>
      have h1 : (1000 : Int) < (no : Int) := by simp at hbad; omega
      go_wp2
      go_ret
      exact ⟨rfl, hB⟩
  obtain rfl : ok = true := by cases ok <;> simp at hbad ⊢
  have hno : no ≤ 1000 := by simp at hbad; omega
  have hno' : ¬ (1000 : Int) < (no : Int) := by omega
  have e1 := hrun rfl hno
  have h1 := hfacts rfl
  have h2 := hcount rfl
  have h3 := hallok rfl
  have h4 := hbound rfl
  clear hsame hrun hfacts hcount hallok hbad hbound
  rw [hcn] at h1 h2 h4
  go_wp2_with (fail)
  have hcells := fun i hi => (ops_cells L.D.ops L.D.olen i hi).1
  go_loop [9, 10, 11] (fun l p i => ∃ j : Nat, j ≤ no ∧ i = .int .i64 j ∧ l = .int .i64 (countTo (n : Int) os j).1 ∧ p = .bool (countTo (n : Int) os j).2) (fun _ _ i => no - (intOf i).toNat)
  case atStart => exact ⟨0, by omega, rfl, rfl, rfl⟩
  case round =>
    obtain ⟨j, hj, rfl, rfl, rfl⟩ := hrel
    by_cases hlt : j < no
    · have hc1 := hcells j hlt
      have hlt' : (j : Int) < (no : Int) := by omega
      have hb4 := h4 j
      have hnext : countTo (n : Int) os (j + 1) = (countOp (countTo (n : Int) os j).1 (opAt os j).k, spoilOp (countTo (n : Int) os j).1 (opAt os j).k (countTo (n : Int) os j).2) := rfl
      clear L hcells h1 h2 h3 h4 e1 hmA
      generalize countTo (n : Int) os j = cs at hb4 hnext ⊢
      obtain ⟨c, b⟩ := cs
      generalize (opAt os j).k = kd at hc1 hnext
      simp only at hb4 hnext ⊢
      have hw1 : IntKind.i64.wrap (c - 1) = c - 1 := by rw [IntWalk.i64_left]; exact IntWalk.wrap64_in _ ⟨by omega, by omega⟩
      have hw2 : IntKind.i64.wrap (c + 1) = c + 1 := by rw [IntWalk.i64_left]; exact IntWalk.wrap64_in _ ⟨by omega, by omega⟩
      by_cases d0 : c = 0
      · have t0 : (c == 0) = true := by simpa using d0
        go_wp2
        go_round
        case rel => exact ⟨j + 1, by omega, by go_num, by rw [hnext]; simp [countOp, d0], by rw [hnext]; simp [spoilOp, d0]⟩
        case measure => simp [intOf]; omega
      have t0 : (c == 0) = false := by simpa using d0
      by_cases d1 : kd = 0
      · subst d1
        go_wp2
        go_round
        case rel => exact ⟨j + 1, by omega, by go_num, by rw [hnext]; simp [countOp, d0], by rw [hnext]; simp [spoilOp, d0]⟩
        case measure => simp [intOf]; omega
      have t1 : (kd == 0) = false := by simpa using d1
      by_cases d2 : kd = 4
      · subst d2
        go_wp2
        go_round
        case rel => exact ⟨j + 1, by omega, by go_num, by rw [hnext]; simp [countOp, d0], by rw [hnext]; simp [spoilOp, d0]⟩
        case measure => simp [intOf]; omega
      have t2 : (kd == 4) = false := by simpa using d2
      by_cases d3 : kd = 1
      · subst d3
        by_cases d4 : c < 200
        · go_wp2
          go_round
          case rel => exact ⟨j + 1, by omega, by go_num, by rw [hnext]; simp [countOp, d0, d4], by rw [hnext]; simp [spoilOp, d0]⟩
          case measure => simp [intOf]; omega
        · go_wp2
          go_round
          case rel => exact ⟨j + 1, by omega, by go_num, by rw [hnext]; simp [countOp, d0, d4], by rw [hnext]; simp [spoilOp, d0]⟩
          case measure => simp [intOf]; omega
      have t3 : (kd == 1) = false := by simpa using d3
      by_cases d5 : kd = 2
      · subst d5
        go_wp2
        go_round
        case rel => exact ⟨j + 1, by omega, by go_num, by rw [hnext]; simp [countOp, d0], by rw [hnext]; simp [spoilOp, d0]⟩
        case measure => simp [intOf]; omega
      have t5 : (kd == 2) = false := by simpa using d5
      go_wp2
      go_round
      case rel => exact ⟨j + 1, by omega, by go_num, by rw [hnext]; simp [countOp, d0, d1, d2, d3], by rw [hnext]; simp [spoilOp, d0, d5]⟩
      case measure => simp [intOf]; omega
    · obtain rfl : j = no := by omega
      have hb4 := h4 j
      clear hcells h4
      generalize countTo (n : Int) os j = cs at hb4 h1 h2 ⊢
      obtain ⟨c, b⟩ := cs
      simp only at hb4 h1 h2 ⊢
      go_wp2_with (fail)
      have hmB := L.TB.len
      have hfew := L.D.few
      have hmost := Nat.le_trans L.TB.room.1 L.TB.room.2
      unfold maxLen at hmost
      rw [e1] at hmB
      go_loopw [12] (fun i wr => ∃ k : Nat, k ≤ mB ∧ i = .int .i64 k ∧ LS w ao n cp ss go j co os w1.heap.size w2.heap.size gA mA cA gB mB cB _ wr) (fun i _ => mB - (intOf i).toNat)
      case atStart => exact ⟨0, by omega, rfl, L⟩
      case round =>
        clear L q0 q1
        obtain ⟨k, hk, rfl, L⟩ := hrel
        by_cases hlt : k < mB
        · have hlt' : (k : Int) < (mB : Int) := by omega
          cases b with
          | true =>
            have o0 := L.O.c0
            have TA := L.TA
            have hB2 := L.D.since
            have hO := L.O
            rw [e1] at TA hmA
            clear L
            generalize (runTo ss os j).1 = T at TA hmA h1 h2 h3
            have hTc := ((netOk_all T).1 h3)
            have hsend := implNetSendOwn _ gA mA cA T ⟨#[97, 98, 99]⟩ (by omega) (fun i hi => Nat.le_trans (small_at hmA hTc.2 i hi) (by omega)) (by decide) wr TA
            have hmc : (mA : Int) = c := by omega
            go_wp2_with (fail)
            refine hsend.mono ?_
            clear hsend
            rintro _ y ⟨gM, mM, cM, rfl, TM, kM⟩
            replace TM := TM.since ((Since.refl y).alloc (.cells #[.slice (some ⟨gM, 0, none⟩) mM cM] 26))
            have SM := kM.trans ((Since.refl y).alloc (.cells #[.slice (some ⟨gM, 0, none⟩) mM cM] 26))
            have M := Rec1.new y (.slice (some ⟨gM, 0, none⟩) mM cM) 26
            replace hO := hO.since SM
            replace TA := TA.since SM
            replace hB2 := Since.trans hB2 SM
            clear o0 kM SM
            go_wp2_with (fail)
            generalize y.alloc (.cells #[.slice (some ⟨gM, 0, none⟩) mM cM] 26) = V at TM M hO TA hB2 ⊢
            have v0 : ∀ u : Later V, u.val.cell? ⟨w2.heap.size, 0, none⟩ = some (.slice (some ⟨gA, 0, none⟩) mA cA) := fun u => (hO.since u.ok).c0
            have v1 : ∀ u : Later V, u.val.cell? ⟨y.heap.size, 0, none⟩ = some (.slice (some ⟨gM, 0, none⟩) mM cM) := fun u => (M.since u.ok).c0
            have f0 : ∀ u : Later V, Calls Try.prog 8 #[.agg #[.slice (some ⟨gA, 0, none⟩) mA cA]] u.val fun e w'' => e = .returned (.bool true) ∧ ∃ z : Later V, w'' = z.val := fun u => calm_call (by rw [← h3]; exact implNetOk gA mA cA T _ u.val (TA.since u.ok))
            have f1 : ∀ u : Later V, Calls Try.prog 11 #[.agg #[.slice (some ⟨gA, 0, none⟩) mA cA]] u.val fun e w'' => e = .returned (.int .i64 (netLoad T)) ∧ ∃ z : Later V, w'' = z.val := fun u => calm_call (implNetLoad gA mA cA T _ u.val (TA.since u.ok))
            have f2 : ∀ u : Later V, Calls Try.prog 11 #[.agg #[.slice (some ⟨gM, 0, none⟩) mM cM]] u.val fun e w'' => e = .returned (.int .i64 (netLoad (netSend T ⟨#[97, 98, 99]⟩))) ∧ ∃ z : Later V, w'' = z.val := fun u => calm_call (implNetLoad gM mM cM _ _ u.val (TM.since u.ok))
            have hne : Nonempty (Later V) := ⟨⟨V, Since.refl _⟩⟩
            have hmore := load_more T ⟨#[97, 98, 99]⟩ h3
            have hlb := load_bound T h3
            clear TA TM hO M e1 h1
            subst hmc
            by_cases d6 : mA = 200
            · subst d6
              refine wp_region_calm (wb := V) (by kernel_rfl) (by kernel_rfl) (Since.refl _) ?_
              repeat (go_big_quiet_step (exact f0 _))
              refine wpQuiet_nil ?_
              rintro _ ⟨u, rfl⟩
              have hE := Since.trans hB2 u.ok
              go_wp2
              go_ret
              exact ⟨rfl, hE⟩
            · obtain ⟨m1, m2⟩ := hmore (by omega) (by decide)
              rw [m1, m2] at f2
              have t6 : ((mA : Int) == 200) = false := by simp; omega
              have hw3 : IntKind.i64.wrap (netLoad T + 3) = netLoad T + 3 := by rw [IntWalk.i64_left]; exact IntWalk.wrap64_in _ ⟨by omega, by omega⟩
              have hsz : (((⟨#[97, 98, 99]⟩ : ByteArray).size : Nat) : Int) = 3 := rfl
              rw [hsz] at f2
              generalize netLoad T = q at f1 f2 hw3
              clear m1 m2 hlb hmore
              refine wp_region_calm (wb := V) (by kernel_rfl) (by kernel_rfl) (Since.refl _) ?_
              iterate 15 (go_big_quiet_step (first | exact f0 _ | exact f2 _))
              repeat (go_big_quiet_step (exact f1 _))
              refine wpQuiet_nil ?_
              rintro _ ⟨u, rfl⟩
              have hE := Since.trans hB2 u.ok
              go_wp2
              go_ret
              exact ⟨rfl, hE⟩
          | false =>
            obtain ⟨_, hin⟩ := h1 rfl
            have hmem : txt (runTo ss os j).2 k ∈ ss := hin _ (txt_mem (by omega))
            go_wp2_with (fail)
            go_loopw [13, 14] (fun p i wq => ∃ m : Nat, m ≤ n ∧ i = .int .i64 m ∧ p = .bool (knownTo ss (txt (runTo ss os j).2 k) m) ∧ LS w ao n cp ss go j co os w1.heap.size w2.heap.size gA mA cA gB mB cB _ wq) (fun _ i _ => n - (intOf i).toNat)
            case atStart => exact ⟨0, by omega, rfl, rfl, L⟩
            case round =>
              clear L hin
              obtain ⟨m, hm2, rfl, rfl, L⟩ := hrel
              by_cases hlt3 : m < n
              · obtain ⟨xa, rfl, hxb, hxc⟩ := (net_reads L.D.net L.D.count).1.cell m hlt3
                have hyc := L.TB.cell k hlt
                rw [e1] at hyc
                have n0 := L.N.c0
                have hlt3' : (m : Int) < (n : Int) := by omega
                have hL := fun N : Nat => L.later (since_drewN (Since.refl wr) N)
                clear L
                by_cases he : txt ss m = txt (runTo ss os j).2 k
                · have hkn : knownTo ss (txt (runTo ss os j).2 k) (m + 1) = true := by simp [knownTo, he]
                  rw [he] at hxc
                  clear he
                  generalize txt (runTo ss os j).2 k = t at hxc hyc hkn ⊢
                  go_wp2
                  go_quiet (fail)
                  go_wp2
                  go_roundw
                  case rel => exact ⟨m + 1, by omega, by go_num, by rw [hkn], hL _⟩
                  case measure => simp [intOf]; omega
                · have hne := texts_differ he
                  have hkn : knownTo ss (txt (runTo ss os j).2 k) (m + 1) = knownTo ss (txt (runTo ss os j).2 k) m := by simp [knownTo, he]
                  clear he
                  generalize txt (runTo ss os j).2 k = t at hxc hyc hkn hne ⊢
                  go_wp2
                  go_quiet (fail)
                  go_wp2
                  go_roundw
                  case rel => exact ⟨m + 1, by omega, by go_num, by rw [hkn], hL _⟩
                  case measure => simp [intOf]; omega
              · obtain rfl : m = n := by omega
                have hkn := known_in ss _ hmem
                rw [hcn] at hkn
                have n0 := L.N.c0
                rw [hkn]
                go_wp2
                go_roundw
                case rel => exact ⟨k + 1, by omega, by go_num, L⟩
                case measure => simp [intOf]; omega
        · have hltn : ¬ (k : Int) < (mB : Int) := by omega
          have o0 := L.O.c0
          have TA := L.TA
          have hB2 := L.D.since
          have hO := L.O
          rw [e1] at TA hmA
          clear L
          generalize (runTo ss os j).1 = T at TA hmA h1 h2 h3
          have hTc := ((netOk_all T).1 h3)
          have hsend := implNetSendOwn _ gA mA cA T ⟨#[97, 98, 99]⟩ (by omega) (fun i hi => Nat.le_trans (small_at hmA hTc.2 i hi) (by omega)) (by decide) wr TA
          have hmc : (mA : Int) = c := by omega
          go_wp2_with (fail)
          refine hsend.mono ?_
          clear hsend
          rintro _ y ⟨gM, mM, cM, rfl, TM, kM⟩
          replace TM := TM.since ((Since.refl y).alloc (.cells #[.slice (some ⟨gM, 0, none⟩) mM cM] 26))
          have SM := kM.trans ((Since.refl y).alloc (.cells #[.slice (some ⟨gM, 0, none⟩) mM cM] 26))
          have M := Rec1.new y (.slice (some ⟨gM, 0, none⟩) mM cM) 26
          replace hO := hO.since SM
          replace TA := TA.since SM
          replace hB2 := Since.trans hB2 SM
          clear o0 kM SM
          go_wp2_with (fail)
          generalize y.alloc (.cells #[.slice (some ⟨gM, 0, none⟩) mM cM] 26) = V at TM M hO TA hB2 ⊢
          have v0 : ∀ u : Later V, u.val.cell? ⟨w2.heap.size, 0, none⟩ = some (.slice (some ⟨gA, 0, none⟩) mA cA) := fun u => (hO.since u.ok).c0
          have v1 : ∀ u : Later V, u.val.cell? ⟨y.heap.size, 0, none⟩ = some (.slice (some ⟨gM, 0, none⟩) mM cM) := fun u => (M.since u.ok).c0
          have f0 : ∀ u : Later V, Calls Try.prog 8 #[.agg #[.slice (some ⟨gA, 0, none⟩) mA cA]] u.val fun e w'' => e = .returned (.bool true) ∧ ∃ z : Later V, w'' = z.val := fun u => calm_call (by rw [← h3]; exact implNetOk gA mA cA T _ u.val (TA.since u.ok))
          have f1 : ∀ u : Later V, Calls Try.prog 11 #[.agg #[.slice (some ⟨gA, 0, none⟩) mA cA]] u.val fun e w'' => e = .returned (.int .i64 (netLoad T)) ∧ ∃ z : Later V, w'' = z.val := fun u => calm_call (implNetLoad gA mA cA T _ u.val (TA.since u.ok))
          have f2 : ∀ u : Later V, Calls Try.prog 11 #[.agg #[.slice (some ⟨gM, 0, none⟩) mM cM]] u.val fun e w'' => e = .returned (.int .i64 (netLoad (netSend T ⟨#[97, 98, 99]⟩))) ∧ ∃ z : Later V, w'' = z.val := fun u => calm_call (implNetLoad gM mM cM _ _ u.val (TM.since u.ok))
          have hne : Nonempty (Later V) := ⟨⟨V, Since.refl _⟩⟩
          have hmore := load_more T ⟨#[97, 98, 99]⟩ h3
          have hlb := load_bound T h3
          clear TA TM hO M e1 h1
          subst hmc
          by_cases d6 : mA = 200
          · subst d6
            refine wp_region_calm (wb := V) (by kernel_rfl) (by kernel_rfl) (Since.refl _) ?_
            repeat (go_big_quiet_step (exact f0 _))
            refine wpQuiet_nil ?_
            rintro _ ⟨u, rfl⟩
            have hE := Since.trans hB2 u.ok
            go_wp2
            go_ret
            exact ⟨rfl, hE⟩
          · obtain ⟨m1, m2⟩ := hmore (by omega) (by decide)
            rw [m1, m2] at f2
            have t6 : ((mA : Int) == 200) = false := by simp; omega
            have hw3 : IntKind.i64.wrap (netLoad T + 3) = netLoad T + 3 := by rw [IntWalk.i64_left]; exact IntWalk.wrap64_in _ ⟨by omega, by omega⟩
            have hsz : (((⟨#[97, 98, 99]⟩ : ByteArray).size : Nat) : Int) = 3 := rfl
            rw [hsz] at f2
            generalize netLoad T = q at f1 f2 hw3
            clear m1 m2 hlb hmore
            refine wp_region_calm (wb := V) (by kernel_rfl) (by kernel_rfl) (Since.refl _) ?_
            iterate 15 (go_big_quiet_step (first | exact f0 _ | exact f2 _))
            repeat (go_big_quiet_step (exact f1 _))
            refine wpQuiet_nil ?_
            rintro _ ⟨u, rfl⟩
            have hE := Since.trans hB2 u.ok
            go_wp2
            go_ret
            exact ⟨rfl, hE⟩
end Go.Proofs.Ythjdcgckonckoaa
