/-
  The same for operations that turn more than new blocks: whatever they keep is told by a relation of one's own (transitive), instead of 'nothing of what was there has turned'.
-/
import Derived.Test.YtjilpicpfddbfaaDoorDrawnTail
namespace Go.Proofs.YtjilpicpfddbfaaDoor
open Go.ChangeShapes Go.WideShapes Go.ChangeAt Go.RowKit
set_option linter.unusedVariables false
set_option maxRecDepth 10000

section
variable {P : Program} {ops : Array Oper} {Q : Exit → Act → World → Prop} {a0 : Act} {wb : World} {V : Nat → World → Value → Prop} {m : Nat} {R : World → World → Prop}

structure KeptR (R : World → World → Prop) (ops : Array Oper) (a0 : Act) (wb : World) (V : Nat → World → Value → Prop) (listed : Array Bool) (vals : Nat → Value) (a : Act) (w : World) : Prop where
  since : R wb w
  defers : a.defers = a0.defers
  size : a.tmps.size = a0.tmps.size
  base : ∀ t : Nat, maker ops t = none → a.tmps[t]? = a0.tmps[t]?
  made : ∀ t j : Nat, maker ops t = some j → listed.getD j false = true → t < a0.tmps.size → a.tmps[t]? = some (vals j)
  has : ∀ j : Nat, listed.getD j false = true → V j w (vals j)

theorem KeptR.put_slot {listed : Array Bool} {vals : Nat → Value} {a : Act} {w w' : World} (h : KeptR R ops a0 wb V listed vals a w) (hRt : ∀ a b c, R a b → R b c → R a c) (hst : ∀ j w w' v, R w w' → V j w v → V j w' v)
    {i : Nat} {o : Oper} (ho : ops[i]? = some o) (hd : ∀ d, o.dst = some d → maker ops d = some i ∧ d < a0.tmps.size) {u : Value} (hw : R w w') (hu : V i w' u) :
    KeptR R ops a0 wb V (listed.setIfInBounds i true) (fun j => if j = i then u else vals j) (a.put o.dst u) w' := by
  refine ⟨hRt _ _ _ h.since hw, ?_, ?_, ?_, ?_, ?_⟩
  · cases hdst : o.dst <;> simp [Act.put, h.defers]
  · cases hdst : o.dst <;> simp [Act.put, h.size]
  · intro t ht
    cases hdst : o.dst with
    | none => exact h.base t ht
    | some d =>
      have hne : d ≠ t := fun e => by
        subst e
        rw [(hd d hdst).1] at ht
        cases ht
      simp only [Act.put, Array.getElem?_setIfInBounds_ne hne]
      exact h.base t ht
  · intro t j hj hl hlt
    by_cases hji : j = i
    · subst hji
      simp only [if_true]
      have hdst : o.dst = some t := by
        have := List.find?_some hj
        simpa [ho] using this
      have hta : t < a.tmps.size := by rw [h.size]; exact hlt
      simp only [Act.put, hdst]
      simp [hta]
    · have hl' : listed.getD j false = true := (getD_set_or hl).resolve_left hji
      simp only [hji, if_false]
      cases hdst : o.dst with
      | none => exact h.made t j hj hl' hlt
      | some d =>
        have hne : d ≠ t := fun e => by
          subst e
          rw [(hd d hdst).1] at hj
          exact hji (by simpa using hj.symm)
        simp only [Act.put, Array.getElem?_setIfInBounds_ne hne]
        exact h.made t j hj hl' hlt
  · intro j hl
    by_cases hji : j = i
    · subst hji
      simpa using hu
    · simp only [hji, if_false]
      exact hst j _ _ _ hw (h.has j ((getD_set_or hl).resolve_left hji))

structure KeptR3 (R : World → World → Prop) (ops : Array Oper) (a0 : Act) (wb : World) (V : Nat → World → Value → Prop) (m : Nat) (listed : Array Bool) (vals : Nat → Value) (a : Act) (w : World) : Prop where
  kept : KeptR R ops a0 wb V listed vals a w
  rest : ∀ t j : Nat, maker ops t = some j → m ≤ j → a.tmps[t]? = a0.tmps[t]?
  shut : Shut ops listed
  none_yet : ∀ j, m ≤ j → listed.getD j false = false

theorem KeptR3.put {listed : Array Bool} {vals : Nat → Value} {a : Act} {w w' : World} (h : KeptR3 R ops a0 wb V m listed vals a w) (hRt : ∀ a b c, R a b → R b c → R a c) (hst : ∀ j w w' v, R w w' → V j w v → V j w' v)
    (hs : settledTo ops a0.tmps.size m = true) {i : Nat} {o : Oper} (ho : ops[i]? = some o) (him : i < m) (hr : ∀ e ∈ o.after, Region.binds .any e = true → listed.getD e.on false = true) {u : Value} (hw : R w w') (hu : V i w' u) :
    KeptR3 R ops a0 wb V m (listed.setIfInBounds i true) (fun j => if j = i then u else vals j) (a.put o.dst u) w' := by
  refine ⟨h.kept.put_slot hRt hst ho (settledTo_at hs ho).2.2.1 hw hu, fun t j ht hj => ?_, h.shut.put ho hr, fun j hj => ?_⟩
  case refine_2 =>
    rw [getD_set_ne false (by omega)]
    exact h.none_yet j hj
  obtain ⟨_, _, hd, _⟩ := settledTo_at hs ho
  cases hdst : o.dst with
  | none => exact h.rest t j ht hj
  | some d =>
    have hne : d ≠ t := fun e => by
      subst e
      rw [(hd d hdst).1] at ht
      have : i = j := by simpa using ht
      omega
    simp only [Act.put, Array.getElem?_setIfInBounds_ne hne]
    exact h.rest t j ht hj

theorem KeptR3.exec {listed : Array Bool} {vals : Nat → Value} {a : Act} {w : World} (h : KeptR3 R ops a0 wb V m listed vals a w) (hs : settledTo ops a0.tmps.size m = true)
    {i : Nat} {o : Oper} (ho : ops[i]? = some o) (him : i < m) (hr : ∀ e ∈ o.after, Region.binds .any e = true → listed.getD e.on false = true) :
    execOp a.eval o = execOp (filledTo ops m a0 vals).eval o := by
  obtain ⟨_, hlt', _, hx⟩ := settledTo_at hs ho
  refine execOp_congr o (fun cs b => Region.noSelect_spec (by simp only [settledTo, Bool.and_eq_true] at hs; exact hs.1) i o cs b ho) ?_
  intro x hxm
  cases x with
  | tmp t =>
    by_cases hlt : t < a0.tmps.size
    · have e1 : a.tmps[t]? = (filledTo ops m a0 vals).tmps[t]? := by
        rw [filledTo_at _ _ _ hlt]
        cases hmk : maker ops t with
        | none => rw [h.kept.base t hmk]; simp [hlt]
        | some k =>
          rcases hx him t hxm k hmk with hmk2 | ⟨e, he, hb, hk⟩
          · simp only [hmk2, if_true]
            rw [h.rest t k hmk hmk2]
            simp [hlt]
          subst hk
          have := hlt' e he hb
          simp only [show ¬ m ≤ e.on by omega, if_false]
          exact h.kept.made t _ hmk (hr e he hb) hlt
      simp [Act.eval, Array.getD_eq_getD_getElem?, e1]
    · have e1 : a.tmps[t]? = none := Array.getElem?_eq_none (by rw [h.kept.size]; exact Nat.le_of_not_lt hlt)
      have e2 : (filledTo ops m a0 vals).tmps[t]? = none := Array.getElem?_eq_none (by simp only [filledTo, Array.size_mapIdx]; exact Nat.le_of_not_lt hlt)
      simp [Act.eval, Array.getD_eq_getD_getElem?, e1, e2]
  | _ => rfl

theorem KeptR3.frame {listed : Array Bool} {vals : Nat → Value} {a : Act} {w : World} (h : KeptR3 R ops a0 wb V m listed vals a w) (hall : ∀ j, j < m → listed.getD j false = true) : a = filledTo ops m a0 vals := by
  have ht : a.tmps = (filledTo ops m a0 vals).tmps := by
    apply Array.ext_getElem?
    intro t
    by_cases hlt2 : t < a0.tmps.size
    · rw [filledTo_at _ _ _ hlt2]
      cases hmk : maker ops t with
      | none => rw [h.kept.base t hmk]; simp [hlt2]
      | some k =>
        by_cases hki : m ≤ k
        · simp only [hki, if_true]
          rw [h.rest t k hmk hki]
          simp [hlt2]
        · simp only [hki, if_false]
          exact h.kept.made t k hmk (hall k (by omega)) hlt2
    · rw [Array.getElem?_eq_none (by rw [h.kept.size]; omega), Array.getElem?_eq_none (by simp [filledTo]; omega)]
  cases a
  simp only [filledTo] at ht ⊢
  have := h.kept.defers
  simp_all

theorem wpAny_headR (hs : settledTo ops a0.tmps.size m = true) (htl : tailed ops m = true) (hRt : ∀ a b c, R a b → R b c → R a c) (hst : ∀ j w w' v, R w w' → V j w v → V j w' v)
    (hop : ∀ i o, ops[i]? = some o → i < m → ∀ vals w, R wb w → (∀ e ∈ o.after, Region.binds .any e = true → V e.on w (vals e.on)) → does P o (filledTo ops m a0 vals) w fun v w' => R w w' ∧ V i w' v)
    (rest : List Oper) (hrest : ∀ j, rest[j]? = ops[m + j]?) (hfin : ∀ vals w, R wb w → (∀ i, i < m → V i w (vals i)) → wpList P ops Q rest (filledTo ops m a0 vals) w) :
    ∀ (fuel : Nat) (U : List Nat) (listed : Array Bool) (vals : Nat → Value) (a : Act) (w : World), listed.size = ops.size → (∀ j, j < m → listed.getD j true = false → j ∈ U) → U.length + (ops.size - m) ≤ fuel →
      KeptR3 R ops a0 wb V m listed vals a w → wpAny P .any ops Q fuel listed a w := by
  obtain ⟨hmn, hwt⟩ := tailed_at htl
  have un : ∀ (listed : Array Bool), listed.size = ops.size → ∀ j, j < ops.size → listed.getD j false = false → listed.getD j true = false := fun listed hsz j hj h => by
    simp [hsz, hj] at h ⊢
    exact h
  have done : ∀ (fuel : Nat) (listed : Array Bool) (vals : Nat → Value) (a : Act) (w : World), listed.size = ops.size → ops.size - m ≤ fuel → (∀ j, j < m → listed.getD j false = true) → KeptR3 R ops a0 wb V m listed vals a w → wpAny P .any ops Q fuel listed a w := by
    intro fuel listed vals a w hsz hf hall hk
    refine wpAny_rest hs htl fuel rest m listed a w hrest (Nat.le_refl _) hmn hsz hall hk.none_yet hk.shut hf ?_
    rw [hk.frame hall]
    exact hfin vals w hk.kept.since (fun i hi => hk.kept.has i (hall i hi))
  intro fuel
  induction fuel with
  | zero =>
    intro U listed vals a w hsz hU hl hk
    have hnil : U = [] := List.length_eq_zero_iff.1 (by omega)
    refine done 0 listed vals a w hsz (by omega) (fun j hj => ?_) hk
    refine Classical.byContradiction fun hno => ?_
    have := hU j hj (un listed hsz j (by omega) (by simpa using hno))
    rw [hnil] at this
    cases this
  | succ fuel ih =>
    intro U listed vals a w hsz hU hl hk
    by_cases hall : ∀ j, j < m → listed.getD j false = true
    · exact done (fuel + 1) listed vals a w hsz (by omega) hall hk
    refine ⟨fun hr => absurd (fun j hj => all_listed hs hsz hr j j (Nat.le_refl _) (by omega)) hall, fun i hi => ?_⟩
    obtain ⟨h0, o, ho, hr⟩ := mem_ready.1 hi
    have hlt : i < ops.size := (Array.getElem?_eq_some_iff.1 ho).1
    have him : i < m := Classical.byContradiction fun hno => hall fun j hj => hk.shut.below ho (hwt i (by omega) hlt) hr j (by omega)
    unfold wpOp
    simp only [ho]
    have hg := (settledTo_at hs ho).1
    have hwant : Region.wanted o (yielded ops a.tmps) = true := by simp [Region.wanted, hg]
    rw [if_pos hwant]
    refine .inl ?_
    have hd := hop i o ho him vals w hk.kept.since (fun e he hb => hk.kept.has _ (hr e he hb))
    have hnext : ∀ u w', R w w' → V i w' u → wpAny P .any ops Q fuel (listed.setIfInBounds i true) (a.put o.dst u) w' := fun u w' h1 h2 =>
      ih (U.erase i) _ _ _ _ (by simp [hsz]) (fun j hj hun => by
        have hji : j ≠ i := fun e => by
          subst e
          simp [hsz, hlt] at hun
        rw [getD_set_ne true (Ne.symm hji)] at hun
        exact (List.mem_erase_of_ne hji).2 (hU j hj hun)) (by
        have hmem := hU i him h0
        have hpos : 0 < U.length := List.length_pos_of_mem hmem
        rw [List.length_erase_of_mem hmem]
        omega) (hk.put hRt hst hs ho him hr h1 h2)
    unfold does at hd
    rw [← hk.exec hs ho him hr] at hd
    unfold Oper.wp
    generalize (execOp a.eval o).run P w = r at hd
    cases r with
    | ok n w' =>
      cases n <;> simp only [doesUpon] at hd <;> simp only [Oper.upon]
      case value u => exact hnext u w' hd.1 hd.2
      case skip => exact hnext undef w' hd.1 hd.2
      case enter f args => exact hd.mono fun e w'' ⟨v, he, h1, h2⟩ => by subst he; exact hnext v w'' h1 h2
    | halt x w' => simp only [doesUpon] at hd
end

/-- Each operation of the region, one behind the other. -/
def eachDoesR (P : Program) (R : World → World → Prop) (V : Nat → World → Value → Prop) (F : (Nat → Value) → Act) (wb : World) : Nat → List Oper → Prop
  | _, [] => True
  | k, o :: rest => (∀ vals x, R wb x → (∀ e ∈ o.after, Region.binds .any e = true → V e.on x (vals e.on)) → does P o (F vals) x fun v w' => R x w' ∧ V k w' v) ∧ eachDoesR P R V F wb (k + 1) rest

theorem eachDoesR_nil {P : Program} {R : World → World → Prop} {V : Nat → World → Value → Prop} {F : (Nat → Value) → Act} {wb : World} {k : Nat} : eachDoesR P R V F wb k [] := trivial

theorem eachDoesR_cons {P : Program} {R : World → World → Prop} {V : Nat → World → Value → Prop} {F : (Nat → Value) → Act} {wb : World} {k : Nat} {o : Oper} {rest : List Oper} (h : eachDoesR P R V F wb (k + 1) rest)
    (h1 : ∀ vals x, R wb x → (∀ e ∈ o.after, Region.binds .any e = true → V e.on x (vals e.on)) → does P o (F vals) x fun v w' => R x w' ∧ V k w' v) : eachDoesR P R V F wb k (o :: rest) := ⟨h1, h⟩

theorem eachDoesR_at {P : Program} {R : World → World → Prop} {V : Nat → World → Value → Prop} {F : (Nat → Value) → Act} {wb : World} : ∀ (l : List Oper) (k : Nat), eachDoesR P R V F wb k l → ∀ i o, l[i]? = some o → ∀ vals x, R wb x →
    (∀ e ∈ o.after, Region.binds .any e = true → V e.on x (vals e.on)) → does P o (F vals) x fun v w' => R x w' ∧ V (k + i) w' v
  | [], _, _, i, o, h => by cases h
  | o :: rest, k, h, 0, o', hi => by
    obtain rfl : o = o' := by simpa using hi
    exact h.1
  | o :: rest, k, h, i + 1, o', hi => by
    have := eachDoesR_at rest (k + 1) h.2 i o' (by simpa using hi)
    rw [show k + (i + 1) = k + 1 + i by omega]
    exact this

/-- THE FIRST m IN EVERY ORDER, THE REST BY A WALK. -/
theorem wp_region_tailR {P : Program} {id : Nat} {Q : Exit → Act → World → Prop} {a : Act} {w wb : World} {l : List Oper} (R : World → World → Prop) (m : Nat) (V : Nat → World → Value → Prop) (F : (Nat → Value) → Act) (hm : P.follows .mixedOrders = true) (hs : settledTo l.toArray a.tmps.size m = true) (htl : tailed l.toArray m = true) (hRt : ∀ a b c, R a b → R b c → R a c) (h0 : R wb w.drew)
    (hst : ∀ j w w' v, R w w' → V j w v → V j w' v) (hF : ∀ vals, F vals = filledTo l.toArray m a vals) (hop : eachDoesR P R V F wb 0 (l.take m))
    (hfin : ∀ vals w, R wb w → (∀ i, i < m → V i w (vals i)) → wpList P l.toArray Q (l.drop m) (F vals) w) : (Code.region id l.toArray true).wp P Q a w := by
  have hmn : m ≤ l.length := by simpa using (tailed_at htl).1
  refine wp_region_any hm (wpAny_headR (V := V) (a0 := a) (wb := wb) (R := R) hs htl hRt hst ?_ (l.drop m) (fun j => by simp) ?_ _ (List.range m) _ (fun _ => undef) _ _ (by simp) (fun j hj _ => by simpa using hj) (by simp; omega) ⟨⟨h0, rfl, rfl, fun _ _ => rfl, ?_, ?_⟩, fun _ _ _ _ => rfl, ?_, fun j _ => none_listed _ _⟩)
  · intro i o ho him vals w hw hv
    have := eachDoesR_at (l.take m) 0 hop i o (by simpa [him] using ho) vals w hw hv
    rw [Nat.zero_add, hF] at this
    exact this
  · intro vals w hw hv
    have := hfin vals w hw hv
    rw [hF] at this
    exact this
  · intro t j _ hl
    rw [none_listed] at hl
    cases hl
  · intro j hl
    rw [none_listed] at hl
    cases hl
  · intro j o hl
    rw [none_listed] at hl
    cases hl
end Go.Proofs.YtjilpicpfddbfaaDoor
