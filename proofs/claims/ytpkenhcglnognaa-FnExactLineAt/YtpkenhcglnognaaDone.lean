/-
  A region that leaves its order open and stores among its reads: what is known of the world hangs on which operations are done; each operation is shown once. (Own law over the library's 'wpAny'.)
-/
import Derived.Test.YtpkenhcglnognaaM3
namespace Go.Proofs.Ytpkenhcglnognaa
open Go.ChangeShapes Go.WideShapes Go.ChangeAt Go.RowKit
set_option linter.unusedVariables false
set_option maxRecDepth 10000

/-- One more is done. -/
def andDone (f : Nat → Bool) (i : Nat) : Nat → Bool := fun j => if j = i then true else f j

/-- One more value. -/
def putVal (vals : Nat → Value) (i : Nat) (u : Value) : Nat → Value := fun j => if j = i then u else vals j

section
variable {P : Program} {ops : Array Oper} {Q : Exit → Act → World → Prop} {a0 : Act} {I : (Nat → Bool) → (Nat → Value) → World → Prop}

structure KeptD (ops : Array Oper) (a0 : Act) (I : (Nat → Bool) → (Nat → Value) → World → Prop) (listed : Array Bool) (vals : Nat → Value) (a : Act) (w : World) : Prop where
  inv : I (fun j => listed.getD j false) vals w
  defers : a.defers = a0.defers
  size : a.tmps.size = a0.tmps.size
  base : ∀ t : Nat, maker ops t = none → a.tmps[t]? = a0.tmps[t]?
  made : ∀ t j : Nat, maker ops t = some j → listed.getD j false = true → t < a0.tmps.size → a.tmps[t]? = some (vals j)

theorem done_set {listed : Array Bool} {i : Nat} (h : i < listed.size) : (fun j => (listed.setIfInBounds i true).getD j false) = andDone (fun j => listed.getD j false) i := by
  funext j
  unfold andDone
  by_cases hij : j = i
  · subst hij
    simp [h]
  · rw [if_neg hij, getD_set_ne false (Ne.symm hij)]

theorem KeptD.put {listed : Array Bool} {vals : Nat → Value} {a : Act} {w w' : World} (h : KeptD ops a0 I listed vals a w)
    (hs : settled ops a0.tmps.size = true) {i : Nat} {o : Oper} (ho : ops[i]? = some o) (hl : i < listed.size) {u : Value} (hw : I (andDone (fun j => listed.getD j false) i) (putVal vals i u) w') :
    KeptD ops a0 I (listed.setIfInBounds i true) (putVal vals i u) (a.put o.dst u) w' := by
  obtain ⟨_, _, hd, _⟩ := settled_at hs ho
  refine ⟨by rw [done_set hl]; exact hw, ?_, ?_, ?_, ?_⟩
  · cases hdst : o.dst <;> simp [Act.put, h.defers]
  · cases hdst : o.dst <;> simp [Act.put, h.size]
  · intro t ht
    cases hdst : o.dst with
    | none => exact h.base t ht
    | some d =>
      have hne : d ≠ t := fun e => by
        subst e
        rw [(hd d hdst).1] at ht
        cases ht
      simp only [Act.put, Array.getElem?_setIfInBounds_ne hne]
      exact h.base t ht
  · intro t j hj hl hlt
    by_cases hji : j = i
    · subst hji
      rw [show putVal vals j u j = u from if_pos rfl]
      have hdst : o.dst = some t := by
        have := List.find?_some hj
        simpa [ho] using this
      have hta : t < a.tmps.size := by rw [h.size]; exact hlt
      simp only [Act.put, hdst]
      simp [hta]
    · have hl' : listed.getD j false = true := (getD_set_or hl).resolve_left hji
      rw [show putVal vals i u j = vals j from if_neg hji]
      cases hdst : o.dst with
      | none => exact h.made t j hj hl' hlt
      | some d =>
        have hne : d ≠ t := fun e => by
          subst e
          rw [(hd d hdst).1] at hj
          exact hji (by simpa using hj.symm)
        simp only [Act.put, Array.getElem?_setIfInBounds_ne hne]
        exact h.made t j hj hl' hlt

theorem KeptD.exec {listed : Array Bool} {vals : Nat → Value} {a : Act} {w : World} (h : KeptD ops a0 I listed vals a w) (hs : settled ops a0.tmps.size = true)
    {i : Nat} {o : Oper} (ho : ops[i]? = some o) (hr : ∀ e ∈ o.after, Region.binds .any e = true → listed.getD e.on false = true) :
    execOp a.eval o = execOp (filled ops a0 vals).eval o := by
  obtain ⟨_, _, _, hx⟩ := settled_at hs ho
  refine execOp_congr o (fun cs b => Region.noSelect_spec (by simp only [settled, Bool.and_eq_true] at hs; exact hs.1) i o cs b ho) ?_
  intro x hxm
  cases x with
  | tmp t =>
    by_cases hlt : t < a0.tmps.size
    · have e1 : a.tmps[t]? = (filled ops a0 vals).tmps[t]? := by
        rw [filled_at _ _ _ hlt]
        cases hm : maker ops t with
        | none => rw [h.base t hm]; simp [hlt]
        | some k =>
          obtain ⟨e, he, hb, hk⟩ := hx t hxm k hm
          subst hk
          exact h.made t _ hm (hr e he hb) hlt
      simp [Act.eval, Array.getD_eq_getD_getElem?, e1]
    · have e1 : a.tmps[t]? = none := Array.getElem?_eq_none (by rw [h.size]; exact Nat.le_of_not_lt hlt)
      have e2 : (filled ops a0 vals).tmps[t]? = none := Array.getElem?_eq_none (by simp only [filled, Array.size_mapIdx]; exact Nat.le_of_not_lt hlt)
      simp [Act.eval, Array.getD_eq_getD_getElem?, e1, e2]
  | _ => rfl

theorem wpAny_done (hs : settled ops a0.tmps.size = true)
    (hop : ∀ i o, ops[i]? = some o → ∀ (f : Nat → Bool) vals w, f i = false → (∀ e ∈ o.after, Region.binds .any e = true → f e.on = true) → I f vals w → does P o (filled ops a0 vals) w fun v w' => I (andDone f i) (putVal vals i v) w')
    (hfin : ∀ (f : Nat → Bool) vals w, I f vals w → (∀ i, i < ops.size → f i = true) → Q .normal (filled ops a0 vals) w) :
    ∀ (fuel : Nat) (U : List Nat) (listed : Array Bool) (vals : Nat → Value) (a : Act) (w : World), listed.size = ops.size → (∀ j, j < ops.size → listed.getD j true = false → j ∈ U) → U.length ≤ fuel →
      KeptD ops a0 I listed vals a w → wpAny P .any ops Q fuel listed a w := by
  have fin : ∀ (listed : Array Bool) (vals : Nat → Value) (a : Act) (w : World), listed.size = ops.size → Region.ready .any ops listed = [] → KeptD ops a0 I listed vals a w → Q .normal a w := by
    intro listed vals a w hsz hr hk
    have hall : ∀ n j, j ≤ n → j < ops.size → listed.getD j false = true := by
      intro n
      induction n with
      | zero =>
        intro j hj hlt
        obtain rfl : j = 0 := by omega
        refine Classical.byContradiction fun hno => ?_
        have : 0 ∈ Region.ready .any ops listed := mem_ready.2 ⟨by simp [hsz, hlt] at hno ⊢; exact hno, ops[0], by simp [hlt], fun e he hb => by
          have := (settled_at hs (j := 0) (o := ops[0]) (by simp [hlt])).2.1 e he hb
          omega⟩
        rw [hr] at this
        cases this
      | succ n ih =>
        intro j hj hlt
        by_cases hjn : j ≤ n
        · exact ih j hjn hlt
        · refine Classical.byContradiction fun hno => ?_
          have : j ∈ Region.ready .any ops listed := mem_ready.2 ⟨by simp [hsz, hlt] at hno ⊢; exact hno, ops[j], by simp [hlt], fun e he hb => by
            have := (settled_at hs (j := j) (o := ops[j]) (by simp [hlt])).2.1 e he hb
            exact ih e.on (by omega) (by omega)⟩
          rw [hr] at this
          cases this
    have ha : a = filled ops a0 vals := by
      have ht : a.tmps = (filled ops a0 vals).tmps := by
        apply Array.ext_getElem?
        intro t
        by_cases hlt : t < a0.tmps.size
        · rw [filled_at _ _ _ hlt]
          cases hm : maker ops t with
          | none => rw [hk.base t hm]; simp [hlt]
          | some k =>
            have hk2 : k < ops.size := by
              have := List.mem_of_find?_eq_some hm
              simpa using this
            exact hk.made t k hm (hall k k (Nat.le_refl _) hk2) hlt
        · rw [Array.getElem?_eq_none (by rw [hk.size]; omega), Array.getElem?_eq_none (by simp [filled]; omega)]
      cases a
      simp only [filled] at ht ⊢
      have := hk.defers
      simp_all
    rw [ha]
    exact hfin _ vals w hk.inv (fun i hi => hall i i (Nat.le_refl _) hi)
  intro fuel
  induction fuel with
  | zero =>
    intro U listed vals a w hsz hU hl hk
    have hr : Region.ready .any ops listed = [] := by
      refine List.eq_nil_iff_forall_not_mem.2 fun j hj => ?_
      obtain ⟨h0, o, ho, _⟩ := mem_ready.1 hj
      have := hU j (Array.getElem?_eq_some_iff.1 ho).1 h0
      have hnil : U = [] := List.length_eq_zero_iff.1 (by omega)
      rw [hnil] at this
      cases this
    exact ⟨hr, fin listed vals a w hsz hr hk⟩
  | succ fuel ih =>
    intro U listed vals a w hsz hU hl hk
    refine ⟨fun hr => fin listed vals a w hsz hr hk, fun i hi => ?_⟩
    obtain ⟨h0, o, ho, hr⟩ := mem_ready.1 hi
    have hlt : i < ops.size := (Array.getElem?_eq_some_iff.1 ho).1
    have h0' : listed.getD i false = false := by
      have hi2 : i < listed.size := by omega
      simp [hi2] at h0 ⊢
      exact h0
    have hd := hop i o ho (fun j => listed.getD j false) vals w h0' (fun e he hb => hr e he hb) hk.inv
    have hnext : ∀ u w', I (andDone (fun j => listed.getD j false) i) (putVal vals i u) w' → wpAny P .any ops Q fuel (listed.setIfInBounds i true) (a.put o.dst u) w' := fun u w' h1 =>
      ih (U.erase i) _ _ _ _ (by simp [hsz]) (fun j hj hun => by
        have hji : j ≠ i := fun e => by
          subst e
          simp [hsz, hj] at hun
        rw [getD_set_ne true (Ne.symm hji)] at hun
        exact (List.mem_erase_of_ne hji).2 (hU j hj hun)) (by
        rw [List.length_erase_of_mem (hU i hlt h0)]
        omega) (hk.put hs ho (by omega) h1)
    unfold wpOp
    simp only [ho]
    have hg := (settled_at hs ho).1
    have hwant : Region.wanted o (yielded ops a.tmps) = true := by simp [Region.wanted, hg]
    rw [if_pos hwant]
    refine .inl ?_
    unfold does at hd
    rw [← hk.exec hs ho hr] at hd
    unfold Oper.wp
    generalize (execOp a.eval o).run P w = r at hd
    cases r with
    | ok n w' =>
      cases n <;> simp only [doesUpon] at hd <;> simp only [Oper.upon]
      case value u => exact hnext u w' hd
      case skip => exact hnext undef w' hd
      case enter f args => exact hd.mono fun e w'' ⟨v, he, h1⟩ => by subst he; exact hnext v w'' h1
    | halt x w' => simp only [doesUpon] at hd
end

/-- Each operation of the region, one behind the other. -/
def eachDoneV (P : Program) (I : (Nat → Bool) → (Nat → Value) → World → Prop) (F : (Nat → Value) → Act) : Nat → List Oper → Prop
  | _, [] => True
  | k, o :: rest => (∀ (f : Nat → Bool) vals x, f k = false → (∀ e ∈ o.after, Region.binds .any e = true → f e.on = true) → I f vals x → does P o (F vals) x fun v w' => I (andDone f k) (putVal vals k v) w') ∧ eachDoneV P I F (k + 1) rest

theorem eachDoneV_at {P : Program} {I : (Nat → Bool) → (Nat → Value) → World → Prop} {F : (Nat → Value) → Act} : ∀ (l : List Oper) (k : Nat), eachDoneV P I F k l → ∀ i o, l[i]? = some o → ∀ (f : Nat → Bool) vals x, f (k + i) = false →
    (∀ e ∈ o.after, Region.binds .any e = true → f e.on = true) → I f vals x → does P o (F vals) x fun v w' => I (andDone f (k + i)) (putVal vals (k + i) v) w'
  | [], _, _, i, o, h => by cases h
  | o :: rest, k, h, 0, o', hi => by
    obtain rfl : o = o' := by simpa using hi
    exact h.1
  | o :: rest, k, h, i + 1, o', hi => by
    have := eachDoneV_at rest (k + 1) h.2 i o' (by simpa using hi)
    rw [show k + (i + 1) = k + 1 + i by omega]
    exact this

/-- EVERY ORDER, BY ONE LOOK AT EACH OPERATION, with what is done in view. -/
theorem wp_region_doneV {P : Program} {id : Nat} {Q : Exit → Act → World → Prop} {a : Act} {w : World} {l : List Oper} (I : (Nat → Bool) → (Nat → Value) → World → Prop) (F : (Nat → Value) → Act) (hm : P.follows .mixedOrders = true) (hs : settled l.toArray a.tmps.size = true) (h0 : ∀ (f : Nat → Bool) vals, (∀ j, f j = false) → I f vals w.drew)
    (hF : ∀ vals, F vals = filled l.toArray a vals) (hop : eachDoneV P I F 0 l)
    (hfin : ∀ (f : Nat → Bool) vals w, I f vals w → (∀ i, i < l.length → f i = true) → Q .normal (F vals) w) : (Code.region id l.toArray true).wp P Q a w := by
  refine wp_region_any hm (wpAny_done (I := I) (a0 := a) hs ?_ ?_ _ (List.range l.length) _ (fun _ => undef) _ _ (by simp) (fun j hj _ => by simpa using hj) (by simp) ⟨h0 _ _ (fun j => none_listed _ j), rfl, rfl, fun _ _ => rfl, ?_⟩)
  · intro i o ho f vals w hf hr hi
    have := eachDoneV_at l 0 hop i o (by simpa using ho) f vals w (by simpa using hf) hr hi
    rw [hF] at this
    simpa using this
  · intro f vals w hi hf
    have := hfin f vals w hi (fun i h => hf i (by simpa using h))
    rw [hF] at this
    exact this
  · intro t j _ hl
    rw [none_listed] at hl
    cases hl

theorem doesUpon_mono {P : Program} {R S : Value → World → Prop} (h : ∀ v w, R v w → S v w) {r : Result Next} (k : doesUpon P R r) : doesUpon P S r := by
  cases r with
  | ok n w =>
    cases n <;> simp only [doesUpon] at k ⊢
    case value u => exact h _ _ k
    case skip => exact h _ _ k
    case enter f args => exact k.mono fun e w' ⟨v, he, q⟩ => ⟨v, he, h _ _ q⟩
    all_goals exact k
  | halt x w => simp only [doesUpon] at k
end Go.Proofs.Ytpkenhcglnognaa
