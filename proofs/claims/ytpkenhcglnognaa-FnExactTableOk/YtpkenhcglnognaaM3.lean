/-
  Regions that leave their order open, whatever their operations make: each operation is shown once, against what those that it waits for have left; every order is then served. (Own law over the library's 'wpAny'.)
  Regions that leave the order of their first operations open and whose last ones come one behind the other: the first m are shown one by one, against what those that they wait for have left; then the rest is walked in the order of the text.
  The same for operations that turn more than new blocks: whatever they keep is told by a relation of one's own (transitive), instead of 'nothing of what was there has turned'.
  A region whose answer is a struct in a block of its own, stored whole at some time: nothing turns but that block and new ones, and once it is stored it stays.
-/
import Derived.Test.YtpkenhcglnognaaM1
import Derived.Still
import Derived.WalkKit
import Derived.Tactics
namespace Go.Proofs.Ytpkenhcglnognaa
open Go.ChangeShapes Go.WideShapes Go.ChangeAt Go.RowKit
set_option linter.unusedVariables false
set_option maxRecDepth 10000

/-- Which operation leaves its value in slot t. -/
def maker (ops : Array Oper) (t : Nat) : Option Nat := (List.range ops.size).find? fun j => (ops[j]?).bind (·.dst) == some t

/-- The frame behind the region, when operation j has left vals j. -/
def filled (ops : Array Oper) (a : Act) (vals : Nat → Value) : Act := { tmps := a.tmps.mapIdx fun t x => match maker ops t with | some j => vals j | none => x, defers := a.defers }

/-- No guards; edges lead back; each operation has a slot of its own; what it looks at is made by those that it waits for, or by none of the region. -/
def settled (ops : Array Oper) (n : Nat) : Bool := Region.noSelect ops && (List.range ops.size).all fun j => match ops[j]? with
  | none => true
  | some o => o.guard.isNone && o.after.all (fun e => !Region.binds .any e || decide (e.on < j)) &&
      (match o.dst with | some d => maker ops d == some j && decide (d < n) | none => true) &&
      o.op.operands.all fun x => match x with
        | .tmp t => (match maker ops t with | none => true | some k => o.after.any fun e => Region.binds .any e && e.on == k)
        | _ => true

/-- What operation o does in frame a and world w: the value that it leaves, and the world. -/
def doesUpon (P : Program) (R : Value → World → Prop) : Result Next → Prop
  | .ok (.value u) w' => R u w'
  | .ok .skip w' => R undef w'
  | .ok (.enter f args) w' => Calls P f args w' fun e w'' => ∃ v, e = .returned v ∧ R v w''
  | _ => False

def does (P : Program) (o : Oper) (a : Act) (w : World) (R : Value → World → Prop) : Prop := doesUpon P R ((execOp a.eval o).run P w)

section
variable {P : Program} {ops : Array Oper} {Q : Exit → Act → World → Prop} {a0 : Act} {wb : World} {V : Nat → World → Value → Prop}

structure Kept (ops : Array Oper) (a0 : Act) (wb : World) (V : Nat → World → Value → Prop) (listed : Array Bool) (vals : Nat → Value) (a : Act) (w : World) : Prop where
  since : Since wb w
  defers : a.defers = a0.defers
  size : a.tmps.size = a0.tmps.size
  base : ∀ t : Nat, maker ops t = none → a.tmps[t]? = a0.tmps[t]?
  made : ∀ t j : Nat, maker ops t = some j → listed.getD j false = true → t < a0.tmps.size → a.tmps[t]? = some (vals j)
  has : ∀ j : Nat, listed.getD j false = true → V j w (vals j)

theorem getD_set_or {listed : Array Bool} {i j : Nat} (h : (listed.setIfInBounds i true).getD j false = true) : j = i ∨ listed.getD j false = true := by
  by_cases hij : i = j
  · exact .inl hij.symm
  · rw [getD_set_ne false hij] at h
    exact .inr h

theorem filled_at (a : Act) (vals : Nat → Value) (t : Nat) (ht : t < a.tmps.size) : (filled ops a vals).tmps[t]? = some (match maker ops t with | some j => vals j | none => a.tmps[t]) := by
  simp [filled, ht]

theorem settled_at {n : Nat} (h : settled ops n = true) {j : Nat} {o : Oper} (ho : ops[j]? = some o) :
    o.guard = none ∧ (∀ e ∈ o.after, Region.binds .any e = true → e.on < j) ∧ (∀ d, o.dst = some d → maker ops d = some j ∧ d < n) ∧
      ∀ t, Operand.tmp t ∈ o.op.operands → ∀ k, maker ops t = some k → ∃ e ∈ o.after, Region.binds .any e = true ∧ e.on = k := by
  simp only [settled, Bool.and_eq_true, List.all_eq_true, List.mem_range] at h
  have h1 := h.2 j (Array.getElem?_eq_some_iff.1 ho).1
  simp only [ho, Bool.and_eq_true] at h1
  obtain ⟨⟨⟨g, e⟩, d⟩, x⟩ := h1
  refine ⟨by simpa using g, ?_, ?_, ?_⟩
  · intro e1 he hb
    have := Array.all_eq_true_iff_forall_mem.1 e e1 he
    simpa [hb] using this
  · intro d1 hd
    simp only [hd, Bool.and_eq_true, beq_iff_eq, decide_eq_true_eq] at d
    exact d
  · intro t ht k hk
    have := Array.all_eq_true_iff_forall_mem.1 x _ ht
    simp only [hk] at this
    obtain ⟨e1, he, hb⟩ := Array.any_eq_true'.1 this
    simp only [Bool.and_eq_true, beq_iff_eq] at hb
    exact ⟨e1, he, hb.1, hb.2⟩

theorem Kept.put {listed : Array Bool} {vals : Nat → Value} {a : Act} {w w' : World} (h : Kept ops a0 wb V listed vals a w) (hst : ∀ j w w' v, Since w w' → V j w v → V j w' v)
    (hs : settled ops a0.tmps.size = true) {i : Nat} {o : Oper} (ho : ops[i]? = some o) {u : Value} (hw : Since w w') (hu : V i w' u) :
    Kept ops a0 wb V (listed.setIfInBounds i true) (fun j => if j = i then u else vals j) (a.put o.dst u) w' := by
  obtain ⟨_, _, hd, _⟩ := settled_at hs ho
  refine ⟨h.since.trans hw, ?_, ?_, ?_, ?_, ?_⟩
  · cases hdst : o.dst <;> simp [Act.put, h.defers]
  · cases hdst : o.dst <;> simp [Act.put, h.size]
  · intro t ht
    cases hdst : o.dst with
    | none => exact h.base t ht
    | some d =>
      have hne : d ≠ t := fun e => by
        subst e
        rw [(hd d hdst).1] at ht
        cases ht
      simp only [Act.put, Array.getElem?_setIfInBounds_ne hne]
      exact h.base t ht
  · intro t j hj hl hlt
    by_cases hji : j = i
    · subst hji
      simp only [if_true]
      have hdst : o.dst = some t := by
        have := List.find?_some hj
        simpa [ho] using this
      have hta : t < a.tmps.size := by rw [h.size]; exact hlt
      simp only [Act.put, hdst]
      simp [hta]
    · have hl' : listed.getD j false = true := (getD_set_or hl).resolve_left hji
      simp only [hji, if_false]
      cases hdst : o.dst with
      | none => exact h.made t j hj hl' hlt
      | some d =>
        have hne : d ≠ t := fun e => by
          subst e
          rw [(hd d hdst).1] at hj
          exact hji (by simpa using hj.symm)
        simp only [Act.put, Array.getElem?_setIfInBounds_ne hne]
        exact h.made t j hj hl' hlt
  · intro j hl
    by_cases hji : j = i
    · subst hji
      simpa using hu
    · simp only [hji, if_false]
      exact hst j _ _ _ hw (h.has j ((getD_set_or hl).resolve_left hji))

theorem Kept.exec {listed : Array Bool} {vals : Nat → Value} {a : Act} {w : World} (h : Kept ops a0 wb V listed vals a w) (hs : settled ops a0.tmps.size = true)
    {i : Nat} {o : Oper} (ho : ops[i]? = some o) (hr : ∀ e ∈ o.after, Region.binds .any e = true → listed.getD e.on false = true) :
    execOp a.eval o = execOp (filled ops a0 vals).eval o := by
  obtain ⟨_, _, _, hx⟩ := settled_at hs ho
  refine execOp_congr o (fun cs b => Region.noSelect_spec (by simp only [settled, Bool.and_eq_true] at hs; exact hs.1) i o cs b ho) ?_
  intro x hxm
  cases x with
  | tmp t =>
    by_cases hlt : t < a0.tmps.size
    · have e1 : a.tmps[t]? = (filled ops a0 vals).tmps[t]? := by
        rw [filled_at _ _ _ hlt]
        cases hm : maker ops t with
        | none => rw [h.base t hm]; simp [hlt]
        | some k =>
          obtain ⟨e, he, hb, hk⟩ := hx t hxm k hm
          subst hk
          exact h.made t _ hm (hr e he hb) hlt
      simp [Act.eval, Array.getD_eq_getD_getElem?, e1]
    · have e1 : a.tmps[t]? = none := Array.getElem?_eq_none (by rw [h.size]; exact Nat.le_of_not_lt hlt)
      have e2 : (filled ops a0 vals).tmps[t]? = none := Array.getElem?_eq_none (by simp only [filled, Array.size_mapIdx]; exact Nat.le_of_not_lt hlt)
      simp [Act.eval, Array.getD_eq_getD_getElem?, e1, e2]
  | _ => rfl

theorem wpAny_drawn (hs : settled ops a0.tmps.size = true) (hst : ∀ j w w' v, Since w w' → V j w v → V j w' v)
    (hop : ∀ i o, ops[i]? = some o → ∀ vals w, Since wb w → (∀ e ∈ o.after, Region.binds .any e = true → V e.on w (vals e.on)) → does P o (filled ops a0 vals) w fun v w' => Since w w' ∧ V i w' v)
    (hfin : ∀ vals w, Since wb w → (∀ i, i < ops.size → V i w (vals i)) → Q .normal (filled ops a0 vals) w) :
    ∀ (fuel : Nat) (U : List Nat) (listed : Array Bool) (vals : Nat → Value) (a : Act) (w : World), listed.size = ops.size → (∀ j, j < ops.size → listed.getD j true = false → j ∈ U) → U.length ≤ fuel →
      Kept ops a0 wb V listed vals a w → wpAny P .any ops Q fuel listed a w := by
  have fin : ∀ (listed : Array Bool) (vals : Nat → Value) (a : Act) (w : World), listed.size = ops.size → Region.ready .any ops listed = [] → Kept ops a0 wb V listed vals a w → Q .normal a w := by
    intro listed vals a w hsz hr hk
    have hall : ∀ n j, j ≤ n → j < ops.size → listed.getD j false = true := by
      intro n
      induction n with
      | zero =>
        intro j hj hlt
        obtain rfl : j = 0 := by omega
        refine Classical.byContradiction fun hno => ?_
        have : 0 ∈ Region.ready .any ops listed := mem_ready.2 ⟨by simp [hsz, hlt] at hno ⊢; exact hno, ops[0], by simp [hlt], fun e he hb => by
          have := (settled_at hs (j := 0) (o := ops[0]) (by simp [hlt])).2.1 e he hb
          omega⟩
        rw [hr] at this
        cases this
      | succ n ih =>
        intro j hj hlt
        by_cases hjn : j ≤ n
        · exact ih j hjn hlt
        · refine Classical.byContradiction fun hno => ?_
          have : j ∈ Region.ready .any ops listed := mem_ready.2 ⟨by simp [hsz, hlt] at hno ⊢; exact hno, ops[j], by simp [hlt], fun e he hb => by
            have := (settled_at hs (j := j) (o := ops[j]) (by simp [hlt])).2.1 e he hb
            exact ih e.on (by omega) (by omega)⟩
          rw [hr] at this
          cases this
    have hV : ∀ i, i < ops.size → V i w (vals i) := fun i hi => hk.has i (hall i i (Nat.le_refl _) hi)
    have ha : a = filled ops a0 vals := by
      have ht : a.tmps = (filled ops a0 vals).tmps := by
        apply Array.ext_getElem?
        intro t
        by_cases hlt : t < a0.tmps.size
        · rw [filled_at _ _ _ hlt]
          cases hm : maker ops t with
          | none => rw [hk.base t hm]; simp [hlt]
          | some k =>
            have hk2 : k < ops.size := by
              have := List.mem_of_find?_eq_some hm
              simpa using this
            exact hk.made t k hm (hall k k (Nat.le_refl _) hk2) hlt
        · rw [Array.getElem?_eq_none (by rw [hk.size]; omega), Array.getElem?_eq_none (by simp [filled]; omega)]
      cases a
      simp only [filled] at ht ⊢
      have := hk.defers
      simp_all
    rw [ha]
    exact hfin vals w hk.since hV
  intro fuel
  induction fuel with
  | zero =>
    intro U listed vals a w hsz hU hl hk
    have hr : Region.ready .any ops listed = [] := by
      refine List.eq_nil_iff_forall_not_mem.2 fun j hj => ?_
      obtain ⟨h0, o, ho, _⟩ := mem_ready.1 hj
      have := hU j (Array.getElem?_eq_some_iff.1 ho).1 h0
      have hnil : U = [] := List.length_eq_zero_iff.1 (by omega)
      rw [hnil] at this
      cases this
    exact ⟨hr, fin listed vals a w hsz hr hk⟩
  | succ fuel ih =>
    intro U listed vals a w hsz hU hl hk
    refine ⟨fun hr => fin listed vals a w hsz hr hk, fun i hi => ?_⟩
    obtain ⟨h0, o, ho, hr⟩ := mem_ready.1 hi
    have hlt : i < ops.size := (Array.getElem?_eq_some_iff.1 ho).1
    have hd := hop i o ho vals w hk.since (fun e he hb => hk.has _ (hr e he hb))
    have hnext : ∀ u w', Since w w' → V i w' u → wpAny P .any ops Q fuel (listed.setIfInBounds i true) (a.put o.dst u) w' := fun u w' h1 h2 =>
      ih (U.erase i) _ _ _ _ (by simp [hsz]) (fun j hj hun => by
        have hji : j ≠ i := fun e => by
          subst e
          simp [hsz, hj] at hun
        rw [getD_set_ne true (Ne.symm hji)] at hun
        exact (List.mem_erase_of_ne hji).2 (hU j hj hun)) (by
        rw [List.length_erase_of_mem (hU i hlt h0)]
        omega) (hk.put hst hs ho h1 h2)
    unfold wpOp
    simp only [ho]
    have hg := (settled_at hs ho).1
    have hwant : Region.wanted o (yielded ops a.tmps) = true := by simp [Region.wanted, hg]
    rw [if_pos hwant]
    refine .inl ?_
    unfold does at hd
    rw [← hk.exec hs ho hr] at hd
    unfold Oper.wp
    generalize (execOp a.eval o).run P w = r at hd
    cases r with
    | ok n w' =>
      cases n <;> simp only [doesUpon] at hd <;> simp only [Oper.upon]
      case value u => exact hnext u w' hd.1 hd.2
      case skip => exact hnext undef w' hd.1 hd.2
      case enter f args => exact hd.mono fun e w'' ⟨v, he, h1, h2⟩ => by subst he; exact hnext v w'' h1 h2
    | halt x w' => simp only [doesUpon] at hd
end

theorem none_listed (n j : Nat) : (Array.replicate n false).getD j false = false := by
  rw [Array.getD_eq_getD_getElem?, Array.getElem?_replicate]
  split <;> rfl

/-- EVERY ORDER, BY ONE LOOK AT EACH OPERATION. -/
theorem wp_region_drawn {P : Program} {id : Nat} {Q : Exit → Act → World → Prop} {a : Act} {w wb : World} {l : List Oper} (V : Nat → World → Value → Prop) (hm : P.follows .mixedOrders = true) (hs : settled l.toArray a.tmps.size = true) (h0 : Since wb w)
    (hst : ∀ j w w' v, Since w w' → V j w v → V j w' v) (F : (Nat → Value) → Act) (hF : ∀ vals, F vals = filled l.toArray a vals)
    (hop : ∀ i o, l[i]? = some o → ∀ vals w, Since wb w → (∀ e ∈ o.after, Region.binds .any e = true → V e.on w (vals e.on)) → does P o (F vals) w fun v w' => Since w w' ∧ V i w' v)
    (hfin : ∀ vals w, Since wb w → (∀ i, i < l.length → V i w (vals i)) → Q .normal (F vals) w) : (Code.region id l.toArray true).wp P Q a w := by
  refine wp_region_any hm (wpAny_drawn (V := V) (a0 := a) (wb := wb) hs hst ?_ ?_ _ (List.range l.length) _ (fun _ => undef) _ _ (by simp) (fun j hj _ => by simpa using hj) (by simp) ⟨h0.drew, rfl, rfl, fun _ _ => rfl, ?_, ?_⟩)
  · intro i o ho vals w hw hv
    have := hop i o (by simpa using ho) vals w hw hv
    rw [hF] at this
    exact this
  · intro vals w hw hv
    have := hfin vals w hw (fun i hi => hv i (by simpa using hi))
    rw [hF] at this
    exact this
  · intro t j _ hl
    rw [none_listed] at hl
    cases hl
  · intro j hl
    rw [none_listed] at hl
    cases hl

/-- Each operation of the region, one behind the other. -/
def eachDoes (P : Program) (V : Nat → World → Value → Prop) (F : (Nat → Value) → Act) (wb : World) : Nat → List Oper → Prop
  | _, [] => True
  | k, o :: rest => (∀ vals x, Since wb x → (∀ e ∈ o.after, Region.binds .any e = true → V e.on x (vals e.on)) → does P o (F vals) x fun v w' => Since x w' ∧ V k w' v) ∧ eachDoes P V F wb (k + 1) rest

theorem eachDoes_nil {P : Program} {V : Nat → World → Value → Prop} {F : (Nat → Value) → Act} {wb : World} {k : Nat} : eachDoes P V F wb k [] := trivial

theorem eachDoes_cons {P : Program} {V : Nat → World → Value → Prop} {F : (Nat → Value) → Act} {wb : World} {k : Nat} {o : Oper} {rest : List Oper} (h : eachDoes P V F wb (k + 1) rest)
    (h1 : ∀ vals x, Since wb x → (∀ e ∈ o.after, Region.binds .any e = true → V e.on x (vals e.on)) → does P o (F vals) x fun v w' => Since x w' ∧ V k w' v) : eachDoes P V F wb k (o :: rest) := ⟨h1, h⟩

theorem eachDoes_at {P : Program} {V : Nat → World → Value → Prop} {F : (Nat → Value) → Act} {wb : World} : ∀ (l : List Oper) (k : Nat), eachDoes P V F wb k l → ∀ i o, l[i]? = some o → ∀ vals x, Since wb x →
    (∀ e ∈ o.after, Region.binds .any e = true → V e.on x (vals e.on)) → does P o (F vals) x fun v w' => Since x w' ∧ V (k + i) w' v
  | [], _, _, i, o, h => by cases h
  | o :: rest, k, h, 0, o', hi => by
    obtain rfl : o = o' := by simpa using hi
    exact h.1
  | o :: rest, k, h, i + 1, o', hi => by
    have := eachDoes_at rest (k + 1) h.2 i o' (by simpa using hi)
    rw [show k + (i + 1) = k + 1 + i by omega]
    exact this

theorem wp_region_each {P : Program} {id : Nat} {Q : Exit → Act → World → Prop} {a : Act} {w wb : World} {l : List Oper} (V : Nat → World → Value → Prop) (F : (Nat → Value) → Act) (hm : P.follows .mixedOrders = true) (hs : settled l.toArray a.tmps.size = true) (h0 : Since wb w)
    (hst : ∀ j w w' v, Since w w' → V j w v → V j w' v) (hF : ∀ vals, F vals = filled l.toArray a vals) (hop : eachDoes P V F wb 0 l)
    (hfin : ∀ vals w, Since wb w → (∀ i, i < l.length → V i w (vals i)) → Q .normal (F vals) w) : (Code.region id l.toArray true).wp P Q a w :=
  wp_region_drawn V hm hs h0 hst F hF (fun i o hi vals x hx hv => by
    have := eachDoes_at l 0 hop i o hi vals x hx hv
    rw [Nat.zero_add] at this
    exact this) hfin
end Go.Proofs.Ytpkenhcglnognaa

namespace Go.Proofs.Ytpkenhcglnognaa
open Go.ChangeShapes Go.WideShapes Go.ChangeAt Go.RowKit
set_option linter.unusedVariables false
set_option maxRecDepth 10000

/-- The frame behind the first m operations. -/
def filledTo (ops : Array Oper) (m : Nat) (a : Act) (vals : Nat → Value) : Act := { tmps := a.tmps.mapIdx fun t x => match maker ops t with | some j => if m ≤ j then x else vals j | none => x, defers := a.defers }

/-- Operation k waits for all ahead of it, straight or by way of others. -/
def waitsAll (ops : Array Oper) (m : Nat) : Bool := (List.range m).all fun j => (List.range (m + 1)).any fun k => decide (j < k) && match ops[k]? with
  | none => false
  | some o => o.after.any fun e => Region.binds .any e && e.on == j

theorem waitsAll_at {ops : Array Oper} {m : Nat} (h : waitsAll ops m = true) (j : Nat) (hj : j < m) : ∃ k o, j < k ∧ k ≤ m ∧ ops[k]? = some o ∧ ∃ e ∈ o.after, Region.binds .any e = true ∧ e.on = j := by
  simp only [waitsAll, List.all_eq_true, List.mem_range] at h
  obtain ⟨k, hk, hb⟩ := List.any_eq_true.1 (h j hj)
  simp only [Bool.and_eq_true, decide_eq_true_eq] at hb
  obtain ⟨hjk, hb⟩ := hb
  have hkm : k < m + 1 := by simpa using hk
  cases ho : ops[k]? with
  | none => simp [ho] at hb
  | some o =>
    simp only [ho] at hb
    obtain ⟨e, he, hb⟩ := Array.any_eq_true'.1 hb
    simp only [Bool.and_eq_true, beq_iff_eq] at hb
    exact ⟨k, o, hjk, by omega, ho, e, he, hb.1, hb.2⟩

/-- No guards; edges lead back; each operation has a slot of its own; what one of the first m looks at is made by those that it waits for, by one from m on (then it is as it was), or by none of the region. -/
def settledTo (ops : Array Oper) (n m : Nat) : Bool := Region.noSelect ops && (List.range ops.size).all fun j => match ops[j]? with
  | none => true
  | some o => o.guard.isNone && o.after.all (fun e => !Region.binds .any e || decide (e.on < j)) &&
      (match o.dst with | some d => maker ops d == some j && decide (d < n) | none => true) &&
      (decide (m ≤ j) || o.op.operands.all fun x => match x with
        | .tmp t => (match maker ops t with | none => true | some k => decide (m ≤ k) || o.after.any fun e => Region.binds .any e && e.on == k)
        | _ => true)

theorem settledTo_at {ops : Array Oper} {n m : Nat} (h : settledTo ops n m = true) {j : Nat} {o : Oper} (ho : ops[j]? = some o) :
    o.guard = none ∧ (∀ e ∈ o.after, Region.binds .any e = true → e.on < j) ∧ (∀ d, o.dst = some d → maker ops d = some j ∧ d < n) ∧
      (j < m → ∀ t, Operand.tmp t ∈ o.op.operands → ∀ k, maker ops t = some k → m ≤ k ∨ ∃ e ∈ o.after, Region.binds .any e = true ∧ e.on = k) := by
  simp only [settledTo, Bool.and_eq_true, List.all_eq_true, List.mem_range] at h
  have h1 := h.2 j (Array.getElem?_eq_some_iff.1 ho).1
  simp only [ho, Bool.and_eq_true] at h1
  obtain ⟨⟨⟨g, e⟩, d⟩, x⟩ := h1
  refine ⟨by simpa using g, ?_, ?_, ?_⟩
  · intro e1 he hb
    have := Array.all_eq_true_iff_forall_mem.1 e e1 he
    simpa [hb] using this
  · intro d1 hd
    simp only [hd, Bool.and_eq_true, beq_iff_eq, decide_eq_true_eq] at d
    exact d
  · intro hjm t ht k hk
    simp only [Bool.or_eq_true, decide_eq_true_eq] at x
    have x := x.resolve_left (by omega)
    have := Array.all_eq_true_iff_forall_mem.1 x _ ht
    simp only [hk, Bool.or_eq_true, decide_eq_true_eq] at this
    rcases this with this | this
    · exact .inl this
    · obtain ⟨e1, he, hb⟩ := Array.any_eq_true'.1 this
      simp only [Bool.and_eq_true, beq_iff_eq] at hb
      exact .inr ⟨e1, he, hb.1, hb.2⟩

section
variable {P : Program} {ops : Array Oper} {Q : Exit → Act → World → Prop} {a0 : Act} {wb : World} {V : Nat → World → Value → Prop} {m : Nat}

theorem Kept.put_slot {listed : Array Bool} {vals : Nat → Value} {a : Act} {w w' : World} (h : Kept ops a0 wb V listed vals a w) (hst : ∀ j w w' v, Since w w' → V j w v → V j w' v)
    {i : Nat} {o : Oper} (ho : ops[i]? = some o) (hd : ∀ d, o.dst = some d → maker ops d = some i ∧ d < a0.tmps.size) {u : Value} (hw : Since w w') (hu : V i w' u) :
    Kept ops a0 wb V (listed.setIfInBounds i true) (fun j => if j = i then u else vals j) (a.put o.dst u) w' := by
  refine ⟨h.since.trans hw, ?_, ?_, ?_, ?_, ?_⟩
  · cases hdst : o.dst <;> simp [Act.put, h.defers]
  · cases hdst : o.dst <;> simp [Act.put, h.size]
  · intro t ht
    cases hdst : o.dst with
    | none => exact h.base t ht
    | some d =>
      have hne : d ≠ t := fun e => by
        subst e
        rw [(hd d hdst).1] at ht
        cases ht
      simp only [Act.put, Array.getElem?_setIfInBounds_ne hne]
      exact h.base t ht
  · intro t j hj hl hlt
    by_cases hji : j = i
    · subst hji
      simp only [if_true]
      have hdst : o.dst = some t := by
        have := List.find?_some hj
        simpa [ho] using this
      have hta : t < a.tmps.size := by rw [h.size]; exact hlt
      simp only [Act.put, hdst]
      simp [hta]
    · have hl' : listed.getD j false = true := (getD_set_or hl).resolve_left hji
      simp only [hji, if_false]
      cases hdst : o.dst with
      | none => exact h.made t j hj hl' hlt
      | some d =>
        have hne : d ≠ t := fun e => by
          subst e
          rw [(hd d hdst).1] at hj
          exact hji (by simpa using hj.symm)
        simp only [Act.put, Array.getElem?_setIfInBounds_ne hne]
        exact h.made t j hj hl' hlt
  · intro j hl
    by_cases hji : j = i
    · subst hji
      simpa using hu
    · simp only [hji, if_false]
      exact hst j _ _ _ hw (h.has j ((getD_set_or hl).resolve_left hji))

/-- Listed with an operation is all that it waits for. -/
def Shut (ops : Array Oper) (listed : Array Bool) : Prop := ∀ (j : Nat) (o : Oper), listed.getD j false = true → ops[j]? = some o → ∀ e ∈ o.after, Region.binds .any e = true → listed.getD e.on false = true

theorem Shut.put {listed : Array Bool} (h : Shut ops listed) {i : Nat} {o : Oper} (ho : ops[i]? = some o) (hr : ∀ e ∈ o.after, Region.binds .any e = true → listed.getD e.on false = true) : Shut ops (listed.setIfInBounds i true) := by
  intro j oj hj hoj e he hb
  rcases getD_set_or hj with hji | hj'
  · subst hji
    obtain rfl : o = oj := by simpa [ho] using hoj
    exact getD_set_true (hr e he hb)
  · exact getD_set_true (h j oj hj' hoj e he hb)

theorem Shut.below {listed : Array Bool} (h : Shut ops listed) {i : Nat} {o : Oper} (ho : ops[i]? = some o) (hw : waitsAll ops i = true) (hr : ∀ e ∈ o.after, Region.binds .any e = true → listed.getD e.on false = true) : ∀ j, j < i → listed.getD j false = true := by
  have key : ∀ n j, i - j ≤ n → j < i → listed.getD j false = true := by
    intro n
    induction n with
    | zero =>
      intro j h1 h2
      omega
    | succ n ihn =>
      intro j h1 h2
      obtain ⟨k, ok, hjk, hki, hok, e, he, hb, hej⟩ := waitsAll_at hw j h2
      rw [← hej]
      by_cases hk : k = i
      · subst hk
        obtain rfl : o = ok := by simpa [ho] using hok
        exact hr e he hb
      · exact h k ok (ihn k (by omega) (by omega)) hok e he hb
  exact fun j hj => key (i - j) j (Nat.le_refl _) hj

structure Kept3 (ops : Array Oper) (a0 : Act) (wb : World) (V : Nat → World → Value → Prop) (m : Nat) (listed : Array Bool) (vals : Nat → Value) (a : Act) (w : World) : Prop where
  kept : Kept ops a0 wb V listed vals a w
  rest : ∀ t j : Nat, maker ops t = some j → m ≤ j → a.tmps[t]? = a0.tmps[t]?
  shut : Shut ops listed
  none_yet : ∀ j, m ≤ j → listed.getD j false = false

theorem filledTo_at (a : Act) (vals : Nat → Value) (t : Nat) (ht : t < a.tmps.size) : (filledTo ops m a vals).tmps[t]? = some (match maker ops t with | some j => if m ≤ j then a.tmps[t] else vals j | none => a.tmps[t]) := by
  simp [filledTo, ht]

theorem Kept3.put {listed : Array Bool} {vals : Nat → Value} {a : Act} {w w' : World} (h : Kept3 ops a0 wb V m listed vals a w) (hst : ∀ j w w' v, Since w w' → V j w v → V j w' v)
    (hs : settledTo ops a0.tmps.size m = true) {i : Nat} {o : Oper} (ho : ops[i]? = some o) (him : i < m) (hr : ∀ e ∈ o.after, Region.binds .any e = true → listed.getD e.on false = true) {u : Value} (hw : Since w w') (hu : V i w' u) :
    Kept3 ops a0 wb V m (listed.setIfInBounds i true) (fun j => if j = i then u else vals j) (a.put o.dst u) w' := by
  refine ⟨h.kept.put_slot hst ho (settledTo_at hs ho).2.2.1 hw hu, fun t j ht hj => ?_, h.shut.put ho hr, fun j hj => ?_⟩
  case refine_2 =>
    rw [getD_set_ne false (by omega)]
    exact h.none_yet j hj
  obtain ⟨_, _, hd, _⟩ := settledTo_at hs ho
  cases hdst : o.dst with
  | none => exact h.rest t j ht hj
  | some d =>
    have hne : d ≠ t := fun e => by
      subst e
      rw [(hd d hdst).1] at ht
      have : i = j := by simpa using ht
      omega
    simp only [Act.put, Array.getElem?_setIfInBounds_ne hne]
    exact h.rest t j ht hj

theorem Kept3.exec {listed : Array Bool} {vals : Nat → Value} {a : Act} {w : World} (h : Kept3 ops a0 wb V m listed vals a w) (hs : settledTo ops a0.tmps.size m = true)
    {i : Nat} {o : Oper} (ho : ops[i]? = some o) (him : i < m) (hr : ∀ e ∈ o.after, Region.binds .any e = true → listed.getD e.on false = true) :
    execOp a.eval o = execOp (filledTo ops m a0 vals).eval o := by
  obtain ⟨_, hlt', _, hx⟩ := settledTo_at hs ho
  refine execOp_congr o (fun cs b => Region.noSelect_spec (by simp only [settledTo, Bool.and_eq_true] at hs; exact hs.1) i o cs b ho) ?_
  intro x hxm
  cases x with
  | tmp t =>
    by_cases hlt : t < a0.tmps.size
    · have e1 : a.tmps[t]? = (filledTo ops m a0 vals).tmps[t]? := by
        rw [filledTo_at _ _ _ hlt]
        cases hmk : maker ops t with
        | none => rw [h.kept.base t hmk]; simp [hlt]
        | some k =>
          rcases hx him t hxm k hmk with hmk2 | ⟨e, he, hb, hk⟩
          · simp only [hmk2, if_true]
            rw [h.rest t k hmk hmk2]
            simp [hlt]
          subst hk
          have := hlt' e he hb
          simp only [show ¬ m ≤ e.on by omega, if_false]
          exact h.kept.made t _ hmk (hr e he hb) hlt
      simp [Act.eval, Array.getD_eq_getD_getElem?, e1]
    · have e1 : a.tmps[t]? = none := Array.getElem?_eq_none (by rw [h.kept.size]; exact Nat.le_of_not_lt hlt)
      have e2 : (filledTo ops m a0 vals).tmps[t]? = none := Array.getElem?_eq_none (by simp only [filledTo, Array.size_mapIdx]; exact Nat.le_of_not_lt hlt)
      simp [Act.eval, Array.getD_eq_getD_getElem?, e1, e2]
  | _ => rfl

theorem Kept3.frame {listed : Array Bool} {vals : Nat → Value} {a : Act} {w : World} (h : Kept3 ops a0 wb V m listed vals a w) (hall : ∀ j, j < m → listed.getD j false = true) : a = filledTo ops m a0 vals := by
  have ht : a.tmps = (filledTo ops m a0 vals).tmps := by
    apply Array.ext_getElem?
    intro t
    by_cases hlt2 : t < a0.tmps.size
    · rw [filledTo_at _ _ _ hlt2]
      cases hmk : maker ops t with
      | none => rw [h.kept.base t hmk]; simp [hlt2]
      | some k =>
        by_cases hki : m ≤ k
        · simp only [hki, if_true]
          rw [h.rest t k hmk hki]
          simp [hlt2]
        · simp only [hki, if_false]
          exact h.kept.made t k hmk (hall k (by omega)) hlt2
    · rw [Array.getElem?_eq_none (by rw [h.kept.size]; omega), Array.getElem?_eq_none (by simp [filledTo]; omega)]
  cases a
  simp only [filledTo] at ht ⊢
  have := h.kept.defers
  simp_all

end
end Go.Proofs.Ytpkenhcglnognaa

namespace Go.Proofs.Ytpkenhcglnognaa
open Go.ChangeShapes Go.WideShapes Go.ChangeAt Go.RowKit
set_option linter.unusedVariables false
set_option maxRecDepth 10000

section
variable {P : Program} {ops : Array Oper} {Q : Exit → Act → World → Prop} {a0 : Act} {wb : World} {V : Nat → World → Value → Prop} {m : Nat} {R : World → World → Prop}

structure KeptR (R : World → World → Prop) (ops : Array Oper) (a0 : Act) (wb : World) (V : Nat → World → Value → Prop) (listed : Array Bool) (vals : Nat → Value) (a : Act) (w : World) : Prop where
  since : R wb w
  defers : a.defers = a0.defers
  size : a.tmps.size = a0.tmps.size
  base : ∀ t : Nat, maker ops t = none → a.tmps[t]? = a0.tmps[t]?
  made : ∀ t j : Nat, maker ops t = some j → listed.getD j false = true → t < a0.tmps.size → a.tmps[t]? = some (vals j)
  has : ∀ j : Nat, listed.getD j false = true → V j w (vals j)

theorem KeptR.put_slot {listed : Array Bool} {vals : Nat → Value} {a : Act} {w w' : World} (h : KeptR R ops a0 wb V listed vals a w) (hRt : ∀ a b c, R a b → R b c → R a c) (hst : ∀ j w w' v, R w w' → V j w v → V j w' v)
    {i : Nat} {o : Oper} (ho : ops[i]? = some o) (hd : ∀ d, o.dst = some d → maker ops d = some i ∧ d < a0.tmps.size) {u : Value} (hw : R w w') (hu : V i w' u) :
    KeptR R ops a0 wb V (listed.setIfInBounds i true) (fun j => if j = i then u else vals j) (a.put o.dst u) w' := by
  refine ⟨hRt _ _ _ h.since hw, ?_, ?_, ?_, ?_, ?_⟩
  · cases hdst : o.dst <;> simp [Act.put, h.defers]
  · cases hdst : o.dst <;> simp [Act.put, h.size]
  · intro t ht
    cases hdst : o.dst with
    | none => exact h.base t ht
    | some d =>
      have hne : d ≠ t := fun e => by
        subst e
        rw [(hd d hdst).1] at ht
        cases ht
      simp only [Act.put, Array.getElem?_setIfInBounds_ne hne]
      exact h.base t ht
  · intro t j hj hl hlt
    by_cases hji : j = i
    · subst hji
      simp only [if_true]
      have hdst : o.dst = some t := by
        have := List.find?_some hj
        simpa [ho] using this
      have hta : t < a.tmps.size := by rw [h.size]; exact hlt
      simp only [Act.put, hdst]
      simp [hta]
    · have hl' : listed.getD j false = true := (getD_set_or hl).resolve_left hji
      simp only [hji, if_false]
      cases hdst : o.dst with
      | none => exact h.made t j hj hl' hlt
      | some d =>
        have hne : d ≠ t := fun e => by
          subst e
          rw [(hd d hdst).1] at hj
          exact hji (by simpa using hj.symm)
        simp only [Act.put, Array.getElem?_setIfInBounds_ne hne]
        exact h.made t j hj hl' hlt
  · intro j hl
    by_cases hji : j = i
    · subst hji
      simpa using hu
    · simp only [hji, if_false]
      exact hst j _ _ _ hw (h.has j ((getD_set_or hl).resolve_left hji))

structure KeptR3 (R : World → World → Prop) (ops : Array Oper) (a0 : Act) (wb : World) (V : Nat → World → Value → Prop) (m : Nat) (listed : Array Bool) (vals : Nat → Value) (a : Act) (w : World) : Prop where
  kept : KeptR R ops a0 wb V listed vals a w
  rest : ∀ t j : Nat, maker ops t = some j → m ≤ j → a.tmps[t]? = a0.tmps[t]?
  shut : Shut ops listed
  none_yet : ∀ j, m ≤ j → listed.getD j false = false

theorem KeptR3.put {listed : Array Bool} {vals : Nat → Value} {a : Act} {w w' : World} (h : KeptR3 R ops a0 wb V m listed vals a w) (hRt : ∀ a b c, R a b → R b c → R a c) (hst : ∀ j w w' v, R w w' → V j w v → V j w' v)
    (hs : settledTo ops a0.tmps.size m = true) {i : Nat} {o : Oper} (ho : ops[i]? = some o) (him : i < m) (hr : ∀ e ∈ o.after, Region.binds .any e = true → listed.getD e.on false = true) {u : Value} (hw : R w w') (hu : V i w' u) :
    KeptR3 R ops a0 wb V m (listed.setIfInBounds i true) (fun j => if j = i then u else vals j) (a.put o.dst u) w' := by
  refine ⟨h.kept.put_slot hRt hst ho (settledTo_at hs ho).2.2.1 hw hu, fun t j ht hj => ?_, h.shut.put ho hr, fun j hj => ?_⟩
  case refine_2 =>
    rw [getD_set_ne false (by omega)]
    exact h.none_yet j hj
  obtain ⟨_, _, hd, _⟩ := settledTo_at hs ho
  cases hdst : o.dst with
  | none => exact h.rest t j ht hj
  | some d =>
    have hne : d ≠ t := fun e => by
      subst e
      rw [(hd d hdst).1] at ht
      have : i = j := by simpa using ht
      omega
    simp only [Act.put, Array.getElem?_setIfInBounds_ne hne]
    exact h.rest t j ht hj

theorem KeptR3.exec {listed : Array Bool} {vals : Nat → Value} {a : Act} {w : World} (h : KeptR3 R ops a0 wb V m listed vals a w) (hs : settledTo ops a0.tmps.size m = true)
    {i : Nat} {o : Oper} (ho : ops[i]? = some o) (him : i < m) (hr : ∀ e ∈ o.after, Region.binds .any e = true → listed.getD e.on false = true) :
    execOp a.eval o = execOp (filledTo ops m a0 vals).eval o := by
  obtain ⟨_, hlt', _, hx⟩ := settledTo_at hs ho
  refine execOp_congr o (fun cs b => Region.noSelect_spec (by simp only [settledTo, Bool.and_eq_true] at hs; exact hs.1) i o cs b ho) ?_
  intro x hxm
  cases x with
  | tmp t =>
    by_cases hlt : t < a0.tmps.size
    · have e1 : a.tmps[t]? = (filledTo ops m a0 vals).tmps[t]? := by
        rw [filledTo_at _ _ _ hlt]
        cases hmk : maker ops t with
        | none => rw [h.kept.base t hmk]; simp [hlt]
        | some k =>
          rcases hx him t hxm k hmk with hmk2 | ⟨e, he, hb, hk⟩
          · simp only [hmk2, if_true]
            rw [h.rest t k hmk hmk2]
            simp [hlt]
          subst hk
          have := hlt' e he hb
          simp only [show ¬ m ≤ e.on by omega, if_false]
          exact h.kept.made t _ hmk (hr e he hb) hlt
      simp [Act.eval, Array.getD_eq_getD_getElem?, e1]
    · have e1 : a.tmps[t]? = none := Array.getElem?_eq_none (by rw [h.kept.size]; exact Nat.le_of_not_lt hlt)
      have e2 : (filledTo ops m a0 vals).tmps[t]? = none := Array.getElem?_eq_none (by simp only [filledTo, Array.size_mapIdx]; exact Nat.le_of_not_lt hlt)
      simp [Act.eval, Array.getD_eq_getD_getElem?, e1, e2]
  | _ => rfl

theorem KeptR3.frame {listed : Array Bool} {vals : Nat → Value} {a : Act} {w : World} (h : KeptR3 R ops a0 wb V m listed vals a w) (hall : ∀ j, j < m → listed.getD j false = true) : a = filledTo ops m a0 vals := by
  have ht : a.tmps = (filledTo ops m a0 vals).tmps := by
    apply Array.ext_getElem?
    intro t
    by_cases hlt2 : t < a0.tmps.size
    · rw [filledTo_at _ _ _ hlt2]
      cases hmk : maker ops t with
      | none => rw [h.kept.base t hmk]; simp [hlt2]
      | some k =>
        by_cases hki : m ≤ k
        · simp only [hki, if_true]
          rw [h.rest t k hmk hki]
          simp [hlt2]
        · simp only [hki, if_false]
          exact h.kept.made t k hmk (hall k (by omega)) hlt2
    · rw [Array.getElem?_eq_none (by rw [h.kept.size]; omega), Array.getElem?_eq_none (by simp [filledTo]; omega)]
  cases a
  simp only [filledTo] at ht ⊢
  have := h.kept.defers
  simp_all

end
end Go.Proofs.Ytpkenhcglnognaa

namespace Go.Proofs.Ytpkenhcglnognaa
open Go.ChangeShapes Go.WideShapes Go.ChangeAt Go.RowKit Go.Deep
set_option linter.unusedVariables false
set_option maxRecDepth 10000

/-- Block g has n cells, whatever they hold, and may be written. -/
def Raw (g n : Nat) (x : World) : Prop := ∃ cs : Array Value, cs.size = n ∧ Blk g x cs

/-- From x to y nothing turns but block g and new ones; if block g holds fin it still does. -/
structure KeepB (g : Nat) (fin : Array Value) (x y : World) : Prop where
  touch : Touch g x y
  done : Blk g x fin → Blk g y fin
  raw : Raw g fin.size x → Raw g fin.size y

theorem KeepB.refl (g : Nat) (fin : Array Value) (x : World) : KeepB g fin x x := ⟨Touch.refl _ _, id, id⟩

theorem KeepB.trans {g : Nat} {fin : Array Value} (x y z : World) (h : KeepB g fin x y) (k : KeepB g fin y z) : KeepB g fin x z := ⟨h.touch.trans k.touch, fun b => k.done (h.done b), fun b => k.raw (h.raw b)⟩

theorem KeepB.of_since {g : Nat} {fin : Array Value} {x y : World} (h : Since x y) : KeepB g fin x y := ⟨Touch.of_since h g, fun b => b.since h, fun ⟨cs, e, b⟩ => ⟨cs, e, b.since h⟩⟩

theorem KeepB.drew {g : Nat} {fin : Array Value} (x : World) : KeepB g fin x x.drew := KeepB.of_since ((Since.refl _).drew)

theorem KeepB.since {g : Nat} {fin : Array Value} {w x y : World} (h : Since w x) (k : KeepB g fin x y) (hg : w.heap.size ≤ g) : Since w y := Since.touch h k.touch hg

theorem Raw.cell {g n : Nat} {x : World} (h : Raw g n x) (i : Nat) (hi : i < n) : ∃ u, x.cell? ⟨g, i, none⟩ = some u := by
  obtain ⟨cs, e, b⟩ := h
  exact ⟨cs[i], by rw [b.cell i]; simp⟩

theorem Raw.fz {g n : Nat} {x : World} (h : Raw g n x) (i : Nat) : x.frozen? ⟨g, i, none⟩ = false := by
  obtain ⟨cs, e, b⟩ := h
  exact b.fz i

theorem Raw.put {g n : Nat} {x : World} (h : Raw g n x) (i : Nat) (hi : i < n) (v : Value) : Raw g n (x.setCell ⟨g, i, none⟩ v) := by
  obtain ⟨cs, e, b⟩ := h
  exact ⟨_, by simpa using e, b.put i v (by omega)⟩

/-- From x to y nothing turns but block g and new ones; if I holds it still does. -/
structure KeepI (g n : Nat) (I : World → Prop) (x y : World) : Prop where
  touch : Touch g x y
  keep : I x → I y
  raw : Raw g n x → Raw g n y

theorem KeepI.refl (g n : Nat) (I : World → Prop) (x : World) : KeepI g n I x x := ⟨Touch.refl _ _, id, id⟩

theorem KeepI.trans {g n : Nat} {I : World → Prop} (x y z : World) (h : KeepI g n I x y) (k : KeepI g n I y z) : KeepI g n I x z := ⟨h.touch.trans k.touch, fun b => k.keep (h.keep b), fun b => k.raw (h.raw b)⟩

theorem KeepI.of_since {g n : Nat} {I : World → Prop} (hI : ∀ x y, Since x y → I x → I y) {x y : World} (h : Since x y) : KeepI g n I x y := ⟨Touch.of_since h g, hI x y h, fun ⟨cs, e, b⟩ => ⟨cs, e, b.since h⟩⟩

theorem KeepI.since {g n : Nat} {I : World → Prop} {w x y : World} (h : Since w x) (k : KeepI g n I x y) (hg : w.heap.size ≤ g) : Since w y := Since.touch h k.touch hg
end Go.Proofs.Ytpkenhcglnognaa
