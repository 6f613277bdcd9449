/-
  Regions that leave their order open, whatever their operations make: each operation is shown once, against what those that it waits for have left; every order is then served. (Own law over the library's 'wpAny'.)
-/
import Derived.Test.YtomnjegldbopiaaPkt
import Derived.Still
import Derived.WalkKit
namespace Go.Proofs.Ytomnjegldbopiaa
open Go.ChangeShapes Go.WideShapes Go.ChangeAt Go.RowKit
set_option linter.unusedVariables false
set_option maxRecDepth 10000

/-- Which operation leaves its value in slot t. -/
def maker (ops : Array Oper) (t : Nat) : Option Nat := (List.range ops.size).find? fun j => (ops[j]?).bind (·.dst) == some t

/-- The frame behind the region, when operation j has left vals j. -/
def filled (ops : Array Oper) (a : Act) (vals : Nat → Value) : Act := { tmps := a.tmps.mapIdx fun t x => match maker ops t with | some j => vals j | none => x, defers := a.defers }

/-- No guards; edges lead back; each operation has a slot of its own; what it looks at is made by those that it waits for, or by none of the region. -/
def settled (ops : Array Oper) (n : Nat) : Bool := Region.noSelect ops && (List.range ops.size).all fun j => match ops[j]? with
  | none => true
  | some o => o.guard.isNone && o.after.all (fun e => !Region.binds .any e || decide (e.on < j)) &&
      (match o.dst with | some d => maker ops d == some j && decide (d < n) | none => true) &&
      o.op.operands.all fun x => match x with
        | .tmp t => (match maker ops t with | none => true | some k => o.after.any fun e => Region.binds .any e && e.on == k)
        | _ => true

/-- What operation o does in frame a and world w: the value that it leaves, and the world. -/
def doesUpon (P : Program) (R : Value → World → Prop) : Result Next → Prop
  | .ok (.value u) w' => R u w'
  | .ok .skip w' => R undef w'
  | .ok (.enter f args) w' => Calls P f args w' fun e w'' => ∃ v, e = .returned v ∧ R v w''
  | _ => False

def does (P : Program) (o : Oper) (a : Act) (w : World) (R : Value → World → Prop) : Prop := doesUpon P R ((execOp a.eval o).run P w)

section
variable {P : Program} {ops : Array Oper} {Q : Exit → Act → World → Prop} {a0 : Act} {wb : World} {V : Nat → World → Value → Prop}

structure Kept (ops : Array Oper) (a0 : Act) (wb : World) (V : Nat → World → Value → Prop) (listed : Array Bool) (vals : Nat → Value) (a : Act) (w : World) : Prop where
  since : Since wb w
  defers : a.defers = a0.defers
  size : a.tmps.size = a0.tmps.size
  base : ∀ t : Nat, maker ops t = none → a.tmps[t]? = a0.tmps[t]?
  made : ∀ t j : Nat, maker ops t = some j → listed.getD j false = true → t < a0.tmps.size → a.tmps[t]? = some (vals j)
  has : ∀ j : Nat, listed.getD j false = true → V j w (vals j)

theorem getD_set_or {listed : Array Bool} {i j : Nat} (h : (listed.setIfInBounds i true).getD j false = true) : j = i ∨ listed.getD j false = true := by
  by_cases hij : i = j
  · exact .inl hij.symm
  · rw [getD_set_ne false hij] at h
    exact .inr h

theorem filled_at (a : Act) (vals : Nat → Value) (t : Nat) (ht : t < a.tmps.size) : (filled ops a vals).tmps[t]? = some (match maker ops t with | some j => vals j | none => a.tmps[t]) := by
  simp [filled, ht]

theorem settled_at {n : Nat} (h : settled ops n = true) {j : Nat} {o : Oper} (ho : ops[j]? = some o) :
    o.guard = none ∧ (∀ e ∈ o.after, Region.binds .any e = true → e.on < j) ∧ (∀ d, o.dst = some d → maker ops d = some j ∧ d < n) ∧
      ∀ t, Operand.tmp t ∈ o.op.operands → ∀ k, maker ops t = some k → ∃ e ∈ o.after, Region.binds .any e = true ∧ e.on = k := by
  simp only [settled, Bool.and_eq_true, List.all_eq_true, List.mem_range] at h
  have h1 := h.2 j (Array.getElem?_eq_some_iff.1 ho).1
  simp only [ho, Bool.and_eq_true] at h1
  obtain ⟨⟨⟨g, e⟩, d⟩, x⟩ := h1
  refine ⟨by simpa using g, ?_, ?_, ?_⟩
  · intro e1 he hb
    have := Array.all_eq_true_iff_forall_mem.1 e e1 he
    simpa [hb] using this
  · intro d1 hd
    simp only [hd, Bool.and_eq_true, beq_iff_eq, decide_eq_true_eq] at d
    exact d
  · intro t ht k hk
    have := Array.all_eq_true_iff_forall_mem.1 x _ ht
    simp only [hk] at this
    obtain ⟨e1, he, hb⟩ := Array.any_eq_true'.1 this
    simp only [Bool.and_eq_true, beq_iff_eq] at hb
    exact ⟨e1, he, hb.1, hb.2⟩

theorem Kept.put {listed : Array Bool} {vals : Nat → Value} {a : Act} {w w' : World} (h : Kept ops a0 wb V listed vals a w) (hst : ∀ j w w' v, Since w w' → V j w v → V j w' v)
    (hs : settled ops a0.tmps.size = true) {i : Nat} {o : Oper} (ho : ops[i]? = some o) {u : Value} (hw : Since w w') (hu : V i w' u) :
    Kept ops a0 wb V (listed.setIfInBounds i true) (fun j => if j = i then u else vals j) (a.put o.dst u) w' := by
  obtain ⟨_, _, hd, _⟩ := settled_at hs ho
  refine ⟨h.since.trans hw, ?_, ?_, ?_, ?_, ?_⟩
  · cases hdst : o.dst <;> simp [Act.put, h.defers]
  · cases hdst : o.dst <;> simp [Act.put, h.size]
  · intro t ht
    cases hdst : o.dst with
    | none => exact h.base t ht
    | some d =>
      have hne : d ≠ t := fun e => by
        subst e
        rw [(hd d hdst).1] at ht
        cases ht
      simp only [Act.put, Array.getElem?_setIfInBounds_ne hne]
      exact h.base t ht
  · intro t j hj hl hlt
    by_cases hji : j = i
    · subst hji
      simp only [if_true]
      have hdst : o.dst = some t := by
        have := List.find?_some hj
        simpa [ho] using this
      have hta : t < a.tmps.size := by rw [h.size]; exact hlt
      simp only [Act.put, hdst]
      simp [hta]
    · have hl' : listed.getD j false = true := (getD_set_or hl).resolve_left hji
      simp only [hji, if_false]
      cases hdst : o.dst with
      | none => exact h.made t j hj hl' hlt
      | some d =>
        have hne : d ≠ t := fun e => by
          subst e
          rw [(hd d hdst).1] at hj
          exact hji (by simpa using hj.symm)
        simp only [Act.put, Array.getElem?_setIfInBounds_ne hne]
        exact h.made t j hj hl' hlt
  · intro j hl
    by_cases hji : j = i
    · subst hji
      simpa using hu
    · simp only [hji, if_false]
      exact hst j _ _ _ hw (h.has j ((getD_set_or hl).resolve_left hji))

theorem Kept.exec {listed : Array Bool} {vals : Nat → Value} {a : Act} {w : World} (h : Kept ops a0 wb V listed vals a w) (hs : settled ops a0.tmps.size = true)
    {i : Nat} {o : Oper} (ho : ops[i]? = some o) (hr : ∀ e ∈ o.after, Region.binds .any e = true → listed.getD e.on false = true) :
    execOp a.eval o = execOp (filled ops a0 vals).eval o := by
  obtain ⟨_, _, _, hx⟩ := settled_at hs ho
  refine execOp_congr o (fun cs b => Region.noSelect_spec (by simp only [settled, Bool.and_eq_true] at hs; exact hs.1) i o cs b ho) ?_
  intro x hxm
  cases x with
  | tmp t =>
    by_cases hlt : t < a0.tmps.size
    · have e1 : a.tmps[t]? = (filled ops a0 vals).tmps[t]? := by
        rw [filled_at _ _ _ hlt]
        cases hm : maker ops t with
        | none => rw [h.base t hm]; simp [hlt]
        | some k =>
          obtain ⟨e, he, hb, hk⟩ := hx t hxm k hm
          subst hk
          exact h.made t _ hm (hr e he hb) hlt
      simp [Act.eval, Array.getD_eq_getD_getElem?, e1]
    · have e1 : a.tmps[t]? = none := Array.getElem?_eq_none (by rw [h.size]; exact Nat.le_of_not_lt hlt)
      have e2 : (filled ops a0 vals).tmps[t]? = none := Array.getElem?_eq_none (by simp only [filled, Array.size_mapIdx]; exact Nat.le_of_not_lt hlt)
      simp [Act.eval, Array.getD_eq_getD_getElem?, e1, e2]
  | _ => rfl

end

theorem none_listed (n j : Nat) : (Array.replicate n false).getD j false = false := by
  rw [Array.getD_eq_getD_getElem?, Array.getElem?_replicate]
  split <;> rfl

/-- Each operation of the region, one behind the other. -/
def eachDoes (P : Program) (V : Nat → World → Value → Prop) (F : (Nat → Value) → Act) (wb : World) : Nat → List Oper → Prop
  | _, [] => True
  | k, o :: rest => (∀ vals x, Since wb x → (∀ e ∈ o.after, Region.binds .any e = true → V e.on x (vals e.on)) → does P o (F vals) x fun v w' => Since x w' ∧ V k w' v) ∧ eachDoes P V F wb (k + 1) rest

theorem eachDoes_nil {P : Program} {V : Nat → World → Value → Prop} {F : (Nat → Value) → Act} {wb : World} {k : Nat} : eachDoes P V F wb k [] := trivial

theorem eachDoes_cons {P : Program} {V : Nat → World → Value → Prop} {F : (Nat → Value) → Act} {wb : World} {k : Nat} {o : Oper} {rest : List Oper} (h : eachDoes P V F wb (k + 1) rest)
    (h1 : ∀ vals x, Since wb x → (∀ e ∈ o.after, Region.binds .any e = true → V e.on x (vals e.on)) → does P o (F vals) x fun v w' => Since x w' ∧ V k w' v) : eachDoes P V F wb k (o :: rest) := ⟨h1, h⟩

theorem eachDoes_at {P : Program} {V : Nat → World → Value → Prop} {F : (Nat → Value) → Act} {wb : World} : ∀ (l : List Oper) (k : Nat), eachDoes P V F wb k l → ∀ i o, l[i]? = some o → ∀ vals x, Since wb x →
    (∀ e ∈ o.after, Region.binds .any e = true → V e.on x (vals e.on)) → does P o (F vals) x fun v w' => Since x w' ∧ V (k + i) w' v
  | [], _, _, i, o, h => by cases h
  | o :: rest, k, h, 0, o', hi => by
    obtain rfl : o = o' := by simpa using hi
    exact h.1
  | o :: rest, k, h, i + 1, o', hi => by
    have := eachDoes_at rest (k + 1) h.2 i o' (by simpa using hi)
    rw [show k + (i + 1) = k + 1 + i by omega]
    exact this
end Go.Proofs.Ytomnjegldbopiaa
