/-
  The same for operations that turn more than new blocks: whatever they keep is told by a relation of one's own (transitive), instead of 'nothing of what was there has turned'.
-/
import Derived.Test.YtomnjegldbopiaaDrawnTail
namespace Go.Proofs.Ytomnjegldbopiaa
open Go.ChangeShapes Go.WideShapes Go.ChangeAt Go.RowKit
set_option linter.unusedVariables false
set_option maxRecDepth 10000

section
variable {P : Program} {ops : Array Oper} {Q : Exit → Act → World → Prop} {a0 : Act} {wb : World} {V : Nat → World → Value → Prop} {m : Nat} {R : World → World → Prop}

structure KeptR (R : World → World → Prop) (ops : Array Oper) (a0 : Act) (wb : World) (V : Nat → World → Value → Prop) (listed : Array Bool) (vals : Nat → Value) (a : Act) (w : World) : Prop where
  since : R wb w
  defers : a.defers = a0.defers
  size : a.tmps.size = a0.tmps.size
  base : ∀ t : Nat, maker ops t = none → a.tmps[t]? = a0.tmps[t]?
  made : ∀ t j : Nat, maker ops t = some j → listed.getD j false = true → t < a0.tmps.size → a.tmps[t]? = some (vals j)
  has : ∀ j : Nat, listed.getD j false = true → V j w (vals j)

theorem KeptR.put_slot {listed : Array Bool} {vals : Nat → Value} {a : Act} {w w' : World} (h : KeptR R ops a0 wb V listed vals a w) (hRt : ∀ a b c, R a b → R b c → R a c) (hst : ∀ j w w' v, R w w' → V j w v → V j w' v)
    {i : Nat} {o : Oper} (ho : ops[i]? = some o) (hd : ∀ d, o.dst = some d → maker ops d = some i ∧ d < a0.tmps.size) {u : Value} (hw : R w w') (hu : V i w' u) :
    KeptR R ops a0 wb V (listed.setIfInBounds i true) (fun j => if j = i then u else vals j) (a.put o.dst u) w' := by
  refine ⟨hRt _ _ _ h.since hw, ?_, ?_, ?_, ?_, ?_⟩
  · cases hdst : o.dst <;> simp [Act.put, h.defers]
  · cases hdst : o.dst <;> simp [Act.put, h.size]
  · intro t ht
    cases hdst : o.dst with
    | none => exact h.base t ht
    | some d =>
      have hne : d ≠ t := fun e => by
        subst e
        rw [(hd d hdst).1] at ht
        cases ht
      simp only [Act.put, Array.getElem?_setIfInBounds_ne hne]
      exact h.base t ht
  · intro t j hj hl hlt
    by_cases hji : j = i
    · subst hji
      simp only [if_true]
      have hdst : o.dst = some t := by
        have := List.find?_some hj
        simpa [ho] using this
      have hta : t < a.tmps.size := by rw [h.size]; exact hlt
      simp only [Act.put, hdst]
      simp [hta]
    · have hl' : listed.getD j false = true := (getD_set_or hl).resolve_left hji
      simp only [hji, if_false]
      cases hdst : o.dst with
      | none => exact h.made t j hj hl' hlt
      | some d =>
        have hne : d ≠ t := fun e => by
          subst e
          rw [(hd d hdst).1] at hj
          exact hji (by simpa using hj.symm)
        simp only [Act.put, Array.getElem?_setIfInBounds_ne hne]
        exact h.made t j hj hl' hlt
  · intro j hl
    by_cases hji : j = i
    · subst hji
      simpa using hu
    · simp only [hji, if_false]
      exact hst j _ _ _ hw (h.has j ((getD_set_or hl).resolve_left hji))

structure KeptR3 (R : World → World → Prop) (ops : Array Oper) (a0 : Act) (wb : World) (V : Nat → World → Value → Prop) (m : Nat) (listed : Array Bool) (vals : Nat → Value) (a : Act) (w : World) : Prop where
  kept : KeptR R ops a0 wb V listed vals a w
  rest : ∀ t j : Nat, maker ops t = some j → m ≤ j → a.tmps[t]? = a0.tmps[t]?
  shut : Shut ops listed
  none_yet : ∀ j, m ≤ j → listed.getD j false = false

theorem KeptR3.put {listed : Array Bool} {vals : Nat → Value} {a : Act} {w w' : World} (h : KeptR3 R ops a0 wb V m listed vals a w) (hRt : ∀ a b c, R a b → R b c → R a c) (hst : ∀ j w w' v, R w w' → V j w v → V j w' v)
    (hs : settledTo ops a0.tmps.size m = true) {i : Nat} {o : Oper} (ho : ops[i]? = some o) (him : i < m) (hr : ∀ e ∈ o.after, Region.binds .any e = true → listed.getD e.on false = true) {u : Value} (hw : R w w') (hu : V i w' u) :
    KeptR3 R ops a0 wb V m (listed.setIfInBounds i true) (fun j => if j = i then u else vals j) (a.put o.dst u) w' := by
  refine ⟨h.kept.put_slot hRt hst ho (settledTo_at hs ho).2.2.1 hw hu, fun t j ht hj => ?_, h.shut.put ho hr, fun j hj => ?_⟩
  case refine_2 =>
    rw [getD_set_ne false (by omega)]
    exact h.none_yet j hj
  obtain ⟨_, _, hd, _⟩ := settledTo_at hs ho
  cases hdst : o.dst with
  | none => exact h.rest t j ht hj
  | some d =>
    have hne : d ≠ t := fun e => by
      subst e
      rw [(hd d hdst).1] at ht
      have : i = j := by simpa using ht
      omega
    simp only [Act.put, Array.getElem?_setIfInBounds_ne hne]
    exact h.rest t j ht hj

theorem KeptR3.exec {listed : Array Bool} {vals : Nat → Value} {a : Act} {w : World} (h : KeptR3 R ops a0 wb V m listed vals a w) (hs : settledTo ops a0.tmps.size m = true)
    {i : Nat} {o : Oper} (ho : ops[i]? = some o) (him : i < m) (hr : ∀ e ∈ o.after, Region.binds .any e = true → listed.getD e.on false = true) :
    execOp a.eval o = execOp (filledTo ops m a0 vals).eval o := by
  obtain ⟨_, hlt', _, hx⟩ := settledTo_at hs ho
  refine execOp_congr o (fun cs b => Region.noSelect_spec (by simp only [settledTo, Bool.and_eq_true] at hs; exact hs.1) i o cs b ho) ?_
  intro x hxm
  cases x with
  | tmp t =>
    by_cases hlt : t < a0.tmps.size
    · have e1 : a.tmps[t]? = (filledTo ops m a0 vals).tmps[t]? := by
        rw [filledTo_at _ _ _ hlt]
        cases hmk : maker ops t with
        | none => rw [h.kept.base t hmk]; simp [hlt]
        | some k =>
          rcases hx him t hxm k hmk with hmk2 | ⟨e, he, hb, hk⟩
          · simp only [hmk2, if_true]
            rw [h.rest t k hmk hmk2]
            simp [hlt]
          subst hk
          have := hlt' e he hb
          simp only [show ¬ m ≤ e.on by omega, if_false]
          exact h.kept.made t _ hmk (hr e he hb) hlt
      simp [Act.eval, Array.getD_eq_getD_getElem?, e1]
    · have e1 : a.tmps[t]? = none := Array.getElem?_eq_none (by rw [h.kept.size]; exact Nat.le_of_not_lt hlt)
      have e2 : (filledTo ops m a0 vals).tmps[t]? = none := Array.getElem?_eq_none (by simp only [filledTo, Array.size_mapIdx]; exact Nat.le_of_not_lt hlt)
      simp [Act.eval, Array.getD_eq_getD_getElem?, e1, e2]
  | _ => rfl

theorem KeptR3.frame {listed : Array Bool} {vals : Nat → Value} {a : Act} {w : World} (h : KeptR3 R ops a0 wb V m listed vals a w) (hall : ∀ j, j < m → listed.getD j false = true) : a = filledTo ops m a0 vals := by
  have ht : a.tmps = (filledTo ops m a0 vals).tmps := by
    apply Array.ext_getElem?
    intro t
    by_cases hlt2 : t < a0.tmps.size
    · rw [filledTo_at _ _ _ hlt2]
      cases hmk : maker ops t with
      | none => rw [h.kept.base t hmk]; simp [hlt2]
      | some k =>
        by_cases hki : m ≤ k
        · simp only [hki, if_true]
          rw [h.rest t k hmk hki]
          simp [hlt2]
        · simp only [hki, if_false]
          exact h.kept.made t k hmk (hall k (by omega)) hlt2
    · rw [Array.getElem?_eq_none (by rw [h.kept.size]; omega), Array.getElem?_eq_none (by simp [filledTo]; omega)]
  cases a
  simp only [filledTo] at ht ⊢
  have := h.kept.defers
  simp_all

end
end Go.Proofs.Ytomnjegldbopiaa
