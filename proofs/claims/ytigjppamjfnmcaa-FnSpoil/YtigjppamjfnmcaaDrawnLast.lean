/-
  Regions that leave their order open and whose last operation waits for all others: the others are shown one by one, the last one in every world that they can leave; it may store, or panic.
-/
import Derived.Test.YtigjppamjfnmcaaM4
namespace Go.Proofs.Ytigjppamjfnmcaa
open Go.ChangeShapes Go.WideShapes Go.ChangeAt Go.RowKit
set_option linter.unusedVariables false

/-- The frame ahead of operation m, the last one. -/
def filledBut (ops : Array Oper) (m : Nat) (a : Act) (vals : Nat → Value) : Act := { tmps := a.tmps.mapIdx fun t x => match maker ops t with | some j => if j = m then x else vals j | none => x, defers := a.defers }

/-- Operation m waits for all ahead of it, straight or by way of others. -/
def waits (ops : Array Oper) (m : Nat) : Bool := (List.range m).all fun j => (List.range (m + 1)).any fun k => decide (j < k) && match ops[k]? with
  | none => false
  | some o => o.after.any fun e => Region.binds .any e && e.on == j

theorem waits_at {ops : Array Oper} {m : Nat} (h : waits ops m = true) (j : Nat) (hj : j < m) : ∃ k o, j < k ∧ k ≤ m ∧ ops[k]? = some o ∧ ∃ e ∈ o.after, Region.binds .any e = true ∧ e.on = j := by
  simp only [waits, List.all_eq_true, List.mem_range] at h
  obtain ⟨k, hk, hb⟩ := List.any_eq_true.1 (h j hj)
  simp only [Bool.and_eq_true, decide_eq_true_eq] at hb
  obtain ⟨hjk, hb⟩ := hb
  have hkm : k < m + 1 := by simpa using hk
  cases ho : ops[k]? with
  | none => simp [ho] at hb
  | some o =>
    simp only [ho] at hb
    obtain ⟨e, he, hb⟩ := Array.any_eq_true'.1 hb
    simp only [Bool.and_eq_true, beq_iff_eq] at hb
    exact ⟨k, o, hjk, by omega, ho, e, he, hb.1, hb.2⟩

section
variable {P : Program} {ops : Array Oper} {Q : Exit → Act → World → Prop} {a0 : Act} {wb : World} {V : Nat → World → Value → Prop} {m : Nat}

structure Kept2 (ops : Array Oper) (a0 : Act) (wb : World) (V : Nat → World → Value → Prop) (m : Nat) (listed : Array Bool) (vals : Nat → Value) (a : Act) (w : World) : Prop where
  kept : Kept ops a0 wb V listed vals a w
  rest : ∀ t : Nat, maker ops t = some m → a.tmps[t]? = a0.tmps[t]?
  shut : ∀ (j : Nat) (o : Oper), listed.getD j false = true → ops[j]? = some o → ∀ e ∈ o.after, Region.binds .any e = true → listed.getD e.on false = true

theorem filledBut_at (a : Act) (vals : Nat → Value) (t : Nat) (ht : t < a.tmps.size) : (filledBut ops m a vals).tmps[t]? = some (match maker ops t with | some j => if j = m then a.tmps[t] else vals j | none => a.tmps[t]) := by
  simp [filledBut, ht]

theorem Kept2.put {listed : Array Bool} {vals : Nat → Value} {a : Act} {w w' : World} (h : Kept2 ops a0 wb V m listed vals a w) (hst : ∀ j w w' v, Since w w' → V j w v → V j w' v)
    (hs : settled ops a0.tmps.size = true) {i : Nat} {o : Oper} (ho : ops[i]? = some o) (him : i ≠ m) (hr : ∀ e ∈ o.after, Region.binds .any e = true → listed.getD e.on false = true) {u : Value} (hw : Since w w') (hu : V i w' u) :
    Kept2 ops a0 wb V m (listed.setIfInBounds i true) (fun j => if j = i then u else vals j) (a.put o.dst u) w' := by
  refine ⟨h.kept.put hst hs ho hw hu, fun t ht => ?_, fun j oj hj hoj e he hb => ?_⟩
  case refine_2 =>
    rcases getD_set_or hj with hji | hj'
    · subst hji
      obtain rfl : o = oj := by simpa [ho] using hoj
      exact getD_set_true (hr e he hb)
    · exact getD_set_true (h.shut j oj hj' hoj e he hb)
  obtain ⟨_, _, hd, _⟩ := settled_at hs ho
  cases hdst : o.dst with
  | none => exact h.rest t ht
  | some d =>
    have hne : d ≠ t := fun e => by
      subst e
      rw [(hd d hdst).1] at ht
      exact him (by simpa using ht)
    simp only [Act.put, Array.getElem?_setIfInBounds_ne hne]
    exact h.rest t ht

theorem Kept2.exec {listed : Array Bool} {vals : Nat → Value} {a : Act} {w : World} (h : Kept2 ops a0 wb V m listed vals a w) (hm : m + 1 = ops.size) (hs : settled ops a0.tmps.size = true)
    {i : Nat} {o : Oper} (ho : ops[i]? = some o) (hr : ∀ e ∈ o.after, Region.binds .any e = true → listed.getD e.on false = true) :
    execOp a.eval o = execOp (filledBut ops m a0 vals).eval o := by
  obtain ⟨_, hlt', _, hx⟩ := settled_at hs ho
  have hi : i < ops.size := (Array.getElem?_eq_some_iff.1 ho).1
  refine execOp_congr o (fun cs b => Region.noSelect_spec (by simp only [settled, Bool.and_eq_true] at hs; exact hs.1) i o cs b ho) ?_
  intro x hxm
  cases x with
  | tmp t =>
    by_cases hlt : t < a0.tmps.size
    · have e1 : a.tmps[t]? = (filledBut ops m a0 vals).tmps[t]? := by
        rw [filledBut_at _ _ _ hlt]
        cases hmk : maker ops t with
        | none => rw [h.kept.base t hmk]; simp [hlt]
        | some k =>
          obtain ⟨e, he, hb, hk⟩ := hx t hxm k hmk
          subst hk
          have := hlt' e he hb
          simp only [show ¬ e.on = m by omega, if_false]
          exact h.kept.made t _ hmk (hr e he hb) hlt
      simp [Act.eval, Array.getD_eq_getD_getElem?, e1]
    · have e1 : a.tmps[t]? = none := Array.getElem?_eq_none (by rw [h.kept.size]; exact Nat.le_of_not_lt hlt)
      have e2 : (filledBut ops m a0 vals).tmps[t]? = none := Array.getElem?_eq_none (by simp only [filledBut, Array.size_mapIdx]; exact Nat.le_of_not_lt hlt)
      simp [Act.eval, Array.getD_eq_getD_getElem?, e1, e2]
  | _ => rfl

theorem wpAny_last (hm : m + 1 = ops.size) (hs : settled ops a0.tmps.size = true) (hwt : waits ops m = true) (hst : ∀ j w w' v, Since w w' → V j w v → V j w' v)
    (hop : ∀ i o, ops[i]? = some o → i ≠ m → ∀ vals w, Since wb w → (∀ e ∈ o.after, Region.binds .any e = true → V e.on w (vals e.on)) → does P o (filledBut ops m a0 vals) w fun v w' => Since w w' ∧ V i w' v)
    (hlast : ∀ o, ops[m]? = some o → ∀ vals w, Since wb w → (∀ i, i < m → V i w (vals i)) → o.wp P (filledBut ops m a0 vals) w (fun a' w' => Q .normal a' w') Q) :
    ∀ (fuel : Nat) (U : List Nat) (listed : Array Bool) (vals : Nat → Value) (a : Act) (w : World), listed.size = ops.size → listed.getD m false = false → (∀ j, j < ops.size → listed.getD j true = false → j ∈ U) → U.length ≤ fuel →
      Kept2 ops a0 wb V m listed vals a w → wpAny P .any ops Q fuel listed a w := by
  have hmlt : m < ops.size := by omega
  have un : ∀ (listed : Array Bool), listed.size = ops.size → ∀ j, j < ops.size → listed.getD j false = false → listed.getD j true = false := fun listed hsz j hj h => by
    simp [hsz, hj] at h ⊢
    exact h
  have hall : ∀ (listed : Array Bool), listed.size = ops.size → Region.ready .any ops listed = [] → ∀ n j, j ≤ n → j < ops.size → listed.getD j false = true := by
    intro listed hsz hr n
    induction n with
    | zero =>
      intro j hj hlt
      obtain rfl : j = 0 := by omega
      refine Classical.byContradiction fun hno => ?_
      have : 0 ∈ Region.ready .any ops listed := mem_ready.2 ⟨un listed hsz 0 hlt (by simpa using hno), ops[0], by simp [hlt], fun e he hb => by
        have := (settled_at hs (j := 0) (o := ops[0]) (by simp [hlt])).2.1 e he hb
        omega⟩
      rw [hr] at this
      cases this
    | succ n ih =>
      intro j hj hlt
      by_cases hjn : j ≤ n
      · exact ih j hjn hlt
      · refine Classical.byContradiction fun hno => ?_
        have : j ∈ Region.ready .any ops listed := mem_ready.2 ⟨un listed hsz j hlt (by simpa using hno), ops[j], by simp [hlt], fun e he hb => by
          have := (settled_at hs (j := j) (o := ops[j]) (by simp [hlt])).2.1 e he hb
          exact ih e.on (by omega) (by omega)⟩
        rw [hr] at this
        cases this
  intro fuel
  induction fuel with
  | zero =>
    intro U listed vals a w hsz hml hU hl hk
    have := hU m hmlt (un listed hsz m hmlt hml)
    have hnil : U = [] := List.length_eq_zero_iff.1 (by omega)
    rw [hnil] at this
    cases this
  | succ fuel ih =>
    intro U listed vals a w hsz hml hU hl hk
    have hk2 := hk
    refine ⟨fun hr => ?_, fun i hi => ?_⟩
    · have := hall listed hsz hr m m (Nat.le_refl _) hmlt
      rw [hml] at this
      cases this
    obtain ⟨h0, o, ho, hr⟩ := mem_ready.1 hi
    have hlt : i < ops.size := (Array.getElem?_eq_some_iff.1 ho).1
    unfold wpOp
    simp only [ho]
    have hg := (settled_at hs ho).1
    have hwant : Region.wanted o (yielded ops a.tmps) = true := by simp [Region.wanted, hg]
    rw [if_pos hwant]
    refine .inl ?_
    by_cases him : i = m
    · subst him
      have hli' : ∀ n j, i - j ≤ n → j < i → listed.getD j false = true := by
        intro n
        induction n with
        | zero =>
          intro j h1 h2
          omega
        | succ n ihn =>
          intro j h1 h2
          obtain ⟨k, ok, hjk, hki, hok, e, he, hb, hej⟩ := waits_at hwt j h2
          rw [← hej]
          by_cases hk : k = i
          · subst hk
            obtain rfl : o = ok := by simpa [ho] using hok
            exact hr e he hb
          · exact hk2.shut k ok (ihn k (by omega) (by omega)) hok e he hb
      have hli : ∀ j, j < i → listed.getD j false = true := fun j hj => hli' (i - j) j (Nat.le_refl _) hj
      have ha : a = filledBut ops i a0 vals := by
        have ht : a.tmps = (filledBut ops i a0 vals).tmps := by
          apply Array.ext_getElem?
          intro t
          by_cases hlt2 : t < a0.tmps.size
          · rw [filledBut_at _ _ _ hlt2]
            cases hmk : maker ops t with
            | none => rw [hk.kept.base t hmk]; simp [hlt2]
            | some k =>
              by_cases hki : k = i
              · subst hki
                rw [hk.rest t hmk]
                simp [hlt2]
              · have hk2 : k < ops.size := by
                  have := List.mem_of_find?_eq_some hmk
                  simpa using this
                simp only [hki, if_false]
                exact hk.kept.made t k hmk (hli k (by omega)) hlt2
          · rw [Array.getElem?_eq_none (by rw [hk.kept.size]; omega), Array.getElem?_eq_none (by simp [filledBut]; omega)]
        cases a
        simp only [filledBut] at ht ⊢
        have := hk.kept.defers
        simp_all
      have hq := hlast o ho vals w hk.kept.since (fun j hj => hk.kept.has j (hli j hj))
      rw [← ha] at hq
      refine Oper.wp_mono (fun a' w' hq' => ?_) hq
      have hr' : Region.ready .any ops (listed.setIfInBounds i true) = [] := by
        refine List.eq_nil_iff_forall_not_mem.2 fun j hj => ?_
        obtain ⟨hj0, oj, hoj, _⟩ := mem_ready.1 hj
        have hjlt : j < ops.size := (Array.getElem?_eq_some_iff.1 hoj).1
        by_cases hji : j = i
        · subst hji
          simp [hsz, hjlt] at hj0
        · rw [getD_set_ne true (Ne.symm hji)] at hj0
          have := hli j (by omega)
          simp [hsz, hjlt] at this hj0
          rw [this] at hj0
          cases hj0
      cases fuel with
      | zero => exact ⟨hr', hq'⟩
      | succ f => exact ⟨fun _ => hq', fun j hj => by rw [hr'] at hj; cases hj⟩
    · have hd := hop i o ho him vals w hk.kept.since (fun e he hb => hk.kept.has _ (hr e he hb))
      have hnext : ∀ u w', Since w w' → V i w' u → wpAny P .any ops Q fuel (listed.setIfInBounds i true) (a.put o.dst u) w' := fun u w' h1 h2 =>
        ih (U.erase i) _ _ _ _ (by simp [hsz]) (by rw [getD_set_ne false him]; exact hml) (fun j hj hun => by
          have hji : j ≠ i := fun e => by
            subst e
            simp [hsz, hj] at hun
          rw [getD_set_ne true (Ne.symm hji)] at hun
          exact (List.mem_erase_of_ne hji).2 (hU j hj hun)) (by
          rw [List.length_erase_of_mem (hU i hlt h0)]
          omega) (hk.put hst hs ho him hr h1 h2)
      unfold does at hd
      rw [← hk.exec hm hs ho hr] at hd
      unfold Oper.wp
      generalize (execOp a.eval o).run P w = r at hd
      cases r with
      | ok n w' =>
        cases n <;> simp only [doesUpon] at hd <;> simp only [Oper.upon]
        case value u => exact hnext u w' hd.1 hd.2
        case skip => exact hnext undef w' hd.1 hd.2
        case enter f args => exact hd.mono fun e w'' ⟨v, he, h1, h2⟩ => by subst he; exact hnext v w'' h1 h2
      | halt x w' => simp only [doesUpon] at hd
end

/-- Each operation of the region, one behind the other, and then the last. -/
def eachThen (P : Program) (Q : Exit → Act → World → Prop) (V : Nat → World → Value → Prop) (F : (Nat → Value) → Act) (wb : World) : Nat → List Oper → Prop
  | _, [] => False
  | k, [o] => ∀ vals x, Since wb x → (∀ i, i < k → V i x (vals i)) → o.wp P (F vals) x (fun a' w' => Q .normal a' w') Q
  | k, o :: o' :: rest => (∀ vals x, Since wb x → (∀ e ∈ o.after, Region.binds .any e = true → V e.on x (vals e.on)) → does P o (F vals) x fun v w' => Since x w' ∧ V k w' v) ∧ eachThen P Q V F wb (k + 1) (o' :: rest)

theorem eachThen_one {P : Program} {Q : Exit → Act → World → Prop} {V : Nat → World → Value → Prop} {F : (Nat → Value) → Act} {wb : World} {k : Nat} {o : Oper}
    (h : ∀ vals x, Since wb x → (∀ i, i < k → V i x (vals i)) → o.wp P (F vals) x (fun a' w' => Q .normal a' w') Q) : eachThen P Q V F wb k [o] := h

theorem eachThen_cons {P : Program} {Q : Exit → Act → World → Prop} {V : Nat → World → Value → Prop} {F : (Nat → Value) → Act} {wb : World} {k : Nat} {o o' : Oper} {rest : List Oper} (h : eachThen P Q V F wb (k + 1) (o' :: rest))
    (h1 : ∀ vals x, Since wb x → (∀ e ∈ o.after, Region.binds .any e = true → V e.on x (vals e.on)) → does P o (F vals) x fun v w' => Since x w' ∧ V k w' v) : eachThen P Q V F wb k (o :: o' :: rest) := ⟨h1, h⟩

theorem eachThen_at {P : Program} {Q : Exit → Act → World → Prop} {V : Nat → World → Value → Prop} {F : (Nat → Value) → Act} {wb : World} : ∀ (l : List Oper) (k : Nat), eachThen P Q V F wb k l →
    (∀ i o, l[i]? = some o → i + 1 ≠ l.length → ∀ vals x, Since wb x → (∀ e ∈ o.after, Region.binds .any e = true → V e.on x (vals e.on)) → does P o (F vals) x fun v w' => Since x w' ∧ V (k + i) w' v) ∧
    (∀ o, l[l.length - 1]? = some o → ∀ vals x, Since wb x → (∀ i, i < k + (l.length - 1) → V i x (vals i)) → o.wp P (F vals) x (fun a' w' => Q .normal a' w') Q) ∧ l ≠ []
  | [], _, h => h.elim
  | [o], k, h => by
    refine ⟨fun i o' hi hne => ?_, fun o' ho => ?_, by simp⟩
    · have hlt : i < 1 := by simpa using (List.getElem?_eq_some_iff.1 hi).1
      exact absurd (show i + 1 = [o].length by simp; omega) hne
    · obtain rfl : o = o' := by simpa using ho
      exact h
  | o :: o' :: rest, k, h => by
    obtain ⟨i1, i2, i3⟩ := eachThen_at (o' :: rest) (k + 1) h.2
    refine ⟨fun i x hi hne => ?_, fun x hx => ?_, by simp⟩
    · cases i with
      | zero =>
        obtain rfl : o = x := by simpa using hi
        exact h.1
      | succ i =>
        have := i1 i x (by simpa using hi) (by simp at hne ⊢; omega)
        rw [show k + (i + 1) = k + 1 + i by omega]
        exact this
    · have := i2 x (by simpa using hx)
      rw [show k + ((o :: o' :: rest).length - 1) = k + 1 + ((o' :: rest).length - 1) by simp; omega]
      exact this

theorem wp_region_then {P : Program} {id : Nat} {Q : Exit → Act → World → Prop} {a : Act} {w wb : World} {l : List Oper} (V : Nat → World → Value → Prop) (F : (Nat → Value) → Act) (hm : P.follows .mixedOrders = true) (hs : settled l.toArray a.tmps.size = true) (hwt : waits l.toArray (l.length - 1) = true) (h0 : Since wb w)
    (hst : ∀ j w w' v, Since w w' → V j w v → V j w' v) (hF : ∀ vals, F vals = filledBut l.toArray (l.length - 1) a vals) (hop : eachThen P Q V F wb 0 l) : (Code.region id l.toArray true).wp P Q a w := by
  obtain ⟨h1, h2, h3⟩ := eachThen_at l 0 hop
  have hl : 0 < l.length := List.length_pos_iff.2 h3
  refine wp_region_any hm (wpAny_last (V := V) (a0 := a) (wb := wb) (m := l.length - 1) (by simp; omega) hs hwt hst ?_ ?_ _ (List.range l.length) _ (fun _ => undef) _ _ (by simp) (none_listed _ _) (fun j hj _ => by simpa using hj) (by simp) ⟨⟨h0.drew, rfl, rfl, fun _ _ => rfl, ?_, ?_⟩, fun _ _ => rfl, fun j o hj => by rw [none_listed] at hj; cases hj⟩)
  · intro i o ho him vals w hw hv
    have := h1 i o (by simpa using ho) (by omega) vals w hw hv
    rw [hF, Nat.zero_add] at this
    exact this
  · intro o ho vals w hw hv
    have := h2 o (by simpa using ho) vals w hw (by rw [Nat.zero_add]; exact hv)
    rw [hF] at this
    exact this
  · intro t j _ hl
    rw [none_listed] at hl
    cases hl
  · intro j hl
    rw [none_listed] at hl
    cases hl
end Go.Proofs.Ytigjppamjfnmcaa
