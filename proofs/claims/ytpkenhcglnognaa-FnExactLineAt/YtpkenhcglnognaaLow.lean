/-
  Regions that leave their order open and store into variables that were there: each operation is shown once; what it leaves stands whatever is stored into older blocks. And a list of parts and a variable of an end are never one block.
-/
import Derived.Test.YtpkenhcglnognaaDone
import Derived.Test.YtpkenhcglnognaaConn
import Derived.Test.YtpkenhcglnognaaPrt
namespace Go.Proofs.Ytpkenhcglnognaa
open Go.ChangeShapes Go.WideShapes Go.ChangeAt Go.RowKit
set_option linter.unusedVariables false
set_option maxRecDepth 10000

/-- From x to y nothing turns but one block of some that are told, and new ones. -/
def Low (N : Nat → Prop) (x y : World) : Prop := ∃ b, N b ∧ Touch b x y

theorem Low.since {N : Nat → Prop} {b : Nat} {x y : World} (h : Since x y) (hN : N b) : Low N x y := ⟨b, hN, Touch.of_since h b⟩

theorem Low.touch {N : Nat → Prop} {b : Nat} {x y : World} (h : Touch b x y) (hb : N b) : Low N x y := ⟨b, hb, h⟩

/-- Each operation of the region. -/
def eachLow (P : Program) (N : World → World → Prop) (V : Nat → World → Value → Prop) (K : (Nat → Bool) → (Nat → Value) → World → Prop) (F : (Nat → Value) → Act) : Nat → List Oper → Prop
  | _, [] => True
  | k, o :: rest => (∀ (f : Nat → Bool) vals x, f k = false → (∀ e ∈ o.after, Region.binds .any e = true → f e.on = true ∧ V e.on x (vals e.on)) → K f vals x → does P o (F vals) x fun v w' => N x w' ∧ K (andDone f k) (putVal vals k v) w' ∧ V k w' v) ∧ eachLow P N V K F (k + 1) rest

theorem eachLow_nil {P : Program} {N : World → World → Prop} {V : Nat → World → Value → Prop} {K : (Nat → Bool) → (Nat → Value) → World → Prop} {F : (Nat → Value) → Act} {k : Nat} : eachLow P N V K F k [] := trivial

theorem eachLow_cons {P : Program} {N : World → World → Prop} {V : Nat → World → Value → Prop} {K : (Nat → Bool) → (Nat → Value) → World → Prop} {F : (Nat → Value) → Act} {k : Nat} {o : Oper} {rest : List Oper} (h : eachLow P N V K F (k + 1) rest)
    (h1 : ∀ (f : Nat → Bool) vals x, f k = false → (∀ e ∈ o.after, Region.binds .any e = true → f e.on = true ∧ V e.on x (vals e.on)) → K f vals x → does P o (F vals) x fun v w' => N x w' ∧ K (andDone f k) (putVal vals k v) w' ∧ V k w' v) : eachLow P N V K F k (o :: rest) := ⟨h1, h⟩

theorem eachLow_V {P : Program} {N : World → World → Prop} {V : Nat → World → Value → Prop} {K : (Nat → Bool) → (Nat → Value) → World → Prop} {F : (Nat → Value) → Act} (hst : ∀ j x y v, N x y → V j x v → V j y v) :
    ∀ (l : List Oper) (k : Nat), eachLow P N V K F k l → eachDoneV P (fun f vals x => K f vals x ∧ ∀ j, f j = true → V j x (vals j)) F k l
  | [], _, _ => trivial
  | o :: rest, k, h => ⟨fun f vals x hf hr hi => doesUpon_mono (fun v w q => ⟨q.2.1, fun j hj => by
      by_cases e : j = k
      · subst e
        rw [show putVal vals j v j = v from if_pos rfl]
        exact q.2.2
      · rw [show putVal vals k v j = vals j from if_neg e]
        exact hst _ _ _ _ q.1 (hi.2 j (by rw [show andDone f k j = f j from if_neg e] at hj; exact hj))⟩) (h.1 f vals x hf (fun e he hb => ⟨hr e he hb, hi.2 _ (hr e he hb)⟩) hi.1), eachLow_V hst rest (k + 1) h.2⟩

theorem wp_region_low {P : Program} {id : Nat} {Q : Exit → Act → World → Prop} {a : Act} {w : World} {l : List Oper} (N : World → World → Prop) (V : Nat → World → Value → Prop) (K : (Nat → Bool) → (Nat → Value) → World → Prop) (F : (Nat → Value) → Act) (hm : P.follows .mixedOrders = true) (hs : settled l.toArray a.tmps.size = true)
    (hst : ∀ j x y v, N x y → V j x v → V j y v) (h0 : ∀ (f : Nat → Bool) vals, (∀ j, f j = false) → K f vals w.drew) (hF : ∀ vals, F vals = filled l.toArray a vals) (hop : eachLow P N V K F 0 l)
    (hfin : ∀ (f : Nat → Bool) vals w, K f vals w → (∀ i, i < l.length → f i = true) → (∀ i, i < l.length → V i w (vals i)) → Q .normal (F vals) w) : (Code.region id l.toArray true).wp P Q a w :=
  wp_region_doneV (fun f vals x => K f vals x ∧ ∀ j, f j = true → V j x (vals j)) F hm hs (fun f vals hf => ⟨h0 f vals hf, fun j hj => by rw [hf j] at hj; cases hj⟩) hF (eachLow_V hst l 0 hop) (fun f vals w hi hf => hfin f vals w hi.1 hf (fun i h => hi.2 i (hf i h)))
end Go.Proofs.Ytpkenhcglnognaa
