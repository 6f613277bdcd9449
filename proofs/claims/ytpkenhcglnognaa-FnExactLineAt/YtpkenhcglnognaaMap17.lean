/-
  A map whose keys are routes: where each line of a list stands.
-/
import Derived.Test.YtpkenhcglnognaaTbOkI
import Derived.Maps.OwnSet
import Derived.Maps.Views
import Derived.DeepKeys4
import Derived.MapFrom
namespace Go.Proofs.Ytpkenhcglnognaa
open Go.ChangeShapes Go.WideShapes Go.ChangeAt Go.RowKit Go.Deep
set_option linter.unusedVariables false
set_option maxRecDepth 10000
set_option linter.unusedSimpArgs false

theorem laidOut17 : laidOutB Try.prog = true := by kernel_rfl

theorem rtRow : (64 : TypeId) < Try.prog.types.size := of_decide_eq_true (by kernel_rfl)

theorem rtLaw : WideMaps.KeyLaw Try.prog 64 := deep_law_laid laidOut17 (m := 4) (by omega) rtRow (by kernel_rfl) (by rw [Try.underlying64])

theorem rtK : Maps.Keyed Try.prog 64 := Maps.Keyed.of_law rtLaw

/-- The route of a line. -/
def rtV (m : Ln) : Value := .agg #[.int .i64 m.hH, .int .i64 m.hP, .int .i64 m.tH, .int .i64 m.tP]

/-- Its numbers are whole numbers of the machine. -/
structure WfRt (m : Ln) : Prop where
  a : (Lit.int .i64 m.hH).wf = true
  b : (Lit.int .i64 m.hP).wf = true
  c : (Lit.int .i64 m.tH).wf = true
  d : (Lit.int .i64 m.tP).wf = true

theorem rtKey (m : Ln) (h : WfRt m) : ∃ kl, keyOf Try.prog 64 (rtV m) = some kl := by
  obtain ⟨n, hn⟩ : ∃ n, Try.prog.types.size + 1 = n + 1 + 1 + 1 + 1 := ⟨Try.prog.types.size - 3, by have := rtRow; have h3 : 3 ≤ Try.prog.types.size := of_decide_eq_true (by kernel_rfl); omega⟩
  have hk : Try.prog.keyType 64 = true := by kernel_rfl
  have hf : (rtV m).formed Try.prog 64 = true := by kernel_rfl
  have c1 : Try.prog.cellsOf 3 = 1 := by kernel_rfl
  have c2 : Try.prog.cellsOf 62 = 2 := by kernel_rfl
  have c4 : Try.prog.cellsOf 64 = 4 := by kernel_rfl
  have ka : ∀ x y : Int, (Lit.int .i64 x).wf = true → (Lit.int .i64 y).wf = true → Try.prog.keyLits (n + 1 + 1 + 1) 62 [.int .i64 x, .int .i64 y] = some [.int .i64 x, .int .i64 y] := by
    intro x y hx hy
    unfold Program.keyLits
    rw [Try.underlying62]
    simp [c1, c2, List.range, List.range.loop, Program.keyLits, Try.underlying3, hx, hy]
  have kr : Try.prog.keyLits (n + 1 + 1 + 1 + 1) 64 (rtV m).cells.toList = some [.int .i64 m.hH, .int .i64 m.hP, .int .i64 m.tH, .int .i64 m.tP] := by
    unfold Program.keyLits
    rw [Try.underlying64]
    simp [rtV, Value.cells, c2, c4, ka _ _ h.a h.b, ka _ _ h.c h.d]
  unfold keyOf
  rw [Try.underlying64]
  simp only [hk, hf, hn, kr]
  exact ⟨_, rfl⟩

theorem rtKey_inj {m l : Ln} {k : Lit} (h : keyOf Try.prog 64 (rtV m) = some k) (h' : keyOf Try.prog 64 (rtV l) = some k) : SameAd m l := by
  have e := rtK.inj h h'
  simp only [rtV, Value.agg.injEq, Array.mk.injEq, List.cons.injEq, Value.int.injEq, true_and, and_true] at e
  exact ⟨⟨e.1, e.2.1⟩, e.2.2.1, e.2.2.2⟩

theorem rtV_same {m l : Ln} (h : SameAd m l) : rtV m = rtV l := by
  obtain ⟨⟨a, b⟩, c, d⟩ := h
  simp [rtV, a, b, c, d]

/-- Block b is a map of routes that tells of each of the first k lines at which place it stands, the last where several have one route. -/
structure MapIs (w : World) (b k : Nat) (xs : List Ln) : Prop where
  is : ∃ D : DataW Unit, w.ownsMap Try.prog 64 (plainElem Try.prog 3) b k D ∧
    (∀ m kl, keyOf Try.prog 64 (rtV m) = some kl → (Maps.has D kl = true ↔ ∃ j, j < k ∧ SameAd (lAt xs j) m)) ∧
    (∀ m kl j, keyOf Try.prog 64 (rtV m) = some kl → j < k → SameAd (lAt xs j) m → (∀ i, j < i → i < k → ¬ SameAd (lAt xs i) m) → D.atKey kl (.lit (.int .i64 0)) = .lit (.int .i64 j))

theorem MapIs.kept {w w' : World} {b k : Nat} {xs : List Ln} {row : Option Nat} (h : MapIs w b k xs) (g : w.grownBy w' row) (hne : some b ≠ row) : MapIs w' b k xs := by
  obtain ⟨D, h1, h2⟩ := h.is
  exact ⟨D, h1.kept g hne, h2⟩

theorem MapIs.since {w w' : World} {b k : Nat} {xs : List Ln} (h : MapIs w b k xs) (s : Since w w') : MapIs w' b k xs := h.kept (grown_of_since s) (by simp)

theorem MapIs.touch {w w' : World} {b k g : Nat} {xs : List Ln} (h : MapIs w b k xs) (t : Touch g w w') (hne : b ≠ g) : MapIs w' b k xs := h.kept (grown_of_touch t) (by simpa using hne)

theorem MapIs.lt {w : World} {b k : Nat} {xs : List Ln} (h : MapIs w b k xs) : b < w.heap.size := by
  obtain ⟨D, h1, _⟩ := h.is
  exact h1.lt

/-- Block b is a map of routes, whatever it holds. -/
def IsRtMap (w : World) (b : Nat) : Prop := ∃ (n : Nat) (D : DataW Unit), w.ownsMap Try.prog 64 (plainElem Try.prog 3) b n D

theorem MapIs.any {w : World} {b k : Nat} {xs : List Ln} (h : MapIs w b k xs) : IsRtMap w b := by
  obtain ⟨D, h1, _⟩ := h.is
  exact ⟨k, D, h1⟩

theorem IsRtMap.since {w w' : World} {b : Nat} (h : IsRtMap w b) (s : Since w w') : IsRtMap w' b := by
  obtain ⟨n, D, h1⟩ := h
  exact ⟨n, D, h1.kept (grown_of_since s) (by simp)⟩

theorem IsRtMap.touch {w w' : World} {b g : Nat} (h : IsRtMap w b) (t : Touch g w w') (hne : b ≠ g) : IsRtMap w' b := by
  obtain ⟨n, D, h1⟩ := h
  exact ⟨n, D, h1.kept (grown_of_touch t) (by simpa using hne)⟩

theorem IsRtMap.lt {w : World} {b : Nat} (h : IsRtMap w b) : b < w.heap.size := by
  obtain ⟨n, D, h1⟩ := h
  exact h1.lt

theorem IsRtMap.new (w : World) : IsRtMap (w.alloc (.map #[] 0)) w.heap.size := ⟨0, _, World.ownsMap_made w _ _ _⟩

theorem touch_of_grown {w w' : World} {b : Nat} (h : w.grownBy w' (some b)) : Touch b w w' := ⟨h.os, h.tape, h.output, h.size, fun k hk hne => h.block k hk (by simpa using hne)⟩

/-- A map emptied. -/
theorem clear_run {w : World} {b : Nat} (h : IsRtMap w b) (xs : List Ln) (ty : TypeId) : ∃ w', (Builtin.clear_ #[68] ty #[.map (some b)]).run Try.prog w = .ok (.tuple #[]) w' ∧ MapIs w' b 0 xs ∧ Touch b w w' := by
  obtain ⟨n, D, es, clock, hb, F, hs, rfl⟩ := h
  refine ⟨Go.ChangeMaps.setBlock w b (.map #[] clock), ?_, ⟨.map [], ?_, ?_, ?_⟩, ⟨rfl, rfl, rfl, by simp [Go.ChangeMaps.setBlock], fun k hk hne => Go.ChangeMaps.heap_setBlock_other hb _ hne⟩⟩
  · simp [Builtin.clear_, run_underlying Try.underlying68, MapKept.run_getObj_map hb, MapKept.run_setObj_map _ hb, Result.andThen, Go.ChangeMaps.setBlock]
  · exact ⟨#[], clock, Go.ChangeMaps.heap_setBlock_same hb _, ⟨by simp, MapKept.stamped_empty clock, by simp⟩, Nat.le_refl _, rfl⟩
  · intro m kl hk
    constructor
    · intro e; cases e
    · rintro ⟨j, hj, _⟩; exact absurd hj (Nat.not_lt_zero j)
  · intro m kl j _ hj; exact absurd hj (Nat.not_lt_zero j)

section
variable {ops : Array Oper} {rest : List Oper} {o : Oper} {a : Act} {w : World} {Q : Exit → Act → World → Prop}

theorem vClear {b : Nat} (h : IsRtMap w b) (xs : List Ln) {x : Operand} (k : ∀ w', MapIs w' b 0 xs → Touch b w w' → VL ops Q rest (a.put o.dst (.tuple #[])) w') (hg : o.guard = none := by rfl)
    (hop : o.op = .call { callee := .builtin .clear, args := #[x], argTypes := #[68] } := by rfl) (hx : a.eval x = .map (some b) := by kernel_rfl) : VL ops Q (o :: rest) a w := by
  obtain ⟨w', h1, h2, h3⟩ := clear_run h xs o.type
  refine ⟨wpList_plain hg fun K' hK' => ?_⟩
  unfold Oper.wp
  simp [execOp, hop, resolve, invoke, builtin, hx, h1, Result.andThen]
  exact hK' _ _ (k w' h2 h3).out

/-- A line's place put in. -/
theorem vPut {b k : Nat} {xs : List Ln} (h : MapIs w b k xs) (hk : k < 1048576) (hw : WfRt (lAt xs k)) {m x v : Operand} (c : ∀ w', MapIs w' b (k + 1) xs → Touch b w w' → VL ops Q rest (a.put o.dst undef) w') (hg : o.guard = none := by rfl)
    (hop : o.op = .mapUpdate 68 m x v := by rfl) (hm : a.eval m = .map (some b) := by kernel_rfl) (hx : a.eval x = rtV (lAt xs k) := by kernel_rfl) (hv : a.eval v = .int .i64 (k : Int) := by kernel_rfl) : VL ops Q (o :: rest) a w := by
  obtain ⟨D, hD, h1, h2⟩ := h.is
  obtain ⟨kl, hkl⟩ := rtKey _ hw
  have hwf : (Lit.int .i64 (k : Int)).wf = true := by simp [Lit.wf, IntKind.min, IntKind.max, IntKind.signed, IntKind.bits]; omega
  refine ⟨wpList_mapUpdate_own w hg m x v 68 hop 64 3 rtK Try.underlying68 (plainElem Try.prog 3) b k D hm hD (by unfold maxLen; omega) _ _ kl hx hv hkl (.lit (.int .i64 (k : Int))) [] (plainElem_int Try.underlying3 hwf) fun w' o1 g1 => (c w' ⟨D.put kl _, o1, ?_, ?_⟩ (touch_of_grown g1)).out⟩
  · intro q ql hq
    by_cases e : ql = kl
    · subst e
      rw [Maps.has_put_same hD.isMap (rtK.key hkl)]
      exact ⟨fun _ => ⟨k, by omega, rtKey_inj hkl hq⟩, fun _ => rfl⟩
    · rw [Maps.has_put_other e, h1 q ql hq]
      constructor
      · rintro ⟨j, hj, hs⟩; exact ⟨j, by omega, hs⟩
      · rintro ⟨j, hj, hs⟩
        by_cases ej : j = k
        · subst ej
          rw [← rtV_same hs, hkl] at hq
          cases hq
          exact absurd rfl e
        · exact ⟨j, by omega, hs⟩
  · intro q ql j hq hj hs hlast
    by_cases e : ql = kl
    · subst e
      have hjk : j = k := by
        rcases Nat.lt_or_ge j k with h3 | h3
        · exact absurd (rtKey_inj hkl hq) (hlast k h3 (by omega))
        · omega
      subst hjk
      rw [Maps.atKey_put_same hD.isMap (rtK.key hkl)]
    · have ej : j ≠ k := by
        intro ej
        subst ej
        rw [← rtV_same hs, hkl] at hq
        cases hq
        exact absurd rfl e
      rw [Maps.atKey_put_other e]
      exact h2 q ql j hq (by omega) hs (fun i hi hi' => hlast i hi (by omega))

/-- Where a route stands, or -1. -/
def FindR (xs : List Ln) (n : Nat) (m : Ln) (r : Int) : Prop := (r = -1 ∧ ∀ k, k < n → ¬ SameAd (lAt xs k) m) ∨ ∃ k : Nat, k < n ∧ r = k ∧ SameAd (lAt xs k) m

theorem last_of {P : Nat → Prop} : ∀ n : Nat, (∃ j, j < n ∧ P j) → ∃ j, j < n ∧ P j ∧ ∀ i, j < i → i < n → ¬ P i
  | 0, h => by obtain ⟨j, hj, _⟩ := h; exact absurd hj (Nat.not_lt_zero j)
  | n + 1, h => by
    by_cases hn : P n
    · exact ⟨n, by omega, hn, fun i h1 h2 => by omega⟩
    · obtain ⟨j, hj, hp⟩ := h
      have hj' : j < n := by
        rcases Nat.lt_or_ge j n with h3 | h3
        · exact h3
        · have : j = n := by omega
          subst this
          exact absurd hp hn
      obtain ⟨q, h1, h2, h3⟩ := last_of n ⟨j, hj', hp⟩
      refine ⟨q, by omega, h2, fun i hi hi' => ?_⟩
      by_cases e : i = n
      · subst e; exact hn
      · exact h3 i hi (by omega)

/-- A route looked up. -/
theorem vLook {b n : Nat} {xs : List Ln} (h : MapIs w b n xs) (q : Ln) (hw : WfRt q) {m x : Operand} (c : ∀ (v : Int) (f : Bool), (f = false ∧ FindR xs n q (-1) ∨ f = true ∧ FindR xs n q v) → VL ops Q rest (a.put o.dst (.tuple #[.int .i64 v, .bool f])) w) (hg : o.guard = none := by rfl)
    (hop : o.op = .lookup 68 m x true := by rfl) (hm : a.eval m = .map (some b) := by kernel_rfl) (hx : a.eval x = rtV q := by kernel_rfl) : VL ops Q (o :: rest) a w := by
  obtain ⟨D, hD, h1, h2⟩ := h.is
  obtain ⟨kl, hkl⟩ := rtKey _ hw
  have hz : (zeroValue 3).run Try.prog w = .ok (.int .i64 0) w := by kernel_rfl
  refine ⟨wpList_lookup_own_ok_int w hg m x 68 hop 64 3 .i64 rtK Try.underlying68 Try.underlying3 hz b n D hm hD _ kl hx hkl fun v hat hwf => (c v _ ?_).out⟩
  by_cases hh : Maps.has D kl = true
  · right
    refine ⟨hh, ?_⟩
    obtain ⟨j, hj, hs, hl⟩ := last_of n ((h1 q kl hkl).1 hh)
    have e := h2 q kl j hkl hj hs hl
    rw [hat] at e
    injection e with e
    injection e with _ e
    exact .inr ⟨j, hj, e, hs⟩
  · left
    refine ⟨by simpa using hh, .inl ⟨rfl, fun k hk hs => hh ((h1 q kl hkl).2 ⟨k, hk, hs⟩)⟩⟩
end

theorem FindR.one {xs : List Ln} {pp : List (List (Int × ByteArray))} {n : Nat} {m : Ln} {r r' : Int} (L : LinesOk xs pp n) (h : FindR xs n m r) (h' : FindR xs n m r') : r = r' := by
  have key : ∀ i j : Nat, i < n → j < n → SameAd (lAt xs i) m → SameAd (lAt xs j) m → i = j := by
    intro i j hi hj h1 h2
    have h3 : SameAd (lAt xs i) (lAt xs j) := by
      obtain ⟨⟨a, b⟩, c, d⟩ := h1
      obtain ⟨⟨a', b'⟩, c', d'⟩ := h2
      exact ⟨⟨a.trans a'.symm, b.trans b'.symm⟩, c.trans c'.symm, d.trans d'.symm⟩
    have h4 : SameAd (lAt xs j) (lAt xs i) := by
      obtain ⟨⟨a, b⟩, c, d⟩ := h3
      exact ⟨⟨a.symm, b.symm⟩, c.symm, d.symm⟩
    rcases Nat.lt_trichotomy i j with h | h | h
    · exact absurd h3 ((L j hj).2 i h)
    · exact h
    · exact absurd h4 ((L i hi).2 j h)
  rcases h with ⟨rfl, h1⟩ | ⟨k, hk, rfl, h1⟩ <;> rcases h' with ⟨rfl, h2⟩ | ⟨k', hk', rfl, h2⟩
  · rfl
  · exact absurd h2 (h1 k' hk')
  · exact absurd h1 (h2 k hk)
  · rw [key k k' hk hk' h1 h2]
end Go.Proofs.Ytpkenhcglnognaa
