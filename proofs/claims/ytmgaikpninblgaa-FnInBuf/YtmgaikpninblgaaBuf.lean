/-
  A growing list of bytes of our own, whether it came from a text or was made empty: append of one byte.
-/
import Derived.Test.YtmgaikpninblgaaByt
namespace Go.Proofs.Ytmgaikpninblgaa
open Go.ChangeShapes Go.WideShapes Go.ChangeAt Go.RowKit Go.Deep
set_option linter.unusedVariables false

/-- Block g holds n bytes f 0, f 1 .. and has room for cap, which may be written. -/
structure BufB (w : World) (B g n cap : Nat) (f : Nat → Int) : Prop where
  lo : B ≤ g
  lt : g < w.heap.size
  nc : n ≤ cap
  cell : ∀ i, i < n → w.cell? ⟨g, i, none⟩ = some (.int .u8 (f i))
  room : ∀ i, n ≤ i → i < cap → (w.cell? ⟨g, i, none⟩).isSome = true ∧ w.frozen? ⟨g, i, none⟩ = false

theorem BufB.since {w w' : World} {B g n cap : Nat} {f : Nat → Int} (h : BufB w B g n cap f) (k : Since w w') : BufB w' B g n cap f :=
  ⟨h.lo, Nat.lt_of_lt_of_le h.lt k.le, h.nc, fun i hi => (Below.cell k (p := ⟨g, i, none⟩) h.lt).trans (h.cell i hi), fun i h1 h2 => by rw [Below.cell k (p := ⟨g, i, none⟩) h.lt, Below.frozen k (p := ⟨g, i, none⟩) h.lt]; exact h.room i h1 h2⟩

theorem BufB.touch {w w' : World} {B g n cap g' : Nat} {f : Nat → Int} (h : BufB w B g n cap f) (k : Touch g' w w') (hne : g ≠ g') : BufB w' B g n cap f :=
  ⟨h.lo, Nat.lt_of_lt_of_le h.lt k.size, h.nc, fun i hi => (k.cell (p := ⟨g, i, none⟩) hne h.lt).trans (h.cell i hi), fun i h1 h2 => by rw [k.cell (p := ⟨g, i, none⟩) hne h.lt, k.frozen (p := ⟨g, i, none⟩) hne h.lt]; exact h.room i h1 h2⟩

theorem BufB.empty (w : World) : BufB (w.alloc (.cells #[] 5)) w.heap.size w.heap.size 0 0 (fun _ => 0) :=
  ⟨Nat.le_refl _, by simp, Nat.le_refl _, fun i hi => by omega, fun i h1 h2 => by omega⟩

theorem BufB.congr {w : World} {B g n cap : Nat} {f f' : Nat → Int} (h : BufB w B g n cap f) (hf : ∀ i, i < n → f i = f' i) : BufB w B g n cap f' :=
  ⟨h.lo, h.lt, h.nc, fun i hi => by rw [← hf i hi]; exact h.cell i hi, h.room⟩

theorem BufB.low {w : World} {B B' g n cap : Nat} {f : Nat → Int} (h : BufB w B g n cap f) (hB : B' ≤ g) : BufB w B' g n cap f := ⟨hB, h.lt, h.nc, h.cell, h.room⟩

/-- The bytes of a text in a new block. -/
theorem bytesBuf (s : ByteArray) (w : World) : ∃ cap w1, (convert 9 22 (.string s)).run Try.prog w = .ok (.slice (some ⟨w.heap.size, 0, none⟩) s.size cap) w1 ∧ BufB w1 w.heap.size w.heap.size s.size cap (byteAt s) ∧ Since w w1 := by
  refine ⟨_, _, run_bytes_of_string w 9 22 5 s Try.underlying9 Try.underlying22 Try.underlying5, ⟨Nat.le_refl _, ?_, grownCap_ge _ _ _ _, ?_, ?_⟩, ?_⟩
  · rw [World.size_alloc]
    exact Nat.lt_succ_self _
  · intro i hi
    refine (World.cell?_alloc_mark w.drew _ _ _ i).trans ?_
    rw [bytesRow_at s _ i hi, byteAt_in s i hi]
    rfl
  · intro i h1 h2
    have hge := grownCap_ge w s.size 0 5
    have hz : (bytesRow s (grownCap w s.size 0 5)).size = grownCap w s.size 0 5 := by
      simp only [bytesRow, Array.size_append, Array.size_map, Array.size_replicate]
      have : s.data.size = s.size := rfl
      omega
    constructor
    · have hc : (w.drew.alloc (.cells (bytesRow s (grownCap w s.size 0 5)) 5 ((bytesRow s (grownCap w s.size 0 5)).size, (bytesRow s (grownCap w s.size 0 5)).size + 1))).cell? ⟨w.heap.size, i, none⟩ = (bytesRow s (grownCap w s.size 0 5))[i]? := World.cell?_alloc_mark w.drew _ _ _ i
      rw [hc, Array.getElem?_eq_getElem (by rw [hz]; exact h2)]
      rfl
    · have hf := World.frozen?_alloc_mark w.drew (bytesRow s (grownCap w s.size 0 5)) 5 (bytesRow s (grownCap w s.size 0 5)).size ((bytesRow s (grownCap w s.size 0 5)).size + 1) i
      refine hf.trans ?_
      rw [hz]
      simp
      omega
  · exact ((Since.refl w).drew).alloc _

theorem run_append_buf (ty : TypeId) (w : World) {B g n cap : Nat} {f : Nat → Int} (T : BufB w B g n cap f) (hB : B ≤ w.heap.size) (hn : n ≤ 1073741824) {ad : Addr} {c : Nat} {x : Int} (hsrc : w.cell? ad = some (.int .u8 x)) :
    ∃ g' cap' w', (Builtin.append_ #[22, 22] ty #[.slice (some ⟨g, 0, none⟩) n cap, .slice (some ad) 1 c]).run Try.prog w = .ok (.slice (some ⟨g', 0, none⟩) (n + 1) cap') w' ∧ BufB w' B g' (n + 1) cap' (fun i => if i = n then x else f i) ∧ Touch g w w' ∧ (g' = g ∨ g' = w.heap.size) := by
  obtain ⟨ii, hi, hz0, hz1, hz2⟩ := info_parts info_B
  have hnews : ∀ j v, [Value.int .u8 x][j]? = some v → w.cell? (ad.add j) = some v := fun j v hj => by
    have hj0 : j = 0 := by
      rcases Nat.eq_zero_or_pos j with h | h
      · exact h
      · rw [List.getElem?_eq_none (by simp; omega)] at hj
        cases hj
    subst hj0
    have e : ad.add 0 = ad := by unfold Addr.add; simp
    rw [e, hsrc]
    simpa using hj
  by_cases hroom : n + 1 ≤ cap
  · have hf := run_firstCells_some (P := Try.prog) w ii.size 1 ad 1 c [.int .u8 x] (by rw [hz1]; rfl) hnews
    have hr := T.room n (Nat.le_refl _) (by omega)
    have hst := run_storeCells_cells (P := Try.prog) g n [.int .u8 x] 0 w (fun j hj => by have : j = 0 := (by simpa using hj); subst this; exact hr.1) (fun j hj => by have : j = 0 := (by simpa using hj); subst this; exact hr.2) (fun v hv => by simp at hv; subst hv; rfl)
    refine ⟨g, cap, w.setCell ⟨g, n, none⟩ (.int .u8 x), ?_, ?_, (Touch.refl g w).put n _, .inl rfl⟩
    · simp only [Nat.add_zero] at hst
      rw [hz1] at hf
      have hst' : (storeCells ⟨g, n, none⟩ [.int .u8 x] 0).run Try.prog w = .ok () (w.setCell ⟨g, n, none⟩ (.int .u8 x)) := hst
      simp [Builtin.append_, run_underlying Try.underlying22, sizeOf, typeInfo, hi, Builtin.lenOf, hroom, hf, Addr.add_lit, hz1, hst']
    · refine ⟨T.lo, ?_, hroom, fun i hi => ?_, fun i h1 h2 => ?_⟩
      · have := T.lt
        simpa [World.setCell] using this
      · by_cases e : i = n
        · subst e
          rw [if_pos rfl]
          obtain ⟨u, hu⟩ := Option.isSome_iff_exists.1 hr.1
          exact World.cell?_setCell_same' _ _ _ (by rw [hu]; rfl)
        · rw [if_neg e, World.cell?_setCell_other _ _ _ _ (by simp)]
          exact T.cell i (by omega)
      · rw [World.cell?_setCell_other _ _ _ _ (by simp), World.frozen?_setCell]
        exact T.room i (by omega) h2
  · have hcap : n = cap := by have := T.nc; omega
    subst hcap
    have hr := run_append_grow (P := Try.prog) w 22 ty 5 ii (.int .u8 0) Try.underlying22 hi hz0 ⟨g, 0, none⟩ n n (byteCells f n) (by rw [byteCells_len, hz1, Nat.mul_one]) (fun j v hj => by
      rw [byteCells_at] at hj
      split at hj
      · rename_i hlt
        rw [show (⟨g, 0, none⟩ : Addr).add j = ⟨g, j, none⟩ by unfold Addr.add; split <;> simp_all, T.cell j hlt, ← hj]
      · cases hj) ad 1 c [.int .u8 x] (by rw [hz1]; rfl) hnews (by omega) (by omega) (growslice_fits (by omega) (by rw [hz2]; omega))
    generalize hcp : grownCap w (n + 1) n 5 = cap' at hr
    have hge : n + 1 ≤ cap' := by rw [← hcp]; exact grownCap_ge _ _ _ _
    refine ⟨w.heap.size, cap', _, hr, ⟨hB, by rw [World.size_alloc]; exact Nat.lt_succ_self _, hge, fun i hi => ?_, fun i h1 h2 => ?_⟩, ?_, .inr rfl⟩
    · refine (World.cell?_alloc_mark w.drew _ _ _ i).trans ?_
      by_cases e : i = n
      · subst e
        rw [if_pos rfl]
        simp [Array.getElem?_append, byteCells_len]
      · rw [if_neg e]
        have hlt : i < (byteCells f n).toArray.size := by simp [byteCells_len]; omega
        rw [Array.append_assoc, Array.getElem?_append_left hlt, List.getElem?_toArray, byteCells_at, if_pos (by omega)]
    · constructor
      · have hc : (w.drew.alloc (.cells ((byteCells f n).toArray ++ [Value.int .u8 x].toArray ++ Builtin.zeroCells (Value.int .u8 0).cells (cap' - (n + 1))) 5)).cell? ⟨w.heap.size, i, none⟩ = ((byteCells f n).toArray ++ [Value.int .u8 x].toArray ++ Builtin.zeroCells (Value.int .u8 0).cells (cap' - (n + 1)))[i]? := World.cell?_alloc_mark w.drew _ _ _ i
        rw [hc, Array.getElem?_eq_getElem (by rw [Array.size_append, Array.size_append]; simp [byteCells_len, Builtin.zeroCells, show (Value.int .u8 0).cells.size = 1 from rfl]; omega)]
        rfl
      · exact World.frozen?_alloc_mark w.drew _ _ 0 0 i |>.trans (by simp)
    · exact Touch.of_since (((Since.refl w).drew).alloc _) g

/-- append of one byte. -/
theorem app_buf {ops : Array Oper} {rest : List Oper} {o : Oper} {a : Act} {Q : Exit → Act → World → Prop} {w : World} {B g n cap : Nat} {f : Nat → Int} {ad : Addr} {c : Nat} {x : Int} (hgd : o.guard = none) (s y : Operand)
    (ho : o.op = .call { callee := .builtin .append, args := #[s, y], argTypes := #[22, 22] }) (hs : a.eval s = .slice (some ⟨g, 0, none⟩) n cap) (T : BufB w B g n cap f) (hx : a.eval y = .slice (some ad) 1 c) (hsrc : w.cell? ad = some (.int .u8 x)) (hB : B ≤ w.heap.size) (hn : n ≤ 1073741824)
    (k : ∀ g' cap' w', BufB w' B g' (n + 1) cap' (fun i => if i = n then x else f i) → Touch g w w' → (g' = g ∨ g' = w.heap.size) → wpList Try.prog ops Q rest (a.put o.dst (.slice (some ⟨g', 0, none⟩) (n + 1) cap')) w') : wpList Try.prog ops Q (o :: rest) a w := by
  refine wpList_plain hgd fun K hK' => ?_
  obtain ⟨g', cap', w', hrun, T', t', hat⟩ := run_append_buf o.type w T hB hn (c := c) hsrc
  unfold Oper.wp
  simp [execOp, ho, resolve, invoke, builtin, hs, hx, hrun, Result.andThen]
  exact hK' _ _ (k g' cap' w' T' t' hat)
end Go.Proofs.Ytmgaikpninblgaa
