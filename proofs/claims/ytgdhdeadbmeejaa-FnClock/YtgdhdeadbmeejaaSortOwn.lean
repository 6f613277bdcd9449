/-
  A list of our own, sorted by the library: what the sort's contracts ask, and what is there behind them.
-/
import Derived.Test.YtgdhdeadbmeejaaTimCmp
import Derived.Test.YtgdhdeadbmeejaaTimPure
import Derived.Test.YtgdhdeadbmeejaaShelf
namespace Go.Proofs.Ytgdhdeadbmeejaa
open Go.ChangeShapes Go.WideShapes Go.ChangeAt Go.RowKit Go.Deep Go.Sort Go.Shelf
set_option linter.unusedVariables false

theorem flatK_cells {α : Type} [Inhabited α] (S : Shape α) (ys : List α) : flatK S.enc S.k ys.toArray = (S.cells ys).toArray := by
  have hpos := S.pos
  apply Array.ext
  · simp [S.cells_len]
  · intro t h1 h2
    have ht : t < ys.length * S.k := by simpa using h1
    obtain ⟨i, j, hj, rfl⟩ : ∃ i j, j < S.k ∧ t = i * S.k + j := ⟨t / S.k, t % S.k, Nat.mod_lt _ hpos, by rw [Nat.mul_comm]; exact (Nat.div_add_mod t S.k).symm⟩
    have hi : i < ys.length := by
      rcases Nat.lt_or_ge i ys.length with h | h
      · exact h
      · have : ys.length * S.k ≤ i * S.k := Nat.mul_le_mul_right _ h
        omega
    have e1 : (i * S.k + j) / S.k = i := by rw [Nat.mul_comm, Nat.mul_add_div hpos, Nat.div_eq_of_lt hj, Nat.add_zero]
    have e2 : (i * S.k + j) % S.k = j := by rw [Nat.mul_comm, Nat.mul_add_mod, Nat.mod_eq_of_lt hj]
    have h3 := get_flatK S.enc S.k ys.toArray (i * S.k + j) (by simpa using ht)
    rw [e1, e2, getElem!_pos (flatK S.enc S.k ys.toArray) _ h1] at h3
    rw [h3]
    have h4 := S.cells_at ys i j hi hj
    have hl : i * S.k + j < (S.cells ys).length := by rw [S.cells_len]; exact ht
    rw [List.getElem?_eq_getElem hl, S.get_lt hi] at h4
    have h5 : (ys.toArray)[i]! = ys[i] := by simp [hi]
    rw [h5]
    have hj2 : j < (S.enc ys[i]).length := by rw [S.len]; exact hj
    rw [List.getElem?_eq_getElem hj2] at h4
    rw [getElem!_pos (S.enc ys[i]) _ hj2]
    simpa using (Option.some.inj h4).symm

theorem Held.holdsK {α : Type} [Inhabited α] {S : Shape α} {w : World} {B g n cap : Nat} {xs : List α} (h : Held S w B g n cap xs) : HoldsK S.enc S.k w g 0 xs.toArray := by
  intro t ht
  obtain ⟨cur, h3, h6, h4, h5, h7⟩ := h.heap
  refine ⟨?_, h.free _⟩
  rw [flatK_cells] at ht ⊢
  have ht' : t < (S.cells xs).length := by simpa using ht
  rw [Nat.zero_add, cell_of_row w g t cur _ _ h3, ← Array.getElem?_toList]
  have h8 : (cur.toList.take (n * S.k))[t]? = (S.cells xs)[t]? := by rw [h7]
  rw [List.getElem?_take_of_lt (by rw [S.cells_len, h.1] at ht'; exact ht')] at h8
  rw [h8]
  simp [ht']

theorem heap_sortedK {α : Type} [Inhabited α] {enc : α → Value} {w : World} {g m : Nat} {os : Array Obj} {cur : Array Value} {e : TypeId} {fr : Nat × Nat} (d : Array α) (hb : w.heap[g]? = some (.cells cur e fr)) :
    (grow (putRow enc (Sort.ahead w m) g 0 d) os).heap[g]? = some (.cells (Go.Sort.putCells enc 0 d cur) e fr) := by
  have hg : g < w.heap.size := (Array.getElem?_eq_some_iff.1 hb).1
  rw [heap_grow_old _ _ (by simpa using hg)]
  simp [putRow, mapBlock, Sort.ahead, Array.getElem?_modify, hb, onCells]

theorem grown_sortedK {α : Type} [Inhabited α] {enc : α → Value} {w : World} {g m : Nat} {os : Array Obj} (d : Array α) : w.grownBy (grow (putRow enc (Sort.ahead w m) g 0 d) os) (some g) := by
  refine ⟨rfl, rfl, rfl, by simp, fun k hk hne => ?_⟩
  rw [heap_grow_old _ _ (by simpa using hk)]
  have : g ≠ k := fun e => hne (by rw [e])
  simp [putRow, mapBlock, Sort.ahead, Array.getElem?_modify, this]

theorem Held.sorted {α : Type} [Inhabited α] {S : Shape α} {w : World} {B g n cap : Nat} {xs ys : List α} (h : Held S w B g n cap xs) (hl : ys.length = xs.length) (m : Nat) (os : Array Obj) : Held S (sortWorldK S.enc S.k w g 0 m ys.toArray os) B g n cap ys ∧ w.grownBy (sortWorldK S.enc S.k w g 0 m ys.toArray os) (some g) := by
  obtain ⟨cur, h3, h6, h4, h5, h7⟩ := h.heap
  have hn : xs.length = n := h.1
  refine ⟨?_, grown_sortedK _⟩
  refine Held.mk' (hl.trans hn) h.low' (heap_sortedK _ h3) h4 h5 (by simp [Go.Sort.putCells, h6]) ?_
  rw [flatK_cells]
  have hcl : (S.cells ys).length = n * S.k := by rw [S.cells_len, hl, hn]
  have hcap : n * S.k ≤ cap * S.k := Nat.mul_le_mul_right _ h4
  apply List.ext_getElem?
  intro j
  by_cases hj : j < n * S.k
  · rw [List.getElem?_take_of_lt hj, Array.getElem?_toList]
    simp [Go.Sort.putCells, hcl, hj, show j < cur.size by omega]
  · rw [List.getElem?_take_eq_none (by omega), List.getElem?_eq_none (by omega)]

theorem Held.holdsI {w : World} {B g n cap : Nat} {xs : List Int} (h : Held shI w B g n cap xs) : Holds (Value.int .i64) w g 0 xs.toArray := by
  intro t ht
  have ht' : t < xs.length := by simpa using ht
  refine ⟨?_, h.free _⟩
  rw [Nat.zero_add, h.num t (by rw [← h.1]; exact ht')]
  simp [iAt, ht']

theorem Held.sortedI {w : World} {B g n cap : Nat} {xs ys : List Int} (h : Held shI w B g n cap xs) (hl : ys.length = xs.length) (m : Nat) (os : Array Obj) : Held shI (grow (putRow (Value.int .i64) (Sort.ahead w m) g 0 ys.toArray) os) B g n cap ys ∧ w.grownBy (grow (putRow (Value.int .i64) (Sort.ahead w m) g 0 ys.toArray) os) (some g) := by
  obtain ⟨cur, h3, h6, h4, h5, h7⟩ := h.heap
  have hn : xs.length = n := h.1
  refine ⟨?_, grown_sortedK _⟩
  refine Held.mk' (hl.trans hn) h.low' (heap_sortedK _ h3) h4 h5 (by simp [Go.Sort.putCells, h6]) ?_
  have hk : shI.k = 1 := rfl
  have hcl : shI.cells ys = ys.map (Value.int .i64) := by
    clear hl h
    induction ys with
    | nil => rfl
    | cons a r ih =>
      have : shI.cells (a :: r) = Value.int .i64 a :: shI.cells r := rfl
      rw [this, ih, List.map_cons]
  rw [hk] at h6
  rw [hcl, hk, Nat.mul_one]
  apply List.ext_getElem?
  intro j
  by_cases hj : j < n
  · rw [List.getElem?_take_of_lt hj, Array.getElem?_toList]
    simp [Go.Sort.putCells, show j < ys.length by omega, show j < cur.size by omega]
  · rw [List.getElem?_take_eq_none (by omega), List.getElem?_eq_none (by simp; omega)]

theorem touch_grown {g : Nat} {w w' : World} (h : w.grownBy w' (some g)) : Touch g w w' := ⟨h.os, h.tape, h.output, h.size, fun k hk hne => h.block k hk (fun e => hne (by simpa using e))⟩

theorem sortTims (B g n cap : Nat) (us ts : List (Int × Int)) (w : World) (T : Held shT w B g n cap us) (hr : ts.Pairwise aheadT) (p : us.Perm ts) (hn : n ≤ 1000000) :
    Calls Try.prog 41 #[.slice (some ⟨g, 0, none⟩) n cap, .func (.func 27) #[] #[]] w fun e w' => e = .returned (.tuple #[]) ∧ Held shT w' B g n cap ts ∧ Touch g w w' := by
  have eg : ∀ args w, (callFunc 27 args).run Try.prog w = .ok (.enter 27 args) w := enters_of Try.func27 (by kernel_rfl) rfl
  have hc : CmpLays Try.prog 27 #[] shT.enc shT.k cmpT g 0 us.toArray.size w := fun _ _ _ _ x y => compareTimers x y _
  have hcon := AnyQ.slices_SortFunc_total Try.laysSortTims shT.k Try.isAgg47 Try.sizeOf47 shT.enc shT.len shT.one cmpT swoT 27 #[] g 0 cap us.toArray w eg hc T.holdsK T.lt (by have := T.1; simp; omega) totT
  have hz : us.toArray.size = n := by simp [T.1]
  rw [hz] at hcon
  refine hcon.mono ?_
  rintro e w' ⟨rfl, m, os, rfl⟩
  rw [show us.toArray.toList = us by simp, sorted_is hr p]
  obtain ⟨h1, h2⟩ := T.sorted (ys := ts) p.length_eq.symm m os
  exact ⟨rfl, h1, touch_grown h2⟩

theorem sortInts (B g n cap : Nat) (zs : List Int) (w : World) (T : Held shI w B g n cap zs) (hn : n ≤ 1000000) :
    Calls Try.prog 48 #[.slice (some ⟨g, 0, none⟩) n cap] w fun e w' => e = .returned (.tuple #[]) ∧ Held shI w' B g n cap (zs.mergeSort fun x y => decide (x ≤ y)) ∧ Touch g w w' := by
  have hcon := AnyM.slices_Sort_int Try.laysSortInts g 0 cap zs w T.holdsI T.lt (by have := T.1; omega)
  rw [T.1] at hcon
  refine hcon.mono ?_
  rintro e w' ⟨rfl, m, os, rfl⟩
  obtain ⟨h1, h2⟩ := T.sortedI (ys := zs.mergeSort fun x y => decide (x ≤ y)) (by simp) m os
  exact ⟨rfl, h1, touch_grown h2⟩
end Go.Proofs.Ytgdhdeadbmeejaa
