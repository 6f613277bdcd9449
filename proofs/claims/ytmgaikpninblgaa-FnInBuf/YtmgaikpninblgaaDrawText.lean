/-
  The draw of a text: l01Text comes to its end with a text of just the length asked for, whatever the bytes.
-/
import Derived.Test.YtmgaikpninblgaaDrawAt
import Derived.Laws.BytesArg
import Derived.OwnWalk
import Derived.RangeFuncBox
namespace Go.Proofs.Ytmgaikpninblgaa
open Go.ChangeShapes Go.WideShapes Go.ChangeAt Go.RowKit
set_option linter.unusedVariables false

theorem info_u8 : (Try.prog.info? 5).map (fun i => (i.zero, i.size, i.bytes)) = some (some (.int .u8 0), 1, 1) := by kernel_rfl

/-- A text under way: c numbers were mixed in since (i0, h0); the slice owns m bytes. -/
structure TS (w0 wT : World) (g : Nat) (a : Option Addr) (len cap : Nat) (zs : List Int) (i0 : Nat) (h0 : Int) (c gb cb m : Nat) (w : World) : Prop where
  cur : ∃ i h, CurAt w0 wT g a len cap zs i h w ∧ Ran len i0 h0 c i h
  early : g < wT.heap.size
  row : ∃ xs : List Int, (∀ x ∈ xs, 0 ≤ x ∧ x < 256) ∧ w.ownsRow wT.heap.size 5 1 (.slice (some ⟨gb, 0, none⟩) m cb) m (xs.map (Value.int .u8))

theorem Touch.grownBy {g : Nat} {w w' : World} (h : Touch g w w') : w.grownBy w' (some g) :=
  ⟨h.os, h.tape, h.output, h.size, fun k hk hne => h.block k hk (fun e => hne (by rw [e]))⟩

theorem row_touch {wT w w' : World} {g gb cb m : Nat} (he : g < wT.heap.size) (ht : Touch g w w') (h : ∃ xs : List Int, (∀ x ∈ xs, 0 ≤ x ∧ x < 256) ∧ w.ownsRow wT.heap.size 5 1 (.slice (some ⟨gb, 0, none⟩) m cb) m (xs.map (Value.int .u8))) :
    ∃ xs : List Int, (∀ x ∈ xs, 0 ≤ x ∧ x < 256) ∧ w'.ownsRow wT.heap.size 5 1 (.slice (some ⟨gb, 0, none⟩) m cb) m (xs.map (Value.int .u8)) := by
  obtain ⟨xs, h1, h2⟩ := h
  refine ⟨xs, h1, h2.kept ht.grownBy (.inr ?_)⟩
  have := h2.lt gb rfl
  simp [Value.ownBlock]
  omega

section
variable {w0 wT : World} {g : Nat} {a : Option Addr} {len cap : Nat} {zs : List Int} {i0 : Nat} {h0 : Int} {c gb cb m : Nat}

theorem TS.below (n : Int) (hn : 0 < n) (hn2 : n ≤ 256) (w : World) (h : TS w0 wT g a len cap zs i0 h0 c gb cb m w) :
    Calls Try.prog 24 #[.pointer (some ⟨g, 0, none⟩), .int .i64 n] w fun e w' => ∃ r : Int, e = .returned (.int .i64 r) ∧ 0 ≤ r ∧ r < n ∧ (c = 0 → i0 = len → r = byteOf (nextH h0) % n) ∧ TS w0 wT g a len cap zs i0 h0 (c + 1) gb cb m w' := by
  obtain ⟨⟨i, hh, hc, hr⟩, he, hrow⟩ := h
  refine (below256 n hn hn2 i hh w hc).mono ?_
  rintro e w' ⟨r, i', rfl, h1, h2, h3, h4, h5, hc', ht⟩
  refine ⟨r, rfl, h1, h2, ?_, ⟨i', _, hc', hr.next h4 h5⟩, he, row_touch he ht hrow⟩
  rintro rfl rfl
  obtain ⟨r1, r2, r3⟩ := hr
  have hle := hc.cells.le
  have e1 : hh = h0 := r2
  subst e1
  exact h3 (by omega)

theorem notGood {len i : Nat} {h r : Int} (hr : i = len → r = byteOf (nextH h) % 5) : (r = 1 ∨ r = 2) → i = len → 6 < left h := by
  intro h12 hi
  have e := hr hi
  rcases Nat.lt_or_ge 6 (left h) with hl | hl
  · exact hl
  · have := good h hl
    omega

theorem TS.draw (n : Int) (hn : 0 < n) (hn2 : n ≤ 256) (w : World) (h : TS w0 wT g a len cap zs i0 h0 c gb cb m w) :
    Calls Try.prog 24 #[.pointer (some ⟨g, 0, none⟩), .int .i64 n] w fun e w' => ∃ r : Int, e = .returned (.int .i64 r) ∧ 0 ≤ r ∧ r < n ∧ Hid (c = 0 → n = 5 → (r = 1 ∨ r = 2) → i0 = len → 6 < left h0) ∧ TS w0 wT g a len cap zs i0 h0 (c + 1) gb cb m w' := by
  refine (TS.below n hn hn2 w h).mono ?_
  rintro e w' ⟨r, rfl, h1, h2, h3, h4⟩
  refine ⟨r, rfl, h1, h2, ?_, h4⟩
  rintro rfl rfl
  exact notGood (h3 rfl)

theorem TS.great (n : Int) (hn2 : 256 < n) (w : World) (h : TS w0 wT g a len cap zs i0 h0 c gb cb m w) :
    Calls Try.prog 24 #[.pointer (some ⟨g, 0, none⟩), .int .i64 n] w fun e w' => ∃ r : Int, e = .returned (.int .i64 r) ∧ 0 ≤ r ∧ r < n ∧ TS w0 wT g a len cap zs i0 h0 (c + 4) gb cb m w' := by
  obtain ⟨⟨i, hh, hc, hr⟩, he, hrow⟩ := h
  refine (belowGreat n hn2 i hh w hc).mono ?_
  rintro e w' ⟨r, i', rfl, h1, h2, h4, h5, hc', ht⟩
  refine ⟨r, rfl, h1, h2, ⟨i', _, hc', ?_⟩, he, row_touch he ht hrow⟩
  obtain ⟨r1, rfl, r3⟩ := hr
  refine ⟨by omega, ?_, by omega⟩
  rw [iter_add]

theorem TS.any (n : Int) (hn : 0 < n) (w : World) (h : TS w0 wT g a len cap zs i0 h0 c gb cb m w) :
    Calls Try.prog 24 #[.pointer (some ⟨g, 0, none⟩), .int .i64 n] w fun e w' => ∃ (r : Int) (d : Nat), e = .returned (.int .i64 r) ∧ 0 ≤ r ∧ r < n ∧ 1 ≤ d ∧ d ≤ 4 ∧ TS w0 wT g a len cap zs i0 h0 (c + d) gb cb m w' := by
  by_cases hn2 : n ≤ 256
  · refine (TS.below n hn hn2 w h).mono ?_
    rintro e w' ⟨r, rfl, h1, h2, h3, h4⟩
    exact ⟨r, 1, rfl, h1, h2, by omega, by omega, h4⟩
  · refine (TS.great n (by omega) w h).mono ?_
    rintro e w' ⟨r, rfl, h1, h2, h4⟩
    exact ⟨r, 4, rfl, h1, h2, by omega, by omega, h4⟩

theorem TS.byte (w : World) (h : TS w0 wT g a len cap zs i0 h0 c gb cb m w) :
    Calls Try.prog 50 #[.pointer (some ⟨g, 0, none⟩)] w fun e w' => ∃ r : Int, e = .returned (.int .i64 r) ∧ 0 ≤ r ∧ r < 256 ∧ TS w0 wT g a len cap zs i0 h0 (c + 1) gb cb m w' := by
  obtain ⟨⟨i, hh, hc, hr⟩, he, hrow⟩ := h
  refine (byteNow i hh w hc).mono ?_
  rintro e w' ⟨r, i', rfl, h1, h2, h3, h4, h5, hc', ht⟩
  exact ⟨r, rfl, h1, h2, ⟨i', _, hc', hr.next h4 h5⟩, he, row_touch he ht hrow⟩

theorem cur_grown {w w' : World} {i : Nat} {h : Int} {row : Option Nat} (he : g < wT.heap.size) (hc : CurAt w0 wT g a len cap zs i h w) (hg : w.grownBy w' row) (hr : ∀ k, row = some k → wT.heap.size ≤ k) : CurAt w0 wT g a len cap zs i h w' := by
  have hsz := hc.touch.size
  have hb : ∀ k, k < wT.heap.size → w'.heap[k]? = w.heap[k]? := fun k hk => hg.block k (by omega) (fun e => by have := hr k e.symm; omega)
  have hlow := hc.low
  have hcc : ∀ j, w'.cell? ⟨g, j, none⟩ = w.cell? ⟨g, j, none⟩ := fun j => World.cell?_of_block (hb g he)
  have hff : ∀ j, w'.frozen? ⟨g, j, none⟩ = w.frozen? ⟨g, j, none⟩ := fun j => World.frozen?_of_block (hb g he)
  refine ⟨hc.bytes, hc.most, ⟨hg.os.trans hc.bel.os, hg.tape.trans hc.bel.tape, hg.output.trans hc.bel.output, Nat.le_trans hc.bel.size hg.size, fun k hk => (hb k (by omega)).trans (hc.bel.block k hk)⟩, hc.low, Nat.lt_of_lt_of_le hc.here hg.size,
    ⟨hg.os.trans hc.touch.os, hg.tape.trans hc.touch.tape, hg.output.trans hc.touch.output, Nat.le_trans hsz hg.size, fun k hk hkg => (hb k hk).trans (hc.touch.block k hk hkg)⟩, hc.cells.le, ?_, ?_, ?_, ?_, ?_⟩
  · rw [hcc]; exact hc.cells.c0
  · rw [hcc]; exact hc.cells.c1
  · rw [hcc]; exact hc.cells.c2
  · rw [hff]; exact hc.cells.f1
  · rw [hff]; exact hc.cells.f2

theorem TS.append {ops : Array Oper} {rest : List Oper} {o : Oper} {act : Act} {Q : Exit → Act → World → Prop} (hgd : o.guard = none) (s x : Operand)
    (ho : o.op = .call { callee := .builtin .append, args := #[s, x], argTypes := #[22, 22] }) (w : World) (hs : act.eval s = .slice (some ⟨gb, 0, none⟩) m cb) (y : Int) (hy : 0 ≤ y ∧ y < 256) (hm : m ≤ 1000000)
    (hx : act.eval x = .slice (some ⟨w.heap.size, 0, none⟩) 1 1) (h : TS w0 wT g a len cap zs i0 h0 c gb cb m w)
    (k : ∀ gb' cb' w', TS w0 wT g a len cap zs i0 h0 c gb' cb' (m + 1) w' → wpList Try.prog ops Q rest (act.put o.dst (.slice (some ⟨gb', 0, none⟩) (m + 1) cb')) w') :
    wpList Try.prog ops Q (o :: rest) act (w.alloc (.cells #[.int .u8 y] 5)) := by
  obtain ⟨ii, hi, hz0, hz1, hz2⟩ := info_parts info_u8
  obtain ⟨⟨i, hh, hc, hr⟩, he, xs, hxs, hown⟩ := h
  have hsz := hc.touch.size
  refine wpList_append_own _ hgd s x 22 ho wT.heap.size 5 ii (.int .u8 0) 1 1 Try.underlying22 hi hz0 hz1 hz2 rfl (by decide) _ m _ hs (hown.alloc _) ⟨w.heap.size, 0, none⟩ 1 1 [.int .u8 y] hx rfl ?_ ?_ (by unfold maxLen; omega) (by omega) (by simp; omega) ?_
  · intro j u hj
    match j, hj with
    | 0, hj => simp at hj; subst hj; simp [Addr.add]
  · intro u hu
    simp at hu
    subst hu
    rfl
  · intro v' w' hown' hgrow _
    obtain ⟨g', cap', rfl⟩ := ownsRow_succ hown'
    refine k g' cap' w' ⟨⟨i, hh, ?_, hr⟩, he, xs ++ [y], ?_, by simpa using hown'⟩
    · exact cur_grown he (cur_grown (row := none) he hc (World.grownBy_alloc w _ none) (fun k e => by cases e)) hgrow (fun k e => by
        simp [Value.ownBlock] at e
        subst e
        exact (hown.lt gb rfl).1)
    · intro z hz
      rcases List.mem_append.1 hz with hz | hz
      · exact hxs z hz
      · simp at hz
        subst hz
        exact hy

theorem TS.cellAt {w : World} (h : TS w0 wT g a len cap zs i0 h0 c gb cb m w) (j : Nat) (hj : j < m) : ∃ x : Int, w.cell? ⟨gb, j, none⟩ = some (.int .u8 x) ∧ 0 ≤ x ∧ x < 256 := by
  obtain ⟨_, _, xs, hxs, hown⟩ := h
  have hl : xs.length = m := by
    have := hown.1
    simpa using this
  have hc := hown.cells (g := gb) rfl j (.int .u8 xs[j]) (by simp [hl, hj])
  rw [show (⟨gb, 0, none⟩ : Addr).add j = ⟨gb, j, none⟩ by simp [Addr.add]; omega] at hc
  exact ⟨xs[j], hc, hxs _ (List.getElem_mem _)⟩

theorem TS.le_cap {w : World} (h : TS w0 wT g a len cap zs i0 h0 c gb cb m w) : m ≤ cb := by
  obtain ⟨_, _, xs, hxs, hown⟩ := h
  rcases hown.2 with ⟨h1, _⟩ | ⟨g', cap', cur, h1, _, _, h2, _⟩
  · simp at h1
  · simp at h1
    omega

theorem TS.text {w : World} (h : TS w0 wT g a len cap zs i0 h0 c gb cb m w) (n cap' : Nat) (hn : n ≤ m) : ∃ t : ByteArray, t.size = n ∧ (convert 22 9 (.slice (some ⟨gb, 0, none⟩) n cap')).run Try.prog w = .ok (.string t) w := by
  obtain ⟨_, _, xs, hxs, hown⟩ := h
  have hl : xs.length = m := by
    have := hown.1
    simpa using this
  refine ⟨strOfNums (xs.take n), by rw [strOfNums_size]; simp; omega, run_convert_bytes_arg _ 22 5 Try.underlying22 Try.underlying5 gb 0 n cap' _ (by simp; omega) ?_ 9 Try.underlying9⟩
  intro i hi
  have hc := hown.cells (g := gb) rfl i (.int .u8 (xs[i]'(by omega))) (by simp)
  rw [show (⟨gb, 0, none⟩ : Addr).add i = ⟨gb, i, none⟩ by simp [Addr.add]; omega] at hc
  rw [Nat.zero_add, hc]
  simp [List.getD, hi, List.getElem?_eq_getElem (show i < xs.length by omega)]

theorem TS.again {w : World} (h : TS w0 wT g a len cap zs i0 h0 c gb cb m w) : ∃ i hh, TS w0 wT g a len cap zs i hh 0 gb cb m w ∧ Ran len i0 h0 c i hh ∧ CellsAt w g a len cap i hh := by
  obtain ⟨⟨i, hh, hc, hr⟩, he, hrow⟩ := h
  exact ⟨i, hh, ⟨⟨i, hh, hc, Nat.le_refl _, rfl, by omega⟩, he, hrow⟩, hr, hc.cells⟩

theorem TS.cur_ {w : World} (h : TS w0 wT g a len cap zs i0 h0 c gb cb m w) : Cur w0 wT g a len cap zs w := by
  obtain ⟨⟨i, hh, hc, hr⟩, _⟩ := h
  exact hc.cur
end

def lenOf : Value → Nat
  | .slice _ m _ => m
  | _ => 0

def numAt (w : World) (p : Addr) : Int :=
  match w.cell? p with
  | some (.int _ i) => i
  | _ => 0

/-- A measure of what is left to do. -/
def textLeft (n len g : Nat) (v : Value) (w : World) : Nat :=
  (n - lenOf v) * 19342831557926525154164609 + (len - (numAt w ⟨g, 1, none⟩).toNat) * 18446744073709551617 + left (numAt w ⟨g, 2, none⟩)

theorem textLeft_at {w : World} {g : Nat} {a : Option Addr} {len cap i : Nat} {h : Int} (hc : CellsAt w g a len cap i h) (n m c : Nat) (p : Option Addr) :
    textLeft n len g (.slice p m c) w = (n - m) * 19342831557926525154164609 + (len - i) * 18446744073709551617 + left h := by
  simp [textLeft, lenOf, numAt, hc.c1, hc.c2]

theorem textLess {n m m' len i i' c : Nat} {h h' : Int} (hi : i' ≤ len) (hl : len ≤ 1048576) (hr : Ran len i h c i' h') (hc : 1 ≤ c ∧ c ≤ 6) (hm : m < n) (hp : m < m' ∨ (m' = m ∧ (i = len → 6 < left h))) :
    (n - m') * 19342831557926525154164609 + (len - i') * 18446744073709551617 + left h' < (n - m) * 19342831557926525154164609 + (len - i) * 18446744073709551617 + left h := by
  obtain ⟨r1, rfl, r3⟩ := hr
  obtain ⟨s1, s2, s3, s4⟩ := left_spec h
  obtain ⟨t1, t2, t3, t4⟩ := left_spec (iter nextH c h)
  have hit := left_iter h c
  generalize left (iter nextH c h) = L' at *
  generalize left h = L at *
  clear s3 s4 t3 t4
  rcases hp with hp | ⟨rfl, hp⟩
  · omega
  · by_cases hlt : i < len
    · have := r3 (by omega) hlt
      omega
    · have := hp (by omega)
      have := hit (by omega)
      omega

theorem TS.close {w0 wT : World} {g : Nat} {a : Option Addr} {len cap : Nat} {zs : List Int} {i : Nat} {h : Int} {c gb cb m gb' cb' m' n : Nat} {wr w' : World} (hlt : m < n) (hcells : CellsAt wr g a len cap i h)
    (hts : TS w0 wT g a len cap zs i h c gb' cb' m' w') (hc : 1 ≤ c ∧ c ≤ 6) (hm : m' ≤ n + 20) (hp : m < m' ∨ (m' = m ∧ (i = len → 6 < left h))) :
    (∃ (gb cb m i : Nat) (h : Int), Value.slice (some ⟨gb', 0, none⟩) m' cb' = .slice (some ⟨gb, 0, none⟩) m cb ∧ m ≤ n + 20 ∧ CellsAt w' g a len cap i h ∧ TS w0 wT g a len cap zs i h 0 gb cb m w') ∧
      textLeft n len g (.slice (some ⟨gb', 0, none⟩) m' cb') w' < textLeft n len g (.slice (some ⟨gb, 0, none⟩) m cb) wr := by
  obtain ⟨i', h', ht, hr, hcs⟩ := hts.again
  refine ⟨⟨gb', cb', m', i', h', rfl, hm, hcs, ht⟩, ?_⟩
  rw [textLeft_at hcs, textLeft_at hcells]
  obtain ⟨⟨_, _, hcur, _⟩, _⟩ := hts
  exact textLess hcs.le hcur.most hr hc hlt hp
end Go.Proofs.Ytmgaikpninblgaa
