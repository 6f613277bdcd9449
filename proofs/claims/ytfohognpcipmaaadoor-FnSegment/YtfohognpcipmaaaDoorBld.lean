/-
  Contracts of strings.Builder's copyCheck, Len, WriteByte and WriteString: a builder in a block below B whose bytes lie in rows from B on; nothing else below B turns.
-/
import Derived.Test.YtfohognpcipmaaaDoorPkt
import Derived.Lib.Builder
import Derived.Lib.AppendStr
import Derived.OwnWalk
namespace Go.Proofs.YtfohognpcipmaaaDoor
open Go.ChangeShapes Go.WideShapes Go.ChangeAt Go.RowKit
set_option linter.unusedVariables false

/-- Nothing below B but block b has turned. -/
structure KeptBut (B b : Nat) (w w' : World) : Prop where
  os : w'.os = w.os
  tape : w'.tape = w.tape
  output : w'.output = w.output
  size : w.heap.size ≤ w'.heap.size
  block : ∀ k, k < B → k ≠ b → w'.heap[k]? = w.heap[k]?

theorem KeptBut.refl (B b : Nat) (w : World) : KeptBut B b w w := ⟨rfl, rfl, rfl, Nat.le_refl _, fun _ _ _ => rfl⟩

theorem KeptBut.trans {B b : Nat} {x y z : World} (h : KeptBut B b x y) (k : KeptBut B b y z) : KeptBut B b x z :=
  ⟨k.os.trans h.os, k.tape.trans h.tape, k.output.trans h.output, Nat.le_trans h.size k.size, fun i hi hb => (k.block i hi hb).trans (h.block i hi hb)⟩

theorem KeptBut.put {B b : Nat} {x y : World} (h : KeptBut B b x y) (i : Nat) (v : Value) : KeptBut B b x (y.setCell ⟨b, i, none⟩ v) := by
  have hs := (Below.refl 0 y).setCell (p := ⟨b, i, none⟩) (Nat.zero_le _) v
  exact h.trans ⟨hs.os, hs.tape, hs.output, hs.size, fun k _ hb => Below.heap_setCell y ⟨b, i, none⟩ v k hb⟩

theorem KeptBut.alloc {B b : Nat} {x y : World} (h : KeptBut B b x y) (hB : B ≤ y.heap.size) (o : Obj) : KeptBut B b x (y.alloc o) := by
  have hs := (Below.refl y.heap.size y).alloc (Nat.le_refl _) o
  exact h.trans ⟨hs.os, hs.tape, hs.output, hs.size, fun k hk _ => hs.block k (by omega)⟩

theorem KeptBut.cell {B b : Nat} {w w' : World} (h : KeptBut B b w w') {p : Addr} (hp : p.block < B) (hb : p.block ≠ b) : w'.cell? p = w.cell? p := World.cell?_of_block (w := w) (h.block p.block hp hb)

/-- A builder in block b < B that holds these bytes, in rows from B on. -/
structure Bl (B b : Nat) (bs : List Value) (w : World) : Prop where
  lt : b < B
  le : B ≤ w.heap.size
  held : ∃ p v, w.heap[b]? = some (.cells #[p, v] 51 (0, 0)) ∧ (p = .pointer none ∨ p = .pointer (some ⟨b, 0, none⟩)) ∧ w.ownsRow B 5 1 v bs.length bs

theorem info_ptr : (Tryd.prog.info? 51).map (·.size) = some 2 := by kernel_rfl

theorem info_byte : (Tryd.prog.info? 5).map (fun i => (i.zero, i.size, i.bytes)) = some (some (.int .u8 0), 1, 1) := by kernel_rfl

theorem lies_builder : liesAt Tryd.prog Tryd.prog.depth 51 (2 / Tryd.prog.cellsOf 51) 0 51 1 = true := by kernel_rfl

theorem row_put {w : World} {B b i : Nat} {v x : Value} {n : Nat} {xs : List Value} {e : TypeId} (h : w.ownsRow B e 1 v n xs) (hb : b < B) : (w.setCell ⟨b, i, none⟩ x).ownsRow B e 1 v n xs := by
  refine ⟨h.1, ?_⟩
  rcases h.2 with hn | ⟨g, cap, cur, hv, hg, hh, rest⟩
  · exact .inl hn
  · exact .inr ⟨g, cap, cur, hv, hg, (Below.heap_setCell w ⟨b, i, none⟩ x g (by show g ≠ b; omega)).trans hh, rest⟩

set_option maxRecDepth 100000 in
theorem copyUsed (b : Nat) (w : World) (h : w.cell? ⟨b, 0, none⟩ = some (.pointer (some ⟨b, 0, none⟩))) :
    Calls Tryd.prog 48 #[.pointer (some ⟨b, 0, none⟩)] w fun e w' => e = .returned (.tuple #[]) ∧ w' = w := by
  obtain ⟨j, hj, _⟩ := Option.map_eq_some_iff.1 info_ptr
  go_enter Tryd.func48, Tryd.ntmps48
  go_wp2
  rw [Lib.run_neq_ptr_same w _ Tryd.underlying49 hj]
  go_wp2
  go_end0
  exact ⟨rfl, rfl⟩

set_option maxRecDepth 100000 in
theorem copyFresh (b : Nat) (w : World) (h : w.cell? ⟨b, 0, none⟩ = some (.pointer none)) (hf : w.frozen? ⟨b, 0, none⟩ = false) (hs : w.shape? b = some (51, 2)) :
    Calls Tryd.prog 48 #[.pointer (some ⟨b, 0, none⟩)] w fun e w' => e = .returned (.tuple #[]) ∧ w' = w.setCell ⟨b, 0, none⟩ (.pointer (some ⟨b, 0, none⟩)) := by
  obtain ⟨j, hj, hjs⟩ := Option.map_eq_some_iff.1 info_ptr
  go_enter Tryd.func48, Tryd.ntmps48
  go_wp2
  rw [Lib.run_to_unsafe w ⟨b, 0, none⟩ Tryd.underlying49 Tryd.underlying85 hj (by rw [hjs]; decide) hs (Nat.zero_lt_succ 1)]
  simp only [Result.andThen]
  rw [Oper.upon_value]
  go_wp2
  rw [run_callFunc_extern Tryd.func56 (by kernel_rfl) (by kernel_rfl) (by kernel_rfl) (e := Extern.AbiNoEscape.same) (by kernel_rfl)]
  rw [Lib.run_noEscape]
  simp only [Result.andThen]
  rw [Oper.upon_value]
  go_wp2
  rw [Lib.run_from_unsafe w ⟨b, 0, none⟩ Tryd.underlying85 Tryd.underlying49 hj hs lies_builder]
  simp only [Result.andThen]
  rw [Oper.upon_value]
  go_wp2
  go_end0
  exact ⟨rfl, rfl⟩

theorem copyB (B b : Nat) (bs : List Value) (w : World) (h : Bl B b bs w) :
    Calls Tryd.prog 48 #[.pointer (some ⟨b, 0, none⟩)] w fun e w' => e = .returned (.tuple #[]) ∧ B ≤ w'.heap.size ∧ KeptBut B b w w' ∧ ∃ v, w'.heap[b]? = some (.cells #[.pointer (some ⟨b, 0, none⟩), v] 51 (0, 0)) ∧ w'.ownsRow B 5 1 v bs.length bs := by
  obtain ⟨hlt, hle, p, v, hb, hp, hown⟩ := h
  rcases hp with rfl | rfl
  · refine (copyFresh b w (by rw [Lib.cell_of_heap hb]; rfl) (Lib.frozen_of_heap hb 0) (by simp [World.shape?, hb])).mono ?_
    rintro e w' ⟨rfl, rfl⟩
    have hs : (w.setCell ⟨b, 0, none⟩ (.pointer (some ⟨b, 0, none⟩))).heap[b]? = some (.cells #[.pointer (some ⟨b, 0, none⟩), v] 51 (0, 0)) := by
      simp [World.setCell, Array.getElem?_modify, hb]
    exact ⟨rfl, Nat.le_trans hle ((KeptBut.refl B b w).put 0 _).size, (KeptBut.refl B b w).put 0 _, v, hs, row_put hown hlt⟩
  · refine (copyUsed b w (by rw [Lib.cell_of_heap hb]; rfl)).mono ?_
    rintro e w' ⟨rfl, rfl⟩
    exact ⟨rfl, hle, KeptBut.refl _ _ _, v, hb, hown⟩

theorem grown_kept {B b : Nat} {w w' : World} {v : Value} {n : Nat} {xs : List Value} {e : TypeId} (hown : w.ownsRow B e 1 v n xs) (hg : w.grownBy w' v.ownBlock) (hB : B ≤ w.heap.size) : KeptBut B b w w' :=
  ⟨hg.os, hg.tape, hg.output, hg.size, fun k hk hb => hg.block k (by omega) (fun e1 => by have := (hown.lt k e1.symm).1; omega)⟩

theorem writeS (B b : Nat) (bs : List Value) (s : ByteArray) (w : World) (h : Bl B b bs w) (hlen : bs.length + s.size ≤ 140737488355328) :
    Calls Tryd.prog 30 #[.pointer (some ⟨b, 0, none⟩), .string s] w fun e w' => e = .returned (.tuple #[.int .i64 s.size, .nilIface]) ∧ Bl B b (bs ++ Lib.strCells s) w' ∧ KeptBut B b w w' := by
  obtain ⟨i0, hi, hz0, hz1, hz2⟩ := info_parts info_byte
  have hlt := h.lt
  have hcc := fun wx hx => copyB B b bs wx hx
  go_enter Tryd.func30, Tryd.ntmps30
  go_wp2_with (go_at_call 48; refine (hcc _ h).mono ?_)
  rintro e w1 ⟨rfl, hB1, k1, v, hb1, hown⟩
  have c1 : w1.cell? ⟨b, 1, none⟩ = some v := by rw [Lib.cell_of_heap hb1]; rfl
  clear hcc h
  go_wp2_with (at_builtin; refine Lib.wpList_append_own_string _ rfl _ _ 22 9 rfl B 5 i0 Tryd.underlying22 Tryd.underlying9 hi hz0 hz1 hz2 _ _ _ rfl hown s rfl ?c3 ?c4 ?c5 ?_)
  case c3 => unfold maxLen; omega
  case c4 => omega
  case c5 => exact hB1
  intro v' w2 hown' hgrow _
  have k2 := grown_kept (b := b) hown hgrow hB1
  have hb2 : w2.heap[b]? = some (.cells #[.pointer (some ⟨b, 0, none⟩), v] 51 (0, 0)) := by
    rw [hgrow.block b (by omega) (fun e1 => by have := (hown.lt b e1.symm).1; omega)]
    exact hb1
  have d1 : w2.cell? ⟨b, 1, none⟩ = some v := by rw [Lib.cell_of_heap hb2]; rfl
  have f1 : w2.frozen? ⟨b, 1, none⟩ = false := Lib.frozen_of_heap hb2 1
  obtain ⟨ao, n', cap, rfl⟩ : ∃ ao n' cap, v' = .slice ao n' cap := by
    rcases hown'.2 with ⟨hv, _⟩ | ⟨g, cap, cur, hv, _⟩
    · exact ⟨_, _, _, hv⟩
    · exact ⟨_, _, _, hv⟩
  go_wp2
  go_ret2
  have k3 := (k1.trans k2).put 1 (.slice ao n' cap)
  refine ⟨rfl, ⟨hlt, Nat.le_trans hB1 (Nat.le_trans k2.size ((KeptBut.refl B b w2).put 1 _).size), .pointer (some ⟨b, 0, none⟩), .slice ao n' cap, ?_, .inr rfl, ?_⟩, k3⟩
  · simp [World.setCell, Array.getElem?_modify, hb2]
  · exact row_put (by simpa [Lib.strCells_length] using hown') hlt

theorem writeB (B b : Nat) (bs : List Value) (c : Int) (w : World) (h : Bl B b bs w) (hlen : bs.length + 1 ≤ 140737488355328) :
    Calls Tryd.prog 29 #[.pointer (some ⟨b, 0, none⟩), .int .u8 c] w fun e w' => e = .returned .nilIface ∧ Bl B b (bs ++ [.int .u8 c]) w' ∧ KeptBut B b w w' := by
  obtain ⟨i0, hi, hz0, hz1, hz2⟩ := info_parts info_byte
  have hlt := h.lt
  have hcc := fun wx hx => copyB B b bs wx hx
  go_enter Tryd.func29, Tryd.ntmps29
  go_wp2_with (go_at_call 48; refine (hcc _ h).mono ?_)
  rintro e w1 ⟨rfl, hB1, k1, v, hb1, hown⟩
  have c1 : w1.cell? ⟨b, 1, none⟩ = some v := by rw [Lib.cell_of_heap hb1]; rfl
  clear hcc h
  go_wp2_with (at_builtin; refine wpList_append_own _ rfl _ _ 22 rfl B 5 i0 (.int .u8 0) 1 1 Tryd.underlying22 hi hz0 hz1 hz2 rfl (by decide) _ _ _ rfl (hown.alloc _) ⟨w1.heap.size, 0, none⟩ 1 1 [.int .u8 c] rfl rfl ?c1 ?c2 ?c3 ?c4 ?c5 ?_)
  case c1 =>
    intro k u hk
    match k, hk with
    | 0, hk => simp at hk; subst hk; simp [Addr.add]
  case c2 =>
    intro u hu
    simp at hu
    subst hu
    rfl
  case c3 => unfold maxLen; omega
  case c4 => omega
  case c5 => simp; omega
  intro v' w2 hown' hgrow _
  have k2 := (KeptBut.alloc (KeptBut.refl B b w1) hB1 _).trans (grown_kept (b := b) (hown.alloc (.cells #[.int .u8 c] 5)) hgrow (by simp; omega))
  have hb2 : w2.heap[b]? = some (.cells #[.pointer (some ⟨b, 0, none⟩), v] 51 (0, 0)) := by
    rw [hgrow.block b (by simp; omega) (fun e1 => by have := (hown.lt b e1.symm).1; omega)]
    rw [((Below.refl w1.heap.size w1).alloc (Nat.le_refl _) _).block b (by omega)]
    exact hb1
  have d1 : w2.cell? ⟨b, 1, none⟩ = some v := by rw [Lib.cell_of_heap hb2]; rfl
  have f1 : w2.frozen? ⟨b, 1, none⟩ = false := Lib.frozen_of_heap hb2 1
  obtain ⟨ao, n', cap, rfl⟩ : ∃ ao n' cap, v' = .slice ao n' cap := by
    rcases hown'.2 with ⟨hv, _⟩ | ⟨g, cap, cur, hv, _⟩
    · exact ⟨_, _, _, hv⟩
    · exact ⟨_, _, _, hv⟩
  go_wp2
  go_ret
  have k3 := (k1.trans k2).put 1 (.slice ao n' cap)
  refine ⟨rfl, ⟨hlt, Nat.le_trans hB1 (Nat.le_trans k2.size ((KeptBut.refl B b w2).put 1 _).size), .pointer (some ⟨b, 0, none⟩), .slice ao n' cap, ?_, .inr rfl, ?_⟩, k3⟩
  · simp [World.setCell, Array.getElem?_modify, hb2]
  · exact row_put (by simpa using hown') hlt

theorem lenB (B b : Nat) (bs : List Value) (w : World) (h : Bl B b bs w) (hl : bs.length ≤ 140737488355328) :
    Calls Tryd.prog 28 #[.pointer (some ⟨b, 0, none⟩)] w fun e w' => e = .returned (.int .i64 (bs.length : Int)) ∧ w = w' := by
  obtain ⟨hlt, hle, p, v, hb, hp, hown⟩ := h
  have c1 : w.cell? ⟨b, 1, none⟩ = some v := by rw [Lib.cell_of_heap hb]; rfl
  obtain ⟨ao, cap, rfl⟩ : ∃ ao cap, v = .slice ao bs.length cap := by
    rcases hown.2 with ⟨hv, h0⟩ | ⟨g, cap, cur, hv, _⟩
    · exact ⟨_, _, by rw [hv, h0]⟩
    · exact ⟨_, _, hv⟩
  go_enter Tryd.func28, Tryd.ntmps28
  go_wp2
  go_ret
  exact ⟨rfl, rfl⟩
end Go.Proofs.YtfohognpcipmaaaDoor
