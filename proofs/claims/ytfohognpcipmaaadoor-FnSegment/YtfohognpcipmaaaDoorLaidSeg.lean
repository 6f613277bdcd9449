/-
  What the row of FnSegment lists of the tables gives: Itoa's powers of ten, and the letters of the flags.
-/
import Derived.Test.YtfohognpcipmaaaDoorImplText
import Derived.Test.YtfohognpcipmaaaDoorAgg
import Derived.Lib.LaidTab
namespace Go.Proofs.YtfohognpcipmaaaDoor
open Go.ChangeShapes Go.WideShapes Go.ChangeAt Go.RowKit
set_option linter.unusedVariables false

theorem letter_cells {H : Type} {enc : TypeId × Value → H} {w : World} {base : Nat} {sp : Nat → Bool} {held : Bool} {fuel : Nat} {cs : List Value} {z : Int} {c : UInt8} {x : DataW H × List MemPlace}
    (h : DataW.trod enc Tryd.prog w base sp held fuel 76 cs = some x) (hx : x.1 = .agg [.lit (.int .i64 z), .lit (.string [c])]) : cs = [.int .i64 z, .string ⟨#[c]⟩] := by
  obtain ⟨y0, y1, n, rfl, hl, h0, h1⟩ := trod_struct2 Tryd.underlying76 h
  rw [show Tryd.prog.cellsOf 76 = 2 by kernel_rfl] at hl
  obtain ⟨b0, b1, rfl⟩ := list2 hl
  obtain ⟨i, e0, rfl, _⟩ := DataW.trod_int Tryd.underlying3 h0
  obtain ⟨s, e1, rfl, _⟩ := DataW.trod_string Tryd.underlying9 h1
  rw [show Tryd.prog.cellsOf 3 = 1 by kernel_rfl] at e0
  rw [show Tryd.prog.cellsOf 9 = 1 by kernel_rfl] at e1
  simp at e0 e1 hx
  obtain ⟨rfl, hs⟩ := hx
  rw [e0, e1]
  obtain ⟨⟨l⟩⟩ := s
  simp at hs
  rw [hs]

theorem letters_cells {H : Type} {enc : TypeId × Value → H} {w : World} {base : Nat} {sp : Nat → Bool} {held : Bool} {fuel : Nat} {cs : List Value} {p : List MemPlace}
    (h : DataW.trod enc Tryd.prog w base sp held fuel 77 cs = some (Rows.laid_loop_example_g00107_impl_flagLetters, p)) : cs = [.int .i64 2, .string ⟨#[83]⟩, .int .i64 16, .string ⟨#[65]⟩, .int .i64 1, .string ⟨#[70]⟩, .int .i64 4, .string ⟨#[82]⟩, .int .i64 8, .string ⟨#[80]⟩] := by
  cases fuel with
  | zero => simp [DataW.trod] at h
  | succ fuel =>
    simp only [DataW.trod, Tryd.underlying77, show Tryd.prog.cellsOf 77 = 10 by kernel_rfl, show Tryd.prog.cellsOf 76 = 2 by kernel_rfl] at h
    split at h
    · rename_i hl
      obtain ⟨xs, hm, hx⟩ := Option.map_eq_some_iff.1 h
      have hxs := congrArg Prod.fst hx
      simp only [Rows.laid_loop_example_g00107_impl_flagLetters, DataW.agg.injEq] at hxs
      have at_ : ∀ (i : Nat) (hi : i < 5) (z : Int) (c : UInt8), (xs.map (·.1))[i]? = some (.agg [.lit (.int .i64 z), .lit (.string [c])]) → (cs.drop (i * 2)).take 2 = [.int .i64 z, .string ⟨#[c]⟩] := by
        intro i hi z c hz
        obtain ⟨b, hb, hf⟩ := Lib.mapM_at hm i i (by simp [hi])
        rw [List.getElem?_map, hb] at hz
        exact letter_cells hf (Option.some.inj hz)
      rw [hxs] at at_
      have t0 := at_ 0 (by omega) 2 83 rfl
      have t1 := at_ 1 (by omega) 16 65 rfl
      have t2 := at_ 2 (by omega) 1 70 rfl
      have t3 := at_ 3 (by omega) 4 82 rfl
      have t4 := at_ 4 (by omega) 8 80 rfl
      match cs, hl with
      | [b0, b1, b2, b3, b4, b5, b6, b7, b8, b9], _ =>
        simp at t0 t1 t2 t3 t4
        simp [t0, t1, t2, t3, t4]
    · cases h

theorem tab_lt {w : World} (h : Tab w) : 1 < w.heap.size := by
  unfold Tab Lib.TabIs World.var? at h
  rw [tab_at, Option.bind_some] at h
  cases e : w.heap[1]? with
  | none => rw [e] at h; cases h
  | some o => exact (Array.getElem?_eq_some_iff.1 e).1

theorem laid_tables {W : World} (h : laidMetH Tryd.prog Rows.fnSegmentRow.laid W) : Tab W ∧ Letters W := by
  have h' : laidMet Tryd.prog Rows.fnSegmentRow.laid W := h
  obtain ⟨ps, ⟨_, _, _, _, _, _, _, _, _, _, ⟨_, _, _, _, _, _, _, _, _, _, ⟨g2, t2, cs2, u2, p2, q2, hg2, ht2, hv2, hd2, ⟨g3, t3, cs3, u3, p3, q3, hg3, ht3, hv3, hd3, _, _⟩, _⟩, _⟩, _⟩, _⟩ := h'
  have hgt : Tryd.prog.globalNamed "internal/strconv.uint64pow10" = some 1 := by kernel_rfl
  have hgl : Tryd.prog.globalNamed "loop.example/g00107/impl.flagLetters" = some 0 := by kernel_rfl
  obtain rfl := Option.some.inj (hgt.symm.trans hg2)
  obtain rfl := Option.some.inj (hgl.symm.trans hg3)
  obtain rfl := Option.some.inj ((show (Tryd.prog.globals[1]?).map (·.type) = some 96 by kernel_rfl).symm.trans ht2)
  obtain rfl := Option.some.inj ((show (Tryd.prog.globals[0]?).map (·.type) = some 77 by kernel_rfl).symm.trans ht3)
  constructor
  · unfold Tab Lib.TabIs
    rw [hv2, ← Lib.cells_of_tab (zs := Lib.pow10Tab) (k := .u64) Tryd.underlying96 Tryd.underlying90 (by kernel_rfl) (by kernel_rfl) hd2]
  · have hc := letters_cells hd3
    have e : ∀ i : Nat, W.cell? ⟨0, i, none⟩ = cs3[i]? := fun i => World.var?_cell hgl hv3 i
    have e2 : cs3 = #[.int .i64 2, .string ⟨#[83]⟩, .int .i64 16, .string ⟨#[65]⟩, .int .i64 1, .string ⟨#[70]⟩, .int .i64 4, .string ⟨#[82]⟩, .int .i64 8, .string ⟨#[80]⟩] := by rw [← Array.toArray_toList (xs := cs3), hc]
    rw [e2] at e
    exact ⟨e 0, e 1, e 2, e 3, e 4, e 5, e 6, e 7, e 8, e 9⟩
end Go.Proofs.YtfohognpcipmaaaDoor
