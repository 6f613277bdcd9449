/-
  Contracts of the closures of impl's SegText: one word behind the others with a blank between two; a number as a word.
-/
import Derived.Test.YtfohognpcipmaaaDoorBld
import Derived.Test.YtfohognpcipmaaaDoorDec
import Derived.Test.YtfohognpcipmaaaDoorShelf
import Derived.Test.YtfohognpcipmaaaDoorDrawnTail
import Derived.Lib.AppendIntMem
import Derived.Laws.EntriesVeiled
namespace Go.Proofs.YtfohognpcipmaaaDoor
open Go.ChangeShapes Go.WideShapes Go.ChangeAt Go.RowKit
set_option linter.unusedVariables false

/-- A text with a word behind it. -/
def told (t word : ByteArray) : ByteArray := if t.size = 0 then word else t ++ ⟨#[32]⟩ ++ word

theorem strCells_app (a b : ByteArray) : Lib.strCells (a ++ b) = Lib.strCells a ++ Lib.strCells b := by
  simp [Lib.strCells, ByteArray.data_append]

theorem tell (B b : Nat) (t word : ByteArray) (w : World) (h : Bl B b (Lib.strCells t) w) (hl : t.size + word.size ≤ 100000000000) :
    Calls Tryd.prog 27 #[.string word, .pointer (some ⟨b, 0, none⟩)] w fun e w' => e = .returned (.tuple #[]) ∧ Bl B b (Lib.strCells (told t word)) w' ∧ KeptBut B b w w' := by
  have hlen := Lib.strCells_length t
  have hL := fun wx hx => lenB B b (Lib.strCells t) wx hx (by omega)
  unfold told
  by_cases h0 : t.size = 0
  · rw [if_pos h0]
    have hT : Lib.strCells t = [] := List.length_eq_zero_iff.1 (by omega)
    rw [hT] at h hL
    have hS := fun wx hx => writeS B b [] word wx hx (by simp; omega)
    go_enter Tryd.func27, Tryd.ntmps27
    go_wp2_with (first | (go_at_call 28; refine (hL _ h).mono ?_; rintro _ _ ⟨rfl, rfl⟩) | (go_at_call 30; refine (hS _ h).mono ?_; rintro _ w2 ⟨rfl, h2, k2⟩))
    go_end0
    exact ⟨rfl, by simpa using h2, k2⟩
  · rw [if_neg h0]
    have hgt : (0 : Int) < ((Lib.strCells t).length : Int) := by omega
    have hB := fun wx hx => writeB B b (Lib.strCells t) 32 wx hx (by omega)
    have hS := fun wx hx => writeS B b (Lib.strCells t ++ [.int .u8 32]) word wx hx (by simp; omega)
    go_enter Tryd.func27, Tryd.ntmps27
    go_wp2_with (first | (go_at_call 28; refine (hL _ h).mono ?_; rintro _ _ ⟨rfl, rfl⟩) | (go_at_call 29; refine (hB _ h).mono ?_; rintro _ w1 ⟨rfl, h1, k1⟩) | (go_at_call 30; refine (hS _ h1).mono ?_; rintro _ w2 ⟨rfl, h2, k2⟩))
    go_end0
    refine ⟨rfl, ?_, k1.trans k2⟩
    rw [strCells_app, strCells_app]
    exact h2

/-- The table that Itoa reads. -/
def Tab (w : World) : Prop := Lib.TabIs Tryd.prog w "internal/strconv.uint64pow10" .u64 Lib.pow10Tab

theorem tab_at : Tryd.prog.globalNamed "internal/strconv.uint64pow10" = some 1 := by kernel_rfl

theorem tab_kept {w w' : World} (h : Tab w) (k : w'.heap[1]? = w.heap[1]?) : Tab w' := by
  unfold Tab Lib.TabIs World.var? at *
  rw [tab_at] at h ⊢
  simp only [Option.bind_some, k] at h ⊢
  exact h

theorem Bl.since {B b : Nat} {bs : List Value} {w w' : World} (h : Bl B b bs w) (k : Since w w') : Bl B b bs w' := by
  obtain ⟨hlt, hle, p, v, hb, hp, hown⟩ := h
  refine ⟨hlt, Nat.le_trans hle k.le, p, v, (Below.block k b (by omega)).trans hb, hp, hown.1, ?_⟩
  rcases hown.2 with hn | ⟨g, cap, cur, hv, hg, hh, rest⟩
  · exact .inl hn
  · exact .inr ⟨g, cap, cur, hv, hg, (Below.block k g (Array.getElem?_eq_some_iff.1 hh).1).trans hh, rest⟩

theorem KeptBut.since {B b : Nat} {x y z : World} (h : KeptBut B b x y) (k : Since y z) (hB : B ≤ y.heap.size) : KeptBut B b x z :=
  h.trans ⟨k.os, k.tape, k.output, k.size, fun i hi _ => k.block i (by omega)⟩

theorem itoa (n : Int) (h0 : 0 ≤ n) (h1 : n ≤ 4294967295) (w : World) (ht : Tab w) :
    Calls Tryd.prog 32 #[.int .i64 n] w fun e w' => e = .returned (.string (decT n)) ∧ Since w w' :=
  (Tryd.strconv_Itoa n (by omega) (by omega) w ht).mono fun e w' ⟨he, k, os, hw⟩ => ⟨he, by rw [hw]; exact Lib.below_grow w.heap.size w (Nat.le_refl _) k os⟩

/-- tell as a value. -/
def tellF (b : Nat) : Value := .func (.func 27) #[] #[.pointer (some ⟨b, 0, none⟩)]

set_option maxHeartbeats 1000000 in
theorem number (B b tb : Nat) (t : ByteArray) (n : Int) (h0 : 0 ≤ n) (h1 : n ≤ 4294967295) (w : World) (h : Bl B b (Lib.strCells t) w) (hl : t.size + (decT n).size ≤ 100000000000) (hc : w.cell? ⟨tb, 0, none⟩ = some (tellF b)) (htb : tb < B) (ht : Tab w) (hB : 1 < w.heap.size) :
    Calls Tryd.prog 31 #[.int .i64 n, .pointer (some ⟨tb, 0, none⟩)] w fun e w' => e = .returned (.tuple #[]) ∧ Bl B b (Lib.strCells (told t (decT n))) w' ∧ KeptBut B b w w' := by
  have hle := h.le
  unfold tellF at hc
  go_enter Tryd.func31, Tryd.ntmps31
  go_wp2
  refine wp_region_tail (wb := w) 3 (fun i x v => match i with
      | 0 => v = .func (.func 27) #[] #[.pointer (some ⟨b, 0, none⟩)]
      | 1 => v = .int .i64 n
      | 2 => v = .string (decT n)
      | _ => True) (fun v => { tmps := #[.int .i64 n, .pointer (some ⟨tb, 0, none⟩), undef, v 0, v 1, v 2, undef], defers := [] }) (by kernel_rfl) (by kernel_rfl) (by kernel_rfl) (Since.refl _) ?_ (fun vals => by kernel_rfl) ?_ ?_
  case refine_1 =>
    intro j x x' v h1 h2
    match j, h2 with
    | 0, h2 | 1, h2 | 2, h2 => exact h2
    | k + 3, _ => trivial
  case refine_2 =>
    simp only [List.take_succ_cons, List.take_zero]
    repeat (first | exact eachDoes_nil | refine eachDoes_cons ?_ ?_)
    all_goals intro vals x hx hv
    all_goals have hcx : x.cell? ⟨tb, 0, none⟩ = some (.func (.func 27) #[] #[.pointer (some ⟨b, 0, none⟩)]) := (Below.cell hx (p := ⟨tb, 0, none⟩) (by show tb < _; omega)).trans hc
    all_goals try simp [Region.binds] at hv
    all_goals first
      | (simp [does, doesUpon, go_sem, hv, hcx, Since.refl]; done)
      | (simp [does, doesUpon, go_sem, hv]; refine (itoa n h0 h1 x (tab_kept ht (hx.block _ (by omega)))).mono ?_; rintro _ x' ⟨rfl, h1⟩; exact ⟨rfl, h1⟩)
  case refine_3 =>
    intro vals x hx hv
    have e0 : vals 0 = _ := hv 0 (by decide)
    have e1 : vals 1 = _ := hv 1 (by decide)
    have e2 : vals 2 = _ := hv 2 (by decide)
    clear hv
    simp only [e0, e1, e2, List.drop_succ_cons, List.drop_zero]
    clear e0 e1 e2
    have hbx := h.since hx
    have kx := (KeptBut.refl B b w).since hx hle
    clear h hc ht
    go_wp2_with (go_at_call 27; refine (tell B b t (decT n) _ hbx hl).mono ?_; rintro _ w2 ⟨rfl, h2, k2⟩)
    go_end0
    exact ⟨rfl, h2, kx.trans k2⟩
end Go.Proofs.YtfohognpcipmaaaDoor
