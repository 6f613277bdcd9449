/-
  Proved: at every segment impl.SegText answers as spec.SegText, where the tables hold what the program's text lays (the law FnExactSegText returns true, its argument and the table of letters read as before); of a segment whose Data has more than 1048576 bytes the law asks nothing. The frame follows the guide's toy of a law over a table.
-/
import Derived.Test.YtneicghhggidnabDoorCards
import Derived.Test.YtneicghhggidnabDoorTie
import Derived.Test.YtneicghhggidnabDoorLaidText
import Derived.OpenVars
import Derived.Deep.DeepHandedRow
namespace Go.Proofs.YtneicghhggidnabDoor.fnExactSegText
open Go.ChangeShapes Go.WideShapes Go.ChangeAt Go.RowKit
set_option linter.unusedVariables false

theorem own : ownKnob Tryd.prog.godebug = none := by kernel_rfl
theorem laidOut : laidOutB Tryd.prog = true := by kernel_rfl
theorem isWord {z : Int} (h : (Lit.int .u32 z).wf = true) : IsWord z := isWord_wf h

set_option maxHeartbeats 1000000 in
theorem walk (a0 : Int) (w0 : (Lit.int .i64 a0).wf = true) (a1 : Int) (w1 : (Lit.int .i64 a1).wf = true) (a2 : Int) (w2 : (Lit.int .u32 a2).wf = true) (a3 : Int) (w3 : (Lit.int .u32 a3).wf = true) (a4 : Int) (w4 : (Lit.int .i64 a4).wf = true) (a5 : Int) (w5 : (Lit.int .i64 a5).wf = true) (a6 : Int) (w6 : (Lit.int .i64 a6).wf = true) (a7 : ByteArray) (w7 : a7.size ≤ maxLen) (w : World) (ht : Tab w) (hL : Letters w) (hg : 1 < w.heap.size) :
    Calls Tryd.prog 3 #[.agg #[.int .i64 a0, .int .i64 a1, .int .u32 a2, .int .u32 a3, .int .i64 a4, .int .i64 a5, .int .i64 a6, .string a7]] w fun e w' => e = .returned (.bool true) ∧ Below w.heap.size w w' := by
  have hsz := fun wx => szSeg a0 a1 a2 a3 a4 a5 a6 a7 1048576 (by omega) w7 wx
  have hto := fun wx => toSeg a0 a1 a2 a3 a4 a5 a6 a7 wx
  by_cases hbig : (a7.size : Int) ≤ 1048576
  · rw [if_pos hbig] at hsz
    have hs := fun wx => specSegText a0 a1 a2 a3 a4 a5 a6 a7 (isWord w2) (isWord w3) (isInt_wf w4) wx
    have hi : ∀ wx, Since w wx → _ := fun wx hx => implSegText a0 a1 a2 a3 a4 a5 a6 a7 (isWord w2) (isWord w3) (isInt_wf w4) wx (tab_kept ht (hx.block _ hg)) (letters_kept hL (hx.block _ (by omega))) (by have := Below.size hx; omega)
    generalize segText a0 a1 a2 a3 a4 a5 a6 a7 = b at hs hi
    unfold segVal at hsz hto hs hi
    have G := Since.refl (w.alloc (.cells #[.int .i64 a0, .int .i64 a1, .int .u32 a2, .int .u32 a3, .int .i64 a4, .int .i64 a5, .int .i64 a6, .string a7] 24))
    have G0 : Since w (w.alloc (.cells #[.int .i64 a0, .int .i64 a1, .int .u32 a2, .int .u32 a3, .int .i64 a4, .int .i64 a5, .int .i64 a6, .string a7] 24)) := (Since.refl _).alloc _
    go_enter Tryd.func3, Tryd.ntmps3
    go_wp2_with (first | (go_at_call 4; refine (hsz _).mono ?_; rintro _ w1 ⟨rfl, g1⟩; replace G := Since.trans G g1; obtain ⟨C0, C1, C2, C3, C4, C5, C6, C7⟩ := kept8 G) | (go_at_call 6; refine (hto _).mono ?_; rintro _ w2 ⟨rfl, g2⟩; replace G := Since.trans G g2; obtain ⟨C0, C1, C2, C3, C4, C5, C6, C7⟩ := kept8 G) | (go_at_call 5; refine (hs _).mono ?_; rintro _ w3 ⟨rfl, g3⟩; replace G := Since.trans G g3; obtain ⟨C0, C1, C2, C3, C4, C5, C6, C7⟩ := kept8 G) | (go_at_call 7; refine (hi _ (G0.trans G)).mono ?_; rintro _ w4 ⟨rfl, g4⟩; replace G := Since.trans G g4; obtain ⟨C0, C1, C2, C3, C4, C5, C6, C7⟩ := kept8 G))
    go_ret
    exact ⟨rfl, G0.trans G⟩
  · rw [if_neg hbig] at hsz
    unfold segVal at hsz
    clear ht hL
    go_enter Tryd.func3, Tryd.ntmps3
    go_wp2_with (go_at_call 4; refine (hsz _).mono ?_; rintro _ w1 ⟨rfl, g1⟩)
    go_ret
    exact ⟨rfl, ((Since.refl _).alloc _).trans g1⟩

theorem contract (H : Type) (enc : TypeId × Value → H) (W : World) (base : Nat) (args : Array Value) (ds gs : List (DataW H)) (before : List MemPlace)
    (hval : ∀ (j : Nat) t v, Tryd.f3.params[j]? = some t → args[j]? = some v → Value.okWide Tryd.prog W .any base t v)
    (hW : DataW.Whole enc Tryd.prog Tryd.f3.params.toList Rows.fnExactSegTextSpec.vars false W args.toList ds gs before) (hL : laidMetH Tryd.prog Rows.fnExactSegTextRow.laid W) :
    Calls Tryd.prog 3 args W fun e W' => ∃ v, e = .returned v ∧ Rows.fnExactSegTextSpec.post enc Tryd.prog Tryd.f3 false true false false W args v W' := by
  have hW' := hW
  obtain ⟨p, q, hA0, hV, rfl, hfz, hnd⟩ := hW
  have hA : DataW.TrodAll enc Tryd.prog W 0 (fun _ => true) true Tryd.f3.params.toList args.toList ds p := hA0
  rw [Tryd.params3] at hA hval
  obtain ⟨v0, vs0, d0, ds0, p0, q0, hargs, rfl, rfl, h0, r0⟩ := trodAll_cons hA
  obtain ⟨rfl, rfl, rfl⟩ := trodAll_nil r0
  obtain rfl : args = #[v0] := by cases args; simp_all
  obtain ⟨gd, rfl⟩ : ∃ gd, gs = [gd] := by
    obtain ⟨_, _, _, _, gd, _, e, _⟩ := trodVars_one hV
    exact ⟨gd, e⟩
  obtain ⟨cs, ys, m0, rfl, hcs, rfl, rfl, hys, hf⟩ := open_aggs Tryd.underlying24 (by kernel_rfl) (by kernel_rfl) (hval 0 24 v0 rfl rfl) h0
  obtain ⟨c0, c1, c2, c3, c4, c5, c6, c7, rfl⟩ := array8 hcs
  obtain ⟨y0, y1, y2, y3, y4, y5, y6, y7, rfl⟩ := list8 hys
  have k0 := hf 0 _ rfl c0 y0 rfl rfl
  obtain ⟨a0, e0, rfl, w0⟩ := DataW.trod_int Tryd.underlying3 k0
  simp at e0
  subst e0
  have k1 := hf 1 _ rfl c1 y1 rfl rfl
  obtain ⟨a1, e1, rfl, w1⟩ := DataW.trod_int Tryd.underlying3 k1
  simp at e1
  subst e1
  have k2 := hf 2 _ rfl c2 y2 rfl rfl
  obtain ⟨a2, e2, rfl, w2⟩ := DataW.trod_int Tryd.underlying22 k2
  simp at e2
  subst e2
  have k3 := hf 3 _ rfl c3 y3 rfl rfl
  obtain ⟨a3, e3, rfl, w3⟩ := DataW.trod_int Tryd.underlying22 k3
  simp at e3
  subst e3
  have k4 := hf 4 _ rfl c4 y4 rfl rfl
  obtain ⟨a4, e4, rfl, w4⟩ := DataW.trod_int Tryd.underlying3 k4
  simp at e4
  subst e4
  have k5 := hf 5 _ rfl c5 y5 rfl rfl
  obtain ⟨a5, e5, rfl, w5⟩ := DataW.trod_int Tryd.underlying3 k5
  simp at e5
  subst e5
  have k6 := hf 6 _ rfl c6 y6 rfl rfl
  obtain ⟨a6, e6, rfl, w6⟩ := DataW.trod_int Tryd.underlying3 k6
  simp at e6
  subst e6
  have k7 := hf 7 _ rfl c7 y7 rfl rfl
  obtain ⟨a7, e7, rfl, w7⟩ := DataW.trod_string Tryd.underlying9 k7
  simp at e7
  subst e7
  clear hf hcs hys
  clear hA0
  simp only [List.flatMap_cons, List.flatMap_nil, List.map_cons, List.map_nil, List.append_nil] at hW'
  obtain ⟨ht, hl⟩ := laid_tables hL
  have hgs : 1 < W.heap.size := tab_lt ht
  refine (walk a0 w0 a1 w1 a2 w2 a3 w3 a4 w4 a5 w5 a6 w6 a7 w7 W ht hl hgs).mono fun e W' ⟨he, hg⟩ => ?_
  subst he
  exact ⟨_, rfl, _, _, _, [], [], _, hW', (trodAll_cons_mk (shut_bool Tryd.underlying4 _) trodAll_mk0), (trodAll_cons_mk (⟨2, trod_struct_mk (n := 1) (cs := [.int .i64 a0, .int .i64 a1, .int .u32 a2, .int .u32 a3, .int .i64 a4, .int .i64 a5, .int .i64 a6, .string a7]) (xs := [(.lit (.int .i64 a0), []), (.lit (.int .i64 a1), []), (.lit (.int .u32 a2), []), (.lit (.int .u32 a3), []), (.lit (.int .i64 a4), []), (.lit (.int .i64 a5), []), (.lit (.int .i64 a6), []), (.lit (.string a7.data.toList), [])]) Tryd.underlying24 (by kernel_rfl) (by simp [show Tryd.prog.cellsOf 22 = 1 by kernel_rfl, show Tryd.prog.cellsOf 3 = 1 by kernel_rfl, show Tryd.prog.cellsOf 9 = 1 by kernel_rfl, DataW.trod, Tryd.underlying22, Tryd.underlying3, Tryd.underlying9, w0, w1, w2, w3, w4, w5, w6, w7])⟩ : DataW.Trod _ _ _ _ _ _ 24 (.agg #[.int .i64 a0, .int .i64 a1, .int .u32 a2, .int .u32 a3, .int .i64 a4, .int .i64 a5, .int .i64 a6, .string a7]) _ _) trodAll_mk0), Below.trodVars laidOut hg (by kernel_rfl) hV, hg.frame _, fun h => by cases h⟩

/-- A variable's block with these cells. -/
def layCells (cs : Array Value) : Obj → Obj
  | .cells _ t frozen => .cells cs t frozen
  | o => o
/-- A world for the witness: the settled one, the tables as their initialisers lay them. -/
noncomputable def laidWorld (os : Os) : World :=
  { World.holding Tryd.prog os ⟨#[], #[], []⟩ with heap := ((((World.holding Tryd.prog os ⟨#[], #[], []⟩).heap.modify 0 (layCells #[.int .i64 2, .string ⟨#[83]⟩, .int .i64 16, .string ⟨#[65]⟩, .int .i64 1, .string ⟨#[70]⟩, .int .i64 4, .string ⟨#[82]⟩, .int .i64 8, .string ⟨#[80]⟩])).modify 1 (layCells #[.int .u64 1, .int .u64 10, .int .u64 100, .int .u64 1000, .int .u64 10000, .int .u64 100000, .int .u64 1000000, .int .u64 10000000, .int .u64 100000000, .int .u64 1000000000, .int .u64 10000000000, .int .u64 100000000000, .int .u64 1000000000000, .int .u64 10000000000000, .int .u64 100000000000000, .int .u64 1000000000000000, .int .u64 10000000000000000, .int .u64 100000000000000000, .int .u64 1000000000000000000, .int .u64 10000000000000000000])).modify 2 (layCells #[.int .u8 0, .int .u8 1, .int .u8 28, .int .u8 2, .int .u8 29, .int .u8 14, .int .u8 24, .int .u8 3, .int .u8 30, .int .u8 22, .int .u8 20, .int .u8 15, .int .u8 25, .int .u8 17, .int .u8 4, .int .u8 8, .int .u8 31, .int .u8 27, .int .u8 13, .int .u8 23, .int .u8 21, .int .u8 19, .int .u8 16, .int .u8 7, .int .u8 26, .int .u8 12, .int .u8 18, .int .u8 6, .int .u8 11, .int .u8 5, .int .u8 10, .int .u8 9])).modify 3 (layCells #[.int .u8 0, .int .u8 1, .int .u8 56, .int .u8 2, .int .u8 57, .int .u8 49, .int .u8 28, .int .u8 3, .int .u8 61, .int .u8 58, .int .u8 42, .int .u8 50, .int .u8 38, .int .u8 29, .int .u8 17, .int .u8 4, .int .u8 62, .int .u8 47, .int .u8 59, .int .u8 36, .int .u8 45, .int .u8 43, .int .u8 51, .int .u8 22, .int .u8 53, .int .u8 39, .int .u8 33, .int .u8 30, .int .u8 24, .int .u8 18, .int .u8 12, .int .u8 5, .int .u8 63, .int .u8 55, .int .u8 48, .int .u8 27, .int .u8 60, .int .u8 41, .int .u8 37, .int .u8 16, .int .u8 46, .int .u8 35, .int .u8 44, .int .u8 21, .int .u8 52, .int .u8 32, .int .u8 23, .int .u8 11, .int .u8 54, .int .u8 26, .int .u8 40, .int .u8 15, .int .u8 34, .int .u8 20, .int .u8 31, .int .u8 10, .int .u8 25, .int .u8 14, .int .u8 19, .int .u8 9, .int .u8 13, .int .u8 8, .int .u8 7, .int .u8 6]) }
theorem laid_met (os : Os) : laidMet Tryd.prog Rows.fnExactSegTextRow.laid ((laidWorld os).forCall (fun _ _ => 0) ⟨#[], #[.agg #[.int .i64 0, .int .i64 0, .int .u32 0, .int .u32 0, .int .i64 0, .int .i64 0, .int .i64 0, .string ByteArray.empty]], []⟩).memory :=
  laidMet_of_run' 8 (by kernel_rfl) (by kernel_rfl)
theorem reads (os : Os) {H : Type} (enc : TypeId × Value → H) : ∃ places, DataW.whole enc Tryd.prog ((laidWorld os).forCall (fun _ _ => 0) ⟨#[], #[.agg #[.int .i64 0, .int .i64 0, .int .u32 0, .int .u32 0, .int .i64 0, .int .i64 0, .int .i64 0, .string ByteArray.empty]], []⟩).memory Tryd.f3.params.toList Rows.fnExactSegTextSpec.vars false (#[(.agg #[.int .i64 0, .int .i64 0, .int .u32 0, .int .u32 0, .int .i64 0, .int .i64 0, .int .i64 0, .string ByteArray.empty] : Value)] : Array Value).toList 8 = some ([.agg [.lit (.int .i64 0), .lit (.int .i64 0), .lit (.int .u32 0), .lit (.int .u32 0), .lit (.int .i64 0), .lit (.int .i64 0), .lit (.int .i64 0), .lit (.string [])]], [Rows.laid_loop_example_g00107_impl_flagLetters], places) :=
  ⟨MemPlace.row ⟨0, 0, none⟩ 10, by kernel_rfl⟩

set_option maxRecDepth 100000 in
theorem lifted (os : Os) (started : os.Started) (H : Type) (enc : TypeId × Value → H) (F : Stop.Interp) :
    ReturnsInHanded {} Tryd.checked os 3 .any ((OpenSpec.ofChange Rows.fnExactSegTextSpec).preRow enc Tryd.prog Tryd.f3 Rows.fnExactSegTextRow.domain false Rows.fnExactSegTextRow.laid) (((OpenSpec.ofChange Rows.fnExactSegTextSpec).at F).post enc Tryd.prog Tryd.f3 false true false false) := by
  obtain ⟨places, hx⟩ := reads os enc
  refine returnsInHanded_of_row (C := Tryd.checked) (s := OpenSpec.ofChange Rows.fnExactSegTextSpec) own started (by kernel_rfl) Tryd.func3
    (witness_row_at (enc := enc) (C := Tryd.checked) false (laidWorld os) #[.agg #[.int .i64 0, .int .i64 0, .int .u32 0, .int .u32 0, .int .i64 0, .int .i64 0, .int .i64 0, .string ByteArray.empty]] rfl (by kernel_rfl) (by kernel_rfl) (by kernel_rfl)
      (OpenSpec.preRow_of_cond 8 hx (by kernel_rfl) (fun k hk => by cases hk) (by kernel_rfl) (laid_met os))) ?_
  intro W base args ds gs before hval hW _ _ _ hL _ _
  exact contract H enc W base args ds gs before hval hW hL

theorem said : Rows.FnExactSegTextSaid :=
  OpenClaim.holds_of_cond 3 Tryd.f3 rfl rfl rfl rfl rfl rfl rfl ⟨rfl, rfl, rfl, rfl, rfl⟩ rfl rfl rfl rfl rfl (by kernel_rfl) Tryd.func3 (by kernel_rfl)
    (of_decide_eq_true (by kernel_rfl)) (by unfold Func.isWrapper; first | (rw [if_pos (by decide +kernel)]; kernel_rfl) | (rw [if_neg (by decide +kernel)]; exact ⟨rfl, rfl⟩))
    (fun os started H enc _ F => by rw [OpenClaim.pre_eq_preRow]; exact lifted os started H enc F)

/-- No parameter wants a stand-in; the program's own looks are off: what the card asks. -/
theorem plain (f : FuncId) (fn : Func) (hf : Tryd.pinned.checked.prog.funcNamed "loop.example/g00107/laws.FnExactSegText" = some f) (hfn : Tryd.pinned.checked.prog.funcs[f]? = some fn) :
    false = Tryd.pinned.checked.prog.looks [] ∧ ∀ (j : Nat) t, fn.params[j]? = some t → Tryd.pinned.checked.prog.wantsStandIn t = false := by
  obtain rfl : f = 3 := Option.some.inj ((show Tryd.prog.funcNamed "loop.example/g00107/laws.FnExactSegText" = some 3 by kernel_rfl).symm.trans hf) |>.symm
  obtain rfl : fn = Tryd.f3 := (Option.some.inj (Tryd.func3.symm.trans hfn)).symm
  refine ⟨by kernel_rfl, fun j t ht => ?_⟩
  rw [Tryd.params3] at ht
  obtain rfl : t = 24 := by simpa using Array.mem_of_getElem? ht
  exact (show Tryd.prog.wantsStandIn 24 = false by kernel_rfl)

theorem card : Rows.FnExactSegTextCardSaid :=
  Claim7.holds_tied_plain_at .later [] _ _ _ _ said (fun _ h => by cases h) (by kernel_rfl) (fun _ h => by cases h) fnExactSegText_row_tie rfl ⟨rfl, rfl⟩ (by kernel_rfl) rfl plain (by kernel_rfl)
end Go.Proofs.YtneicghhggidnabDoor.fnExactSegText

namespace Go.Proofs.YtneicghhggidnabDoor
theorem fnExactSegText_holds : Rows.FnExactSegTextCardSaid := fnExactSegText.card
#print axioms fnExactSegText_holds
end Go.Proofs.YtneicghhggidnabDoor
