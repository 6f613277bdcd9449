/-
  Proved: at every buffer of bytes that came impl.InRoom answers as spec.InRoom and leaves its argument as it was (the law FnExactInRoom returns true, and its argument reads as before); no condition (of a buffer of more than 1048576 bytes and parts together the law asks nothing).
-/
import Derived.Test.YtpegfiogfcjofabRows
import Derived.Test.YtpegfiogfcjofabOpenIn
import Derived.Test.YtpegfiogfcjofabDrawn
import Derived.Test.YtpegfiogfcjofabInHeldS
import Derived.WalkKit
import Derived.ProofKit
import Derived.OpenShut
import Derived.ShutString
import Derived.ChangeOld
import Derived.Below
import Derived.Carry
namespace Go.Proofs.Ytpegfiogfcjofab.fnExactInRoom
open Go.ChangeShapes Go.WideShapes Go.ChangeAt Go.RowKit
open Go.ChangeMaps (open_string shut_string)
set_option linter.unusedVariables false

theorem own : ownKnob Try.prog.godebug = none := by kernel_rfl
theorem laidOut : laidOutB Try.prog = true := by kernel_rfl

theorem walk (q0 : Int) (d0 : ByteArray) (r0 : Int) (a0 : Option Addr) (n0 c0 : Nat) (p0 : List (Int × ByteArray)) (w : World) (x0 : (Lit.int .u32 q0).wf = true) (z0 : d0.size ≤ maxLen) (y0 : (Lit.int .i64 r0).wf = true) (R0 : Rd shP w a0 n0 p0) (u0 : ∀ i, i < n0 → (Lit.int .u32 (pAt p0 i).1).wf = true ∧ (pAt p0 i).2.size ≤ maxLen) :
    Calls Try.prog 4 #[inVal q0 d0 (.slice a0 n0 c0) r0] w fun e w' => e = .returned (.bool true) ∧ Below w.heap.size w w' := by
  have hz0 : ∀ i, i < n0 → (pAt p0 i).2.size ≤ maxLen := fun i hi => (u0 i hi).2
  have hsz := szIn q0 d0 r0 a0 n0 c0 p0 1048576 (by omega) (by omega) _ (R0.since ((Since.refl w).alloc (.cells #[.int .u32 q0, .string d0, .slice a0 n0 c0, .int .i64 r0] 25))) hz0 z0
  have G : Since w (w.alloc (.cells #[.int .u32 q0, .string d0, .slice a0 n0 c0, .int .i64 r0] 25)) := (Since.refl _).alloc _
  have A := Blk.new w #[.int .u32 q0, .string d0, .slice a0 n0 c0, .int .i64 r0] 25
  unfold inVal at hsz ⊢
  go_enter Try.func4, Try.ntmps4
  go_wp2_with (go_at_call 8; refine hsz.mono ?_; rintro _ w1 ⟨⟨r, rfl, hb⟩, g1⟩; replace hb : Hid _ := hb; replace G := G.trans g1; replace A := A.since g1; have cA0 := A.cell 0; have cA1 := A.cell 1; have cA2 := A.cell 2; have cA3 := A.cell 3; simp at cA0 cA1 cA2 cA3)
  · go_ret
    exact ⟨rfl, G⟩
  have hb' := hb.out (by omega)
  have hn : n0 ≤ 1048576 := by omega
  have good : Good q0 d0 r0 n0 p0 := ⟨isWord_wf x0, by omega, by have := bounds_i64 y0; unfold IsInt; omega, hn, fun i hi => ⟨isWord_wf (u0 i hi).1, by have := hb'.2.2 i hi; omega⟩⟩
  clear hb hb' hsz hz0
  refine (toIn q0 d0 r0 a0 n0 c0 p0 hn _ (R0.since G)).mono ?_
  rintro _ w2 ⟨g2, rfl, T2, k2⟩
  replace G := G.trans k2
  replace A := A.since k2
  replace cA0 := A.cell 0
  replace cA1 := A.cell 1
  replace cA2 := A.cell 2
  replace cA3 := A.cell 3
  simp at cA0 cA1 cA2 cA3
  unfold inVal
  go_wp2_with (fail)
  refine (specInRoom q0 d0 r0 _ n0 n0 p0 good _ T2.reads).mono ?_
  rintro _ w3 ⟨rfl, k3⟩
  replace G := G.trans k3
  replace A := A.since k3
  replace cA0 := A.cell 0
  replace cA1 := A.cell 1
  replace cA2 := A.cell 2
  replace cA3 := A.cell 3
  simp at cA0 cA1 cA2 cA3
  generalize hq : inRoomN q0 d0 r0 p0 = q
  go_wp2_with (fail)
  refine (toIn q0 d0 r0 a0 n0 c0 p0 hn _ (R0.since G)).mono ?_
  rintro _ w4 ⟨g4, rfl, T4, k4⟩
  replace G := G.trans k4
  replace A := A.since k4
  unfold inVal
  go_wp2_with (fail)
  have X := Blk.new w4 #[.int .u32 q0, .string d0, .slice (some ⟨g4, 0, none⟩) n0 n0, .int .i64 r0] 30
  have k5 := (Since.refl w4).alloc (.cells #[.int .u32 q0, .string d0, .slice (some ⟨g4, 0, none⟩) n0 n0, .int .i64 r0] 30)
  replace G := G.trans k5
  replace A := A.since k5
  have T5 := T4.since k5
  refine (implInRoom q0 d0 r0 _ n0 n0 p0 good _ T5.reads).mono ?_
  rintro _ w6 ⟨rfl, k6⟩
  rw [hq]
  replace G := G.trans k6
  replace A := A.since k6
  replace X := X.since k6
  have T6 := T5.since k6
  go_wp2_with (fail)
  refine wp_region_each (wb := w6) (fun i x v => match i with
      | 0 => v = .agg #[.int .u32 q0, .string d0, .slice (some ⟨g4, 0, none⟩) n0 n0, .int .i64 r0]
      | 1 => v = .agg #[.int .u32 q0, .string d0, .slice a0 n0 c0, .int .i64 r0]
      | 2 => ∃ g, v = .agg #[.int .u32 q0, .string d0, .slice (some ⟨g, 0, none⟩) n0 n0, .int .i64 r0] ∧ Held shP x 0 g n0 n0 p0
      | 3 => v = .bool true
      | 4 => v = .bool false
      | _ => True) (fun v => { tmps := #[Value.agg #[Value.int IntKind.u32 q0, Value.string d0, Value.slice a0 n0 c0, Value.int IntKind.i64 r0], Value.pointer (some ⟨w.heap.size, 0, none⟩), Value.bool false, Value.int IntKind.i64 r, Value.int IntKind.i64 q, Value.pointer (some ⟨w4.heap.size, 0, none⟩), Value.int IntKind.i64 q, Value.agg #[Value.int IntKind.u32 q0, Value.string d0, Value.slice a0 n0 c0, Value.int IntKind.i64 r0], Value.int IntKind.i64 1048576, Value.int IntKind.i64 r, Value.int IntKind.i64 r, Value.bool (decide (r < 0)), Value.agg #[Value.int IntKind.u32 q0, Value.string d0, Value.slice a0 n0 c0, Value.int IntKind.i64 r0], Value.agg #[Value.int IntKind.u32 q0, Value.string d0, Value.slice (some ⟨g2, 0, none⟩) n0 n0, Value.int IntKind.i64 r0], Value.int IntKind.i64 q, Value.agg #[Value.int IntKind.u32 q0, Value.string d0, Value.slice a0 n0 c0, Value.int IntKind.i64 r0], Value.agg #[Value.int IntKind.u32 q0, Value.string d0, Value.slice (some ⟨g4, 0, none⟩) n0 n0, Value.int IntKind.i64 r0], Value.agg #[Value.int IntKind.u32 q0, Value.string d0, Value.slice (some ⟨g4, 0, none⟩) n0 n0, Value.int IntKind.i64 r0], Value.int IntKind.i64 q, Value.int IntKind.i64 q, Value.int IntKind.i64 q, Value.bool false, v 0, v 1, v 2, v 3, v 4], defers := [] }) (by kernel_rfl) (by kernel_rfl) (Since.refl _) ?_ (fun vals => by kernel_rfl) ?_ ?_
  case refine_1 =>
    intro j x x' v h1 h2
    match j, h2 with
    | 2, h2 =>
      obtain ⟨g, e, T⟩ := h2
      exact ⟨g, e, T.since h1⟩
    | 0, h2 | 1, h2 | 3, h2 | 4, h2 => exact h2
    | n + 5, _ => trivial
  case refine_2 =>
    repeat (first | exact eachDoes_nil | refine eachDoes_cons ?_ ?_)
    all_goals intro vals x hx hv
    all_goals simp [Region.binds] at hv
    · simp [does, doesUpon, go_sem, hv, Since.refl]
    · obtain ⟨h0, g, h2, T⟩ := hv
      simp [does, doesUpon, go_sem, h0, h2]
      refine (eqIn q0 d0 r0 _ _ n0 n0 n0 p0 hn _ (T6.since hx).reads T.reads).mono ?_
      rintro _ x' ⟨rfl, h1⟩
      simp [h1]
    · simp [does, doesUpon, go_sem, hv]
      refine (toIn q0 d0 r0 a0 n0 c0 p0 hn _ (R0.since (G.trans hx))).mono ?_
      rintro _ x' ⟨g, rfl, T, h1⟩
      exact ⟨_, rfl, h1, g, rfl, T.raise (Nat.zero_le _)⟩
    · have e0 := (A.since hx).cell 0
      have e1 := (A.since hx).cell 1
      have e2 := (A.since hx).cell 2
      have e3 := (A.since hx).cell 3
      simp at e0 e1 e2 e3
      simp [does, doesUpon, go_sem, e0, e1, e2, e3, Since.refl]
    · have e0 := (X.since hx).cell 0
      have e1 := (X.since hx).cell 1
      have e2 := (X.since hx).cell 2
      have e3 := (X.since hx).cell 3
      simp at e0 e1 e2 e3
      simp [does, doesUpon, go_sem, e0, e1, e2, e3, Since.refl]
  case refine_3 =>
    intro vals x hx hv
    have h4 : vals 4 = _ := hv 4 (by decide)
    clear hv
    simp only [h4]
    go_wp2_with (fail)
    go_ret
    exact ⟨rfl, G.trans hx⟩

set_option maxRecDepth 100000 in
theorem lifted (os : Os) (started : os.Started) (H : Type) (enc : TypeId × Value → H) :
    ReturnsInHanded {} Try.checked os 4 .any (Rows.fnExactInRoomSpec.pre6 enc Try.prog Try.f4 Rows.fnExactInRoomRow.domain false) (Rows.fnExactInRoomSpec.post enc Try.prog Try.f4 false true false false) := by
  refine returnsInHanded_of_change (C := Try.checked) own started (by kernel_rfl) Try.func4
    (ChangeSpec.witness6 (enc := enc) (C := Try.checked) false ⟨#[], #[.agg #[.int .u32 0, .string ByteArray.empty, .slice none 0 0, .int .i64 0]], []⟩ 8 (by kernel_rfl) (by kernel_rfl) (by kernel_rfl) (by kernel_rfl)) ?_
  intro W base args ds gs before hval0 hW hcnd _
  have hval : ∀ (j : Nat) t v, Try.f4.params[j]? = some t → args[j]? = some v → Value.okWide Try.prog W .any base t v := hval0
  have hW' := hW
  obtain ⟨p, q, hA0, hV, rfl, hfz, hnd⟩ := hW
  have hA : DataW.TrodAll enc Try.prog W 0 (fun _ => true) true Try.f4.params.toList args.toList ds p := hA0
  rw [Try.params4] at hA hval
  obtain ⟨v0, vs0, d0, ds0, p0, q0, hargs, rfl, rfl, h0, r0⟩ := trodAll_cons hA
  obtain ⟨rfl, rfl, rfl⟩ := trodAll_nil r0
  obtain rfl : args = #[v0] := by cases args; simp_all
  obtain ⟨rfl, rfl⟩ := trodVars_none hV
  have e0 := h0
  have lt0 : ∀ x ∈ p0, x.block < W.heap.size := by obtain ⟨m, hm⟩ := e0; exact DataW.trod_lt m _ _ _ hm
  obtain ⟨qv0, dv0, rv0, av0, nv0, cv0, pv0, rfl, x0, z0, y0, R0, u0⟩ := open_in (hval 0 25 v0 rfl rfl) h0
  clear hA0 hval0
  refine (walk qv0 dv0 rv0 av0 nv0 cv0 pv0 W x0 z0 y0 R0 u0).mono fun e W' ⟨he, bel⟩ => ?_
  subst he
  exact ⟨_, rfl, _, _, _, [], _, [], hW', trodAll_mk1 (shut_bool Try.underlying4 _), (trodAll_cons_mk (Below.trod laidOut (by kernel_rfl) (of_decide_eq_true (by kernel_rfl)) e0 bel lt0) trodAll_mk0), rfl, bel.frame _, fun h => by cases h⟩

theorem over : Rows.fnExactInRoomRow.holds Try.pinned (OpenSpec.ofChange Rows.fnExactInRoomSpec) :=
  OpenClaim.holds_of_wide 4 Try.f4 rfl rfl rfl rfl rfl rfl rfl ⟨rfl, rfl, rfl, rfl, rfl⟩ rfl rfl rfl rfl rfl (by kernel_rfl) Try.func4 (by kernel_rfl)
    (of_decide_eq_true (by kernel_rfl)) (by unfold Func.isWrapper; first | (rw [if_pos (by decide +kernel)]; kernel_rfl) | (rw [if_neg (by decide +kernel)]; exact ⟨rfl, rfl⟩))
    (fun os started H enc _ => lifted os started H enc)

theorem proved : Rows.FnExactInRoomSaid := over
end Go.Proofs.Ytpegfiogfcjofab.fnExactInRoom

namespace Go.Proofs.Ytpegfiogfcjofab
theorem fnExactInRoom_holds : Rows.FnExactInRoomSaid := fnExactInRoom.proved
#print axioms fnExactInRoom_holds
end Go.Proofs.Ytpegfiogfcjofab
