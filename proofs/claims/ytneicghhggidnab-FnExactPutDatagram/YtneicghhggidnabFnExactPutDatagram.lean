/-
  Proved: at every two addresses, every Id and every segment impl.PutDatagram answers as spec.PutDatagram (the law FnExactPutDatagram returns true, and its arguments read as before); no condition (of a segment whose Data has more than 1048576 bytes the law asks nothing).
  The frame was written by program (the guide's proof-skeleton); the walk and what it rests on are typed.
-/
import Derived.Test.YtneicghhggidnabRows
import Derived.Test.YtneicghhggidnabAgg
import Derived.Test.YtneicghhggidnabDgram
import Derived.WalkKit
import Derived.ProofKit
import Derived.OpenShut
import Derived.ShutString
namespace Go.Proofs.Ytneicghhggidnab.fnExactPutDatagram
open Go.ChangeShapes Go.WideShapes Go.ChangeAt Go.RowKit
open Go.ChangeMaps (open_string shut_string)
set_option linter.unusedVariables false      -- a walk need not use every 'w<i>' (that an integer argument fits its kind)

theorem own : ownKnob Try.prog.godebug = none := by kernel_rfl

/-! ### STEP 1: THE WALK: the Go text returns true. 'Grown w w'': the world has at most new blocks (Derived/RowKit3.lean). Part the cases AHEAD of 'go_enter' where a test parts the walk; take each callee by a contract of your own. -/
theorem walk (a0 : Int) (w0 : (Lit.int .u32 a0).wf = true) (a1 : Int) (w1 : (Lit.int .i64 a1).wf = true) (a2 : Int) (w2 : (Lit.int .u32 a2).wf = true) (a3 : Int) (w3 : (Lit.int .i64 a3).wf = true) (a4 : Int) (w4 : (Lit.int .i64 a4).wf = true) (a5 : Int) (w5 : (Lit.int .i64 a5).wf = true) (a6 : Int) (w6 : (Lit.int .i64 a6).wf = true) (a7 : Int) (w7 : (Lit.int .u32 a7).wf = true) (a8 : Int) (w8 : (Lit.int .u32 a8).wf = true) (a9 : Int) (w9 : (Lit.int .i64 a9).wf = true) (a10 : Int) (w10 : (Lit.int .i64 a10).wf = true) (a11 : Int) (w11 : (Lit.int .i64 a11).wf = true) (a12 : ByteArray) (w12 : a12.size ≤ maxLen) (w : World) :
    Calls Try.prog 3 #[.agg #[.int .u32 a0, .int .i64 a1], .agg #[.int .u32 a2, .int .i64 a3], .int .i64 a4, .agg #[.int .i64 a5, .int .i64 a6, .int .u32 a7, .int .u32 a8, .int .i64 a9, .int .i64 a10, .int .i64 a11, .string a12]] w fun e w' => e = .returned (.bool true) ∧ Below w.heap.size w w' := by
  have hsz := fun wx => szSeg a5 a6 a7 a8 a9 a10 a11 a12 1048576 (by omega) w12 wx
  by_cases hbig : (a12.size : Int) ≤ 1048576
  · rw [if_pos hbig] at hsz
    have hs := fun wx => specPutDg a0 a1 a2 a3 a4 a5 a6 a7 a8 a9 a10 a11 a12 (isWord_wf w0) (isWord_wf w2) (isWord_wf w7) (isWord_wf w8) (isInt_wf w9) wx
    have hi := fun wx => implPutDg a0 a1 a2 a3 a4 a5 a6 a7 a8 a9 a10 a11 a12 (isWord_wf w0) (isWord_wf w2) (isWord_wf w7) (isWord_wf w8) (isInt_wf w9) wx
    generalize putDgram a0 a1 a2 a3 a4 a7 a8 a9 a10 a11 a12 = b at hs hi
    have hta := fun h p wx => toAddr h p wx
    have hts := fun wx => toSeg a5 a6 a7 a8 a9 a10 a11 a12 wx
    unfold segVal addrVal at *
    have G := Since.refl (((w.alloc (.cells #[.int .u32 a0, .int .i64 a1] 24)).alloc (.cells #[.int .u32 a2, .int .i64 a3] 24)).alloc (.cells #[.int .i64 a5, .int .i64 a6, .int .u32 a7, .int .u32 a8, .int .i64 a9, .int .i64 a10, .int .i64 a11, .string a12] 26))
    go_enter Try.func3, Try.ntmps3
    go_wp2_with (go_at_call 5; refine (hsz _).mono ?_; rintro _ w1 ⟨rfl, g1⟩; replace G := Since.trans G g1)
    obtain ⟨wb, hwb⟩ : ∃ wb, ((w.alloc (.cells #[.int .u32 a0, .int .i64 a1] 24)).alloc (.cells #[.int .u32 a2, .int .i64 a3] 24)).alloc (.cells #[.int .i64 a5, .int .i64 a6, .int .u32 a7, .int .u32 a8, .int .i64 a9, .int .i64 a10, .int .i64 a11, .string a12] 26) = wb := ⟨_, rfl⟩
    have HB : Since w wb := by rw [← hwb]; exact (((Since.refl _).alloc _).alloc _).alloc _
    have hk : ∀ x : Later wb, Since (((w.alloc (.cells #[.int .u32 a0, .int .i64 a1] 24)).alloc (.cells #[.int .u32 a2, .int .i64 a3] 24)).alloc (.cells #[.int .i64 a5, .int .i64 a6, .int .u32 a7, .int .u32 a8, .int .i64 a9, .int .i64 a10, .int .i64 a11, .string a12] 26)) x.val := fun x => by rw [hwb]; exact x.ok
    rw [hwb] at G
    clear hwb hsz
    have A0 : ∀ x : Later wb, x.val.cell? ⟨w.heap.size, 0, none⟩ = some (.int .u32 a0) := fun x => (kept2 (w := w) (Since.trans (((Since.refl _).alloc _).alloc _) (hk x))).1
    have A1 : ∀ x : Later wb, x.val.cell? ⟨w.heap.size, 1, none⟩ = some (.int .i64 a1) := fun x => (kept2 (w := w) (Since.trans (((Since.refl _).alloc _).alloc _) (hk x))).2
    have B0 : ∀ x : Later wb, x.val.cell? ⟨w.heap.size + 1, 0, none⟩ = some (.int .u32 a2) := fun x => by have h := (kept2 (w := w.alloc (.cells #[.int .u32 a0, .int .i64 a1] 24)) (Since.trans ((Since.refl _).alloc _) (hk x))).1; rwa [World.size_alloc] at h
    have B1 : ∀ x : Later wb, x.val.cell? ⟨w.heap.size + 1, 1, none⟩ = some (.int .i64 a3) := fun x => by have h := (kept2 (w := w.alloc (.cells #[.int .u32 a0, .int .i64 a1] 24)) (Since.trans ((Since.refl _).alloc _) (hk x))).2; rwa [World.size_alloc] at h
    have C0 : ∀ x : Later wb, x.val.cell? ⟨w.heap.size + 1 + 1, 0, none⟩ = some (.int .i64 a5) := fun x => by have h := (kept8 (w := (w.alloc (.cells #[.int .u32 a0, .int .i64 a1] 24)).alloc (.cells #[.int .u32 a2, .int .i64 a3] 24)) (hk x)).1; rwa [World.size_alloc, World.size_alloc] at h
    have C1 : ∀ x : Later wb, x.val.cell? ⟨w.heap.size + 1 + 1, 1, none⟩ = some (.int .i64 a6) := fun x => by have h := (kept8 (w := (w.alloc (.cells #[.int .u32 a0, .int .i64 a1] 24)).alloc (.cells #[.int .u32 a2, .int .i64 a3] 24)) (hk x)).2.1; rwa [World.size_alloc, World.size_alloc] at h
    have C2 : ∀ x : Later wb, x.val.cell? ⟨w.heap.size + 1 + 1, 2, none⟩ = some (.int .u32 a7) := fun x => by have h := (kept8 (w := (w.alloc (.cells #[.int .u32 a0, .int .i64 a1] 24)).alloc (.cells #[.int .u32 a2, .int .i64 a3] 24)) (hk x)).2.2.1; rwa [World.size_alloc, World.size_alloc] at h
    have C3 : ∀ x : Later wb, x.val.cell? ⟨w.heap.size + 1 + 1, 3, none⟩ = some (.int .u32 a8) := fun x => by have h := (kept8 (w := (w.alloc (.cells #[.int .u32 a0, .int .i64 a1] 24)).alloc (.cells #[.int .u32 a2, .int .i64 a3] 24)) (hk x)).2.2.2.1; rwa [World.size_alloc, World.size_alloc] at h
    have C4 : ∀ x : Later wb, x.val.cell? ⟨w.heap.size + 1 + 1, 4, none⟩ = some (.int .i64 a9) := fun x => by have h := (kept8 (w := (w.alloc (.cells #[.int .u32 a0, .int .i64 a1] 24)).alloc (.cells #[.int .u32 a2, .int .i64 a3] 24)) (hk x)).2.2.2.2.1; rwa [World.size_alloc, World.size_alloc] at h
    have C5 : ∀ x : Later wb, x.val.cell? ⟨w.heap.size + 1 + 1, 5, none⟩ = some (.int .i64 a10) := fun x => by have h := (kept8 (w := (w.alloc (.cells #[.int .u32 a0, .int .i64 a1] 24)).alloc (.cells #[.int .u32 a2, .int .i64 a3] 24)) (hk x)).2.2.2.2.2.1; rwa [World.size_alloc, World.size_alloc] at h
    have C6 : ∀ x : Later wb, x.val.cell? ⟨w.heap.size + 1 + 1, 6, none⟩ = some (.int .i64 a11) := fun x => by have h := (kept8 (w := (w.alloc (.cells #[.int .u32 a0, .int .i64 a1] 24)).alloc (.cells #[.int .u32 a2, .int .i64 a3] 24)) (hk x)).2.2.2.2.2.2.1; rwa [World.size_alloc, World.size_alloc] at h
    have C7 : ∀ x : Later wb, x.val.cell? ⟨w.heap.size + 1 + 1, 7, none⟩ = some (.string a12) := fun x => by have h := (kept8 (w := (w.alloc (.cells #[.int .u32 a0, .int .i64 a1] 24)).alloc (.cells #[.int .u32 a2, .int .i64 a3] 24)) (hk x)).2.2.2.2.2.2.2; rwa [World.size_alloc, World.size_alloc] at h
    have hta' : ∀ h p (x : Later wb), Calls Try.prog 7 #[.agg #[.int .u32 h, .int .i64 p]] x.val fun e w'' => e = .returned (.agg #[.int .u32 h, .int .i64 p]) ∧ ∃ y : Later wb, w'' = y.val := fun h p x => calm_call (hta h p x.val)
    have hts' : ∀ (x : Later wb), Calls Try.prog 8 #[.agg #[.int .i64 a5, .int .i64 a6, .int .u32 a7, .int .u32 a8, .int .i64 a9, .int .i64 a10, .int .i64 a11, .string a12]] x.val fun e w'' => e = .returned (.agg #[.int .i64 a5, .int .i64 a6, .int .u32 a7, .int .u32 a8, .int .i64 a9, .int .i64 a10, .int .i64 a11, .string a12]) ∧ ∃ y : Later wb, w'' = y.val := fun x => calm_call (hts x.val)
    have hs' : ∀ (x : Later wb), Calls Try.prog 6 #[.agg #[.int .u32 a0, .int .i64 a1], .agg #[.int .u32 a2, .int .i64 a3], .int .i64 a4, .agg #[.int .i64 a5, .int .i64 a6, .int .u32 a7, .int .u32 a8, .int .i64 a9, .int .i64 a10, .int .i64 a11, .string a12]] x.val fun e w'' => e = .returned (.string b) ∧ ∃ y : Later wb, w'' = y.val := fun x => calm_call (hs x.val)
    have hi' : ∀ (x : Later wb), Calls Try.prog 9 #[.agg #[.int .u32 a0, .int .i64 a1], .agg #[.int .u32 a2, .int .i64 a3], .int .i64 a4, .agg #[.int .i64 a5, .int .i64 a6, .int .u32 a7, .int .u32 a8, .int .i64 a9, .int .i64 a10, .int .i64 a11, .string a12]] x.val fun e w'' => e = .returned (.string b) ∧ ∃ y : Later wb, w'' = y.val := fun x => calm_call (hi x.val)
    have hne : Nonempty (Later wb) := ⟨⟨wb, Since.refl _⟩⟩
    clear hk hta hts hs hi
    refine wp_region_calm (wb := wb) (by kernel_rfl) (by kernel_rfl) G ?_
    repeat (go_big_quiet_step (first | exact hta' _ _ _ | exact hts' _ | exact hs' _))
    refine wpQuiet_nil ?_
    rintro _ ⟨x1, rfl⟩
    go_wp2
    refine wp_region_calm (wb := wb) (by kernel_rfl) (by kernel_rfl) x1.ok ?_
    repeat (go_big_quiet_step (first | exact hta' _ _ _ | exact hts' _ | exact hi' _))
    refine wpQuiet_nil ?_
    rintro _ ⟨x2, rfl⟩
    go_wp2
    go_ret
    exact ⟨rfl, HB.trans x2.ok⟩
  · rw [if_neg hbig] at hsz
    unfold segVal at hsz
    go_enter Try.func3, Try.ntmps3
    go_wp2_with (go_at_call 5; refine (hsz _).mono ?_; rintro _ w1 ⟨rfl, g1⟩)
    go_ret
    exact ⟨rfl, ((((Since.refl _).alloc _).alloc _).alloc _).trans g1⟩

/-! ### THE ROW's STEP: WRITTEN OUT: LEAVE IT -/
set_option maxRecDepth 100000 in
theorem lifted (os : Os) (started : os.Started) (H : Type) (enc : TypeId × Value → H) :
    ReturnsInHanded {} Try.checked os 3 .any (Rows.fnExactPutDatagramSpec.pre6 enc Try.prog Try.f3 Rows.fnExactPutDatagramRow.domain false) (Rows.fnExactPutDatagramSpec.post enc Try.prog Try.f3 false true false false) := by
  refine returnsInHanded_of_change (C := Try.checked) own started (by kernel_rfl) Try.func3
    (ChangeSpec.witness6 (enc := enc) (C := Try.checked) false ⟨#[], #[.agg #[.int .u32 0, .int .i64 0], .agg #[.int .u32 0, .int .i64 0], .int .i64 0, .agg #[.int .i64 0, .int .i64 0, .int .u32 0, .int .u32 0, .int .i64 0, .int .i64 0, .int .i64 0, .string ByteArray.empty]], []⟩ 8 (by kernel_rfl) (by kernel_rfl) (by kernel_rfl) (by kernel_rfl)) ?_
  intro W base args ds gs before hval0 hW hcnd _
  have hval : ∀ (j : Nat) t v, Try.f3.params[j]? = some t → args[j]? = some v → Value.okWide Try.prog W .any base t v := hval0
  have hW' := hW
  obtain ⟨p, q, hA0, hV, rfl, hfz, hnd⟩ := hW
  have hA : DataW.TrodAll enc Try.prog W 0 (fun _ => true) true Try.f3.params.toList args.toList ds p := hA0
  rw [Try.params3] at hA hval
  obtain ⟨v0, vs0, d0, ds0, p0, q0, hargs, rfl, rfl, h0, r0⟩ := trodAll_cons hA
  obtain ⟨v1, vs1, d1, ds1, p1, q1, rfl, rfl, rfl, h1, r1⟩ := trodAll_cons r0
  obtain ⟨v2, vs2, d2, ds2, p2, q2, rfl, rfl, rfl, h2, r2⟩ := trodAll_cons r1
  obtain ⟨v3, vs3, d3, ds3, p3, q3, rfl, rfl, rfl, h3, r3⟩ := trodAll_cons r2
  obtain ⟨rfl, rfl, rfl⟩ := trodAll_nil r3
  obtain rfl : args = #[v0, v1, v2, v3] := by cases args; simp_all
  obtain ⟨rfl, rfl⟩ := trodVars_none hV
  obtain ⟨cs, ys, m0, rfl, hcs, rfl, rfl, hys, hf⟩ := open_aggs Try.underlying24 (by kernel_rfl) (by kernel_rfl) (hval 0 24 v0 rfl rfl) h0
  obtain ⟨c0, c1, rfl⟩ := array2 hcs
  obtain ⟨y0, y1, rfl⟩ := list2 hys
  have k0 := hf 0 _ rfl c0 y0 rfl rfl
  obtain ⟨a0, e0, rfl, w0⟩ := DataW.trod_int Try.underlying22 k0
  simp at e0
  subst e0
  have k1 := hf 1 _ rfl c1 y1 rfl rfl
  obtain ⟨a1, e1, rfl, w1⟩ := DataW.trod_int Try.underlying3 k1
  simp at e1
  subst e1
  clear hf hcs hys
  obtain ⟨cs, ys, m1, rfl, hcs, rfl, rfl, hys, hf⟩ := open_aggs Try.underlying24 (by kernel_rfl) (by kernel_rfl) (hval 1 24 v1 rfl rfl) h1
  obtain ⟨c2, c3, rfl⟩ := array2 hcs
  obtain ⟨y2, y3, rfl⟩ := list2 hys
  have k2 := hf 0 _ rfl c2 y2 rfl rfl
  obtain ⟨a2, e2, rfl, w2⟩ := DataW.trod_int Try.underlying22 k2
  simp at e2
  subst e2
  have k3 := hf 1 _ rfl c3 y3 rfl rfl
  obtain ⟨a3, e3, rfl, w3⟩ := DataW.trod_int Try.underlying3 k3
  simp at e3
  subst e3
  clear hf hcs hys
  obtain ⟨a4, rfl, rfl, rfl, w4⟩ := open_int Try.underlying3 (hval 2 3 v2 rfl rfl) h2
  obtain ⟨cs, ys, m3, rfl, hcs, rfl, rfl, hys, hf⟩ := open_aggs Try.underlying26 (by kernel_rfl) (by kernel_rfl) (hval 3 26 v3 rfl rfl) h3
  obtain ⟨c5, c6, c7, c8, c9, c10, c11, c12, rfl⟩ := array8 hcs
  obtain ⟨y5, y6, y7, y8, y9, y10, y11, y12, rfl⟩ := list8 hys
  have k5 := hf 0 _ rfl c5 y5 rfl rfl
  obtain ⟨a5, e5, rfl, w5⟩ := DataW.trod_int Try.underlying3 k5
  simp at e5
  subst e5
  have k6 := hf 1 _ rfl c6 y6 rfl rfl
  obtain ⟨a6, e6, rfl, w6⟩ := DataW.trod_int Try.underlying3 k6
  simp at e6
  subst e6
  have k7 := hf 2 _ rfl c7 y7 rfl rfl
  obtain ⟨a7, e7, rfl, w7⟩ := DataW.trod_int Try.underlying22 k7
  simp at e7
  subst e7
  have k8 := hf 3 _ rfl c8 y8 rfl rfl
  obtain ⟨a8, e8, rfl, w8⟩ := DataW.trod_int Try.underlying22 k8
  simp at e8
  subst e8
  have k9 := hf 4 _ rfl c9 y9 rfl rfl
  obtain ⟨a9, e9, rfl, w9⟩ := DataW.trod_int Try.underlying3 k9
  simp at e9
  subst e9
  have k10 := hf 5 _ rfl c10 y10 rfl rfl
  obtain ⟨a10, e10, rfl, w10⟩ := DataW.trod_int Try.underlying3 k10
  simp at e10
  subst e10
  have k11 := hf 6 _ rfl c11 y11 rfl rfl
  obtain ⟨a11, e11, rfl, w11⟩ := DataW.trod_int Try.underlying3 k11
  simp at e11
  subst e11
  have k12 := hf 7 _ rfl c12 y12 rfl rfl
  obtain ⟨a12, e12, rfl, w12⟩ := DataW.trod_string Try.underlying9 k12
  simp at e12
  subst e12
  clear hf hcs hys
  clear hA0 hval0
  simp only [List.flatMap_cons, List.flatMap_nil, List.map_cons, List.map_nil, List.append_nil] at hW'
  refine (walk a0 w0 a1 w1 a2 w2 a3 w3 a4 w4 a5 w5 a6 w6 a7 w7 a8 w8 a9 w9 a10 w10 a11 w11 a12 w12 W).mono fun e W' ⟨he, hg⟩ => ?_
  subst he
  exact ⟨_, rfl, _, _, _, [], [], [], hW', (trodAll_cons_mk (shut_bool Try.underlying4 _) trodAll_mk0), (trodAll_cons_mk (⟨2, trod_struct_mk (n := 1) (cs := [.int .u32 a0, .int .i64 a1]) (xs := [(.lit (.int .u32 a0), []), (.lit (.int .i64 a1), [])]) Try.underlying24 (by kernel_rfl) (by simp [show Try.prog.cellsOf 22 = 1 by kernel_rfl, show Try.prog.cellsOf 3 = 1 by kernel_rfl, DataW.trod, Try.underlying22, Try.underlying3, w0, w1])⟩ : DataW.Trod _ _ _ _ _ _ 24 (.agg #[.int .u32 a0, .int .i64 a1]) _ _) (trodAll_cons_mk (⟨2, trod_struct_mk (n := 1) (cs := [.int .u32 a2, .int .i64 a3]) (xs := [(.lit (.int .u32 a2), []), (.lit (.int .i64 a3), [])]) Try.underlying24 (by kernel_rfl) (by simp [show Try.prog.cellsOf 22 = 1 by kernel_rfl, show Try.prog.cellsOf 3 = 1 by kernel_rfl, DataW.trod, Try.underlying22, Try.underlying3, w2, w3])⟩ : DataW.Trod _ _ _ _ _ _ 24 (.agg #[.int .u32 a2, .int .i64 a3]) _ _) (trodAll_cons_mk (shut_int Try.underlying3 w4) (trodAll_cons_mk (⟨2, trod_struct_mk (n := 1) (cs := [.int .i64 a5, .int .i64 a6, .int .u32 a7, .int .u32 a8, .int .i64 a9, .int .i64 a10, .int .i64 a11, .string a12]) (xs := [(.lit (.int .i64 a5), []), (.lit (.int .i64 a6), []), (.lit (.int .u32 a7), []), (.lit (.int .u32 a8), []), (.lit (.int .i64 a9), []), (.lit (.int .i64 a10), []), (.lit (.int .i64 a11), []), (.lit (.string a12.data.toList), [])]) Try.underlying26 (by kernel_rfl) (by simp [show Try.prog.cellsOf 22 = 1 by kernel_rfl, show Try.prog.cellsOf 3 = 1 by kernel_rfl, show Try.prog.cellsOf 9 = 1 by kernel_rfl, DataW.trod, Try.underlying22, Try.underlying3, Try.underlying9, w5, w6, w7, w8, w9, w10, w11, w12])⟩ : DataW.Trod _ _ _ _ _ _ 26 (.agg #[.int .i64 a5, .int .i64 a6, .int .u32 a7, .int .u32 a8, .int .i64 a9, .int .i64 a10, .int .i64 a11, .string a12]) _ _) trodAll_mk0)))), rfl, hg.frame _, fun h => by cases h⟩

theorem over : Rows.fnExactPutDatagramRow.holds Try.pinned (OpenSpec.ofChange Rows.fnExactPutDatagramSpec) :=
  OpenClaim.holds_of_wide 3 Try.f3 rfl rfl rfl rfl rfl rfl rfl ⟨rfl, rfl, rfl, rfl, rfl⟩ rfl rfl rfl rfl rfl (by kernel_rfl) Try.func3 (by kernel_rfl)
    (of_decide_eq_true (by kernel_rfl)) (by unfold Func.isWrapper; first | (rw [if_pos (by decide +kernel)]; kernel_rfl) | (rw [if_neg (by decide +kernel)]; exact ⟨rfl, rfl⟩))
    (fun os started H enc _ => lifted os started H enc)

/-- ████ THE STATEMENT ████ -/
theorem proved : Rows.FnExactPutDatagramSaid :=
  over
#print axioms proved
end Go.Proofs.Ytneicghhggidnab.fnExactPutDatagram

namespace Go.Proofs.Ytneicghhggidnab
theorem fnExactPutDatagram_holds : Rows.FnExactPutDatagramSaid := fnExactPutDatagram.proved
#print axioms fnExactPutDatagram_holds
end Go.Proofs.Ytneicghhggidnab
