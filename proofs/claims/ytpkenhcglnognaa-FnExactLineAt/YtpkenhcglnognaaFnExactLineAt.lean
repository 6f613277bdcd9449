/-
  Proved: at every table and any two addresses impl.LineAt answers as spec.LineAt and leaves its arguments as they were (the law FnExactLineAt returns true, and its arguments read as before); no condition (of a table whose lines hold more than 1048576 lines, parts and bytes together the law asks nothing).
-/
import Derived.Test.YtpkenhcglnognaaRows
import Derived.Test.YtpkenhcglnognaaLineAtI
import Derived.Test.YtpkenhcglnognaaM3
import Derived.Test.YtpkenhcglnognaaOp15
import Derived.WalkKit
import Derived.ProofKit
import Derived.OpenShut
import Derived.ShutString
import Derived.ChangeOld
import Derived.Below
import Derived.Carry
namespace Go.Proofs.Ytpkenhcglnognaa.fnExactLineAt
open Go.ChangeShapes Go.WideShapes Go.ChangeAt Go.RowKit
open Go.ChangeMaps (open_string shut_string)
set_option linter.unusedVariables false

theorem own : ownKnob Try.prog.godebug = none := by kernel_rfl
theorem laidOut : laidOutB Try.prog = true := by kernel_rfl

theorem num_wf {l : Ln} {ps : List (Int × ByteArray)} (u : WfL l ps) : NumL l := ⟨word_wf u, u.hp, u.tp⟩

theorem AtR.some (t : Tb) (xs : List Ln) (pp : List (List (Int × ByteArray))) (m : Ln) : ∃ r, AtR t xs pp m r := by
  by_cases h : TableOk t xs pp
  · by_cases k : ∃ k : Nat, k < t.ln ∧ SameAd (lAt xs k) m
    · obtain ⟨k, h1, h2⟩ := k
      exact ⟨k, .inr ⟨h, .inr ⟨k, h1, rfl, h2⟩⟩⟩
    · exact ⟨-1, .inr ⟨h, .inl ⟨rfl, fun j hj hs => k ⟨j, hj, hs⟩⟩⟩⟩
  · exact ⟨-1, .inl ⟨h, rfl⟩⟩

theorem find_like {n : Nat} {xs ys : List Ln} (h : Like n xs ys) {m : Ln} {r : Int} (k : FindR ys n m r) : FindR xs n m r := by
  rcases k with ⟨rfl, k⟩ | ⟨j, hj, rfl, k⟩
  · exact .inl ⟨rfl, fun j hj q => k j hj ((like_ad (h j hj) rfl).1 q)⟩
  · exact .inr ⟨j, hj, rfl, (like_ad (h j hj) rfl).2 k⟩

theorem at_like {w : World} {B M g : Nat} {t : Tb} {xs ys : List Ln} {pp : List (List (Int × ByteArray))} {m : Ln} {r : Int} (h : CpT w B M t.ln xs pp g ys) (k : AtR (cpT t g) ys pp m r) : AtR t xs pp m r := by
  have e : TableOk t xs pp ↔ TableOk (cpT t g) ys pp := by
    have q1 := h.ok (q := true) (t := t) (xs := xs) (pp := pp)
    constructor
    · intro a; exact (q1 ⟨fun _ => a, fun _ => rfl⟩).1 rfl
    · rintro ⟨a, b⟩; exact ⟨⟨a.po, a.rm, a.ep, a.nw, a.ln⟩, (like_lines h.lk pp).2 b⟩
  rcases k with ⟨a, rfl⟩ | ⟨a, b⟩
  · exact .inl ⟨fun q => a (e.1 q), rfl⟩
  · exact .inr ⟨e.2 a, find_like h.lk b⟩

theorem specLA (t : Tb) (xs : List Ln) (pp : List (List (Int × ByteArray))) (m : Ln) (r : Int) (hr : AtR t xs pp m r) (u : GoodT t xs pp) (g : Nat) (ys : List Ln) (B M : Nat) (w : World) (h : CpT w B M t.ln xs pp g ys) :
    Calls Try.prog 10 #[.agg (tbCells (cpT t g)), .agg #[.int .u32 m.hH, .int .i64 m.hP], .agg #[.int .u32 m.tH, .int .i64 m.tP]] w fun e w' => e = .returned (.int .i64 r) ∧ Since w w' := by
  refine (specLineAt (cpT t g) ys pp m u.ln (h.gc u) w h.ol.reads).mono ?_
  rintro e w' ⟨r', rfl, k, s⟩
  rw [hr.one (at_like h k)]
  exact ⟨rfl, s⟩

theorem implLA (t : Tb) (xs : List Ln) (pp : List (List (Int × ByteArray))) (m : Ln) (r : Int) (hr : AtR t xs pp m r) (u : GoodT t xs pp) (hN : NumL m) (hn : ∀ i, i < t.ln → NumL (lAt xs i)) (g : Nat) (ys : List Ln) (B M : Nat) (w : World) (h : CpT w B M t.ln xs pp g ys) :
    Calls Try.prog 12 #[.agg (tbCells (cpT t g)), .agg #[.int .u32 m.hH, .int .i64 m.hP], .agg #[.int .u32 m.tH, .int .i64 m.tP]] w fun e w' => e = .returned (.int .i64 r) ∧ Since w w' := by
  refine (implLineAt (cpT t g) ys pp m ⟨g, 0, none⟩ rfl (Nat.le_refl _) hN u.ln (h.gc u) (fun i hi => ?_) w h.ol.hl.lt h.ol.reads).mono ?_
  · rw [like_put (h.lk i hi)]
    exact hn i hi
  · rintro e w' ⟨r', rfl, k, s⟩
    rw [hr.one (at_like h k)]
    exact ⟨rfl, s⟩

set_option maxHeartbeats 16000000 in
set_option maxRecDepth 20000 in
theorem walk (t0 : Tb) (xs0 : List Ln) (pp0 : List (List (Int × ByteArray))) (h1 p1 : Int) (h2 p2 : Int) (w : World) (u0 : WfT w t0 xs0 pp0) (x1 : (Lit.int .u32 h1).wf = true) (y1 : (Lit.int .i64 p1).wf = true) (x2 : (Lit.int .u32 h2).wf = true) (y2 : (Lit.int .i64 p2).wf = true) :
    Calls Try.prog 4 #[.agg (tbCells t0), addrVal h1 p1, addrVal h2 p2] w fun e w' => e = .returned (.bool true) ∧ Below w.heap.size w w' := by
  have G := Since.refl w
  have hS := fun wx Rx => szTable t0 xs0 pp0 wx Rx u0.wl
  go_enter Try.func4, Try.ntmps4
  go_upto_region 0 with (fail)
  refine vR ?_
  refine vW (w.alloc (.cells (tbCells t0) 25)) (.pointer (some ⟨w.heap.size, 0, none⟩)) ?_
  have qB2 := Blk.new w (tbCells t0) 25
  have qg3 := (Since.refl w).alloc (.cells (tbCells t0) 25)
  replace G := G.trans qg3
  generalize w.alloc (.cells (tbCells t0) 25) = qw1 at  G qB2 qg3 ⊢
  have qB2_l := qB2.lt
  have qg3_s := qg3.size
  refine vW (qw1.alloc (.cells #[.int .u32 h1, .int .i64 p1] 35)) (.pointer (some ⟨qw1.heap.size, 0, none⟩)) ?_
  have qB5 := Blk.new qw1 #[.int .u32 h1, .int .i64 p1] 35
  have qg6 := (Since.refl qw1).alloc (.cells #[.int .u32 h1, .int .i64 p1] 35)
  replace qB2 := qB2.since qg6
  replace G := G.trans qg6
  generalize qw1.alloc (.cells #[.int .u32 h1, .int .i64 p1] 35) = qw4 at qB2 G qB5 qg6 ⊢
  have qB5_l := qB5.lt
  have qg6_s := qg6.size
  refine vW (qw4.alloc (.cells #[.int .u32 h2, .int .i64 p2] 35)) (.pointer (some ⟨qw4.heap.size, 0, none⟩)) ?_
  have qB8 := Blk.new qw4 #[.int .u32 h2, .int .i64 p2] 35
  have qg9 := (Since.refl qw4).alloc (.cells #[.int .u32 h2, .int .i64 p2] 35)
  replace qB2 := qB2.since qg9
  replace qB5 := qB5.since qg9
  replace G := G.trans qg9
  generalize qw4.alloc (.cells #[.int .u32 h2, .int .i64 p2] 35) = qw7 at qB2 qB5 G qB8 qg9 ⊢
  have qB8_l := qB8.lt
  have qg9_s := qg9.size
  refine vV (.bool false) ?_
  refine vE #[.agg (tbCells t0),.agg #[.int .u32 h1, .int .i64 p1],.agg #[.int .u32 h2, .int .i64 p2],.pointer (some ⟨w.heap.size, 0, none⟩),.pointer (some ⟨qw1.heap.size, 0, none⟩),.pointer (some ⟨qw4.heap.size, 0, none⟩),.bool false,U,U,U,U,U,U,U,U,U,U,U,U,U,U,U,U,U,U,U,U,U,U,U,U,U,U,U,U,U,U,U,U] ?_
  go_upto_region 1 with (fail)
  refine vR ?_
  refine vV (.int .i64 1048576) ?_
  refine vE #[.agg (tbCells t0),.agg #[.int .u32 h1, .int .i64 p1],.agg #[.int .u32 h2, .int .i64 p2],.pointer (some ⟨w.heap.size, 0, none⟩),.pointer (some ⟨qw1.heap.size, 0, none⟩),.pointer (some ⟨qw4.heap.size, 0, none⟩),.bool false,.int .i64 1048576,U,U,U,U,U,U,U,U,U,U,U,U,U,U,U,U,U,U,U,U,U,U,U,U,U,U,U,U,U,U,U] ?_
  go_upto_region 2 with (fail)
  refine vR ?_
  refine vB ltb_big qB2 rfl ?_
  refine vV (.int .i64 1048576) ?_
  refine vC (hS _ (u0.rl.since G)) ?_
  rintro _ qw10 ⟨⟨r, rfl, hb⟩, qg11⟩
  refine ⟨_, rfl, ?_⟩
  replace qB2 := qB2.since qg11
  replace qB5 := qB5.since qg11
  replace qB8 := qB8.since qg11
  replace G := G.trans qg11
  have qg11_s := qg11.size
  replace hb : Hid _ := hb
  refine vV (.int .i64 r) ?_
  refine vE #[.agg (tbCells t0),.agg #[.int .u32 h1, .int .i64 p1],.agg #[.int .u32 h2, .int .i64 p2],.pointer (some ⟨w.heap.size, 0, none⟩),.pointer (some ⟨qw1.heap.size, 0, none⟩),.pointer (some ⟨qw4.heap.size, 0, none⟩),.bool false,.int .i64 r,U,U,U,.agg (tbCells t0),.int .i64 1048576,.int .i64 r,U,U,U,U,U,U,U,U,U,U,U,U,U,U,U,U,U,U,U,U,U,U,U,U,U] ?_
  clear hS
  rcases Int.lt_or_le r 0 with hr | hr
  · go_wp2_with (fail)
    go_ret
    exact ⟨rfl, G⟩
  have gd := goodT_of u0 (hb.out hr)
  clear hb
  have hT := fun wx Rx => toTb t0 xs0 pp0 gd wx Rx
  have hN : NumL ⟨h1, p1, h2, p2, cnZero⟩ := ⟨⟨isWord_wf x1, isWord_wf x2⟩, y1, y2⟩
  have hnum : ∀ i, i < t0.ln → NumL (lAt xs0 i) := fun i hi => num_wf (u0.wl i hi)
  obtain ⟨r0, hr0⟩ := AtR.some t0 xs0 pp0 ⟨h1, p1, h2, p2, cnZero⟩
  have hA := fun wx => toAddr h1 p1 wx
  have hB := fun wx => toAddr h2 p2 wx
  unfold addrVal at hA hB
  have hSp := fun kk zs B M wx (c : CpT wx B M t0.ln xs0 pp0 kk zs) => specLA t0 xs0 pp0 ⟨h1, p1, h2, p2, cnZero⟩ r0 hr0 gd kk zs B M wx c
  have hIm := fun kk zs B M wx (c : CpT wx B M t0.ln xs0 pp0 kk zs) => implLA t0 xs0 pp0 ⟨h1, p1, h2, p2, cnZero⟩ r0 hr0 gd hN hnum kk zs B M wx c
  go_upto_region 3 with (fail)
  refine vR ?_
  refine vV (.int .i64 r) ?_
  refine vV (.bool false) ?_ (hrun := by simp [execOp, go_sem]; omega)
  refine vE #[.agg (tbCells t0),.agg #[.int .u32 h1, .int .i64 p1],.agg #[.int .u32 h2, .int .i64 p2],.pointer (some ⟨w.heap.size, 0, none⟩),.pointer (some ⟨qw1.heap.size, 0, none⟩),.pointer (some ⟨qw4.heap.size, 0, none⟩),.bool false,.int .i64 r,U,U,U,.agg (tbCells t0),.int .i64 1048576,.int .i64 r,.int .i64 r,.bool false,U,U,U,U,U,U,U,U,U,U,U,U,U,U,U,U,U,U,U,U,U,U,U] ?_
  go_upto_region 5 with (fail)
  refine wp_region_each (wb := qw10) (fun zi x v => match zi with
      | 0 => v = .agg (tbCells t0)
      | 1 => ∃ kk, v = .agg (tbCells (cpT t0 kk)) ∧ ∃ zs B M, CpT x B M t0.ln xs0 pp0 kk zs
      | 2 => v = .agg #[.int .u32 h1, .int .i64 p1]
      | 3 => v = .agg #[.int .u32 h1, .int .i64 p1]
      | 4 => v = .agg #[.int .u32 h2, .int .i64 p2]
      | 5 => v = .agg #[.int .u32 h2, .int .i64 p2]
      | 6 => v = .int .i64 r0
      | 7 => v = .int .i64 r0
      | _ => True) (fun v => { tmps := #[.agg (tbCells t0),.agg #[.int .u32 h1, .int .i64 p1],.agg #[.int .u32 h2, .int .i64 p2],.pointer (some ⟨w.heap.size, 0, none⟩),.pointer (some ⟨qw1.heap.size, 0, none⟩),.pointer (some ⟨qw4.heap.size, 0, none⟩),.bool false,.int .i64 r,v 7,U,U,.agg (tbCells t0),.int .i64 1048576,.int .i64 r,.int .i64 r,.bool false,v 0,v 1,v 2,v 3,v 4,v 5,v 6,U,U,U,U,U,U,U,U,U,U,U,U,U,U,U,U], defers := [] }) (by kernel_rfl) (by kernel_rfl) (Since.refl _) ?_ (fun vals => by kernel_rfl) ?_ ?_
  case refine_1 =>
    intro j x x' v h1 h2
    match j, h2 with
    | 1, h2 =>
      obtain ⟨kk, e, zs, B, M, T⟩ := h2
      exact ⟨kk, e, zs, B, M, T.since h1⟩
    | 0, h2 | 2, h2 | 3, h2 | 4, h2 | 5, h2 | 6, h2 | 7, h2 => exact h2
    | n + 8, _ => trivial
  case refine_2 =>
    repeat (first | exact eachDoes_nil | refine eachDoes_cons ?_ ?_)
    all_goals intro vals x hx hv
    all_goals simp [Region.binds] at hv
    · simp [does, doesUpon, go_sem, hv, Since.refl]
    · obtain ⟨⟨kk, h0, zs, B, M, T⟩, h3, h5⟩ := hv
      simp [does, doesUpon, go_sem, h0, h3, h5]
      refine (hSp kk zs B M _ T).mono ?_
      rintro _ x' ⟨rfl, h1⟩
      simp [h1]
    · simp [does, doesUpon, go_sem, hv]
      refine (hB _).mono ?_
      rintro _ x' ⟨rfl, h1⟩
      simp [h1]
    · exact does_load lad_big rfl (qB8.since hx) _ rfl rfl ⟨Since.refl _, rfl⟩
    · simp [does, doesUpon, go_sem, hv]
      refine (hA _).mono ?_
      rintro _ x' ⟨rfl, h1⟩
      simp [h1]
    · exact does_load lad_big rfl (qB5.since hx) _ rfl rfl ⟨Since.refl _, rfl⟩
    · simp [does, doesUpon, go_sem, hv]
      refine (hT _ (u0.rl.since (G.trans hx))).mono ?_
      rintro _ x' ⟨kk, zs, rfl, T, h1⟩
      exact ⟨_, rfl, h1, kk, rfl, zs, _, _, T⟩
    · exact does_load ltb_big rfl (qB2.since hx) _ rfl rfl ⟨Since.refl _, rfl⟩
  case refine_3 =>
    intro qv13 qw12 hx hv
    have hv0 : qv13 0 = _ := hv 0 (by decide)
    have hv2 : qv13 2 = _ := hv 2 (by decide)
    have hv3 : qv13 3 = _ := hv 3 (by decide)
    have hv4 : qv13 4 = _ := hv 4 (by decide)
    have hv5 : qv13 5 = _ := hv 5 (by decide)
    have hv6 : qv13 6 = _ := hv 6 (by decide)
    have hv7 : qv13 7 = _ := hv 7 (by decide)
    clear hv
    simp only [hv0, hv2, hv3, hv4, hv5, hv6, hv7]
    clear hv0 hv2 hv3 hv4 hv5 hv6 hv7
    replace qB2 := qB2.since hx
    replace qB5 := qB5.since hx
    replace qB8 := qB8.since hx
    replace G := G.trans hx
    have qw12_s := hx.size
    clear hx
    go_upto_region 6 with (fail)
    refine vR ?_
    refine vB ltb_big qB2 rfl ?_
    refine vC (hT _ (u0.rl.since G)) ?_
    rintro _ qw14 ⟨g2, y2, rfl, H2, qg15⟩
    refine ⟨_, rfl, ?_⟩
    replace qB2 := qB2.since qg15
    replace qB5 := qB5.since qg15
    replace qB8 := qB8.since qg15
    replace G := G.trans qg15
    have qg15_s := qg15.size
    refine vW (qw14.alloc (.cells (tbCells tbZero) 30)) (.pointer (some ⟨qw14.heap.size, 0, none⟩)) ?_
    have qB17 := Blk.new qw14 (tbCells tbZero) 30
    have qg18 := (Since.refl qw14).alloc (.cells (tbCells tbZero) 30)
    replace qB2 := qB2.since qg18
    replace qB5 := qB5.since qg18
    replace qB8 := qB8.since qg18
    replace H2 := H2.since qg18
    replace G := G.trans qg18
    generalize qw14.alloc (.cells (tbCells tbZero) 30) = qw16 at qB2 qB5 qB8 H2 G qB17 qg18 ⊢
    have qB17_l := qB17.lt
    have qg18_s := qg18.size
    refine sB (tbCells (cpT t0 g2)) tb_big qB17 rfl rfl (tb_one _) ?_
    intro qw19 qt20 qB21
    clear qB17
    replace qB2 := qB2.touch qt20 (by omega)
    replace qB5 := qB5.touch qt20 (by omega)
    replace qB8 := qB8.touch qt20 (by omega)
    replace H2 := H2.touch qt20 (by omega)
    replace G := since_touch G qt20 (by omega)
    have qt20_s := qt20.size
    refine vE #[.agg (tbCells t0),.agg #[.int .u32 h1, .int .i64 p1],.agg #[.int .u32 h2, .int .i64 p2],.pointer (some ⟨w.heap.size, 0, none⟩),.pointer (some ⟨qw1.heap.size, 0, none⟩),.pointer (some ⟨qw4.heap.size, 0, none⟩),.bool false,.int .i64 r,.int .i64 r0,.pointer (some ⟨qw14.heap.size, 0, none⟩),U,.agg (tbCells t0),.int .i64 1048576,.int .i64 r,.int .i64 r,.bool false,.agg (tbCells t0),qv13 1,.agg #[.int .u32 h1, .int .i64 p1],.agg #[.int .u32 h1, .int .i64 p1],.agg #[.int .u32 h2, .int .i64 p2],.agg #[.int .u32 h2, .int .i64 p2],.int .i64 r0,.agg (tbCells t0),.agg (tbCells (cpT t0 g2)),U,U,U,U,U,U,U,U,U,U,U,U,U,U] ?_
    go_upto_region 7 with (fail)
    refine wp_region_each (wb := qw19) (fun zi x v => match zi with
        | 0 => v = .agg (tbCells (cpT t0 g2))
        | 1 => v = .agg #[.int .u32 h1, .int .i64 p1]
        | 2 => v = .agg #[.int .u32 h1, .int .i64 p1]
        | 3 => v = .agg #[.int .u32 h2, .int .i64 p2]
        | 4 => v = .agg #[.int .u32 h2, .int .i64 p2]
        | 5 => v = .int .i64 r0
        | 6 => v = .int .i64 r0
        | _ => True) (fun v => { tmps := #[.agg (tbCells t0),.agg #[.int .u32 h1, .int .i64 p1],.agg #[.int .u32 h2, .int .i64 p2],.pointer (some ⟨w.heap.size, 0, none⟩),.pointer (some ⟨qw1.heap.size, 0, none⟩),.pointer (some ⟨qw4.heap.size, 0, none⟩),.bool false,.int .i64 r,.int .i64 r0,.pointer (some ⟨qw14.heap.size, 0, none⟩),v 6,.agg (tbCells t0),.int .i64 1048576,.int .i64 r,.int .i64 r,.bool false,.agg (tbCells t0),qv13 1,.agg #[.int .u32 h1, .int .i64 p1],.agg #[.int .u32 h1, .int .i64 p1],.agg #[.int .u32 h2, .int .i64 p2],.agg #[.int .u32 h2, .int .i64 p2],.int .i64 r0,.agg (tbCells t0),.agg (tbCells (cpT t0 g2)),v 0,v 1,v 2,v 3,v 4,v 5,U,U,U,U,U,U,U,U], defers := [] }) (by kernel_rfl) (by kernel_rfl) (Since.refl _) ?_ (fun vals => by kernel_rfl) ?_ ?_
    case refine_1 =>
      intro j x x' v h1 h2
      match j, h2 with
      | 0, h2 | 1, h2 | 2, h2 | 3, h2 | 4, h2 | 5, h2 | 6, h2 => exact h2
      | n + 7, _ => trivial
    case refine_2 =>
      repeat (first | exact eachDoes_nil | refine eachDoes_cons ?_ ?_)
      all_goals intro vals x hx hv
      all_goals simp [Region.binds] at hv
      · simp [does, doesUpon, go_sem, hv, Since.refl]
      · obtain ⟨h0, h3, h5⟩ := hv
        simp [does, doesUpon, go_sem, h0, h3, h5]
        refine (hIm g2 y2 _ _ _ (H2.since hx)).mono ?_
        rintro _ x' ⟨rfl, h1⟩
        simp [h1]
      · simp [does, doesUpon, go_sem, hv]
        refine (hB _).mono ?_
        rintro _ x' ⟨rfl, h1⟩
        simp [h1]
      · exact does_load lad_big rfl (qB8.since hx) _ rfl rfl ⟨Since.refl _, rfl⟩
      · simp [does, doesUpon, go_sem, hv]
        refine (hA _).mono ?_
        rintro _ x' ⟨rfl, h1⟩
        simp [h1]
      · exact does_load lad_big rfl (qB5.since hx) _ rfl rfl ⟨Since.refl _, rfl⟩
      · exact does_load tb_big rfl (qB21.since hx) _ rfl rfl ⟨Since.refl _, rfl⟩
    case refine_3 =>
      intro qv23 qw22 hx hv
      have hv0 : qv23 0 = _ := hv 0 (by decide)
      have hv1 : qv23 1 = _ := hv 1 (by decide)
      have hv2 : qv23 2 = _ := hv 2 (by decide)
      have hv3 : qv23 3 = _ := hv 3 (by decide)
      have hv4 : qv23 4 = _ := hv 4 (by decide)
      have hv5 : qv23 5 = _ := hv 5 (by decide)
      have hv6 : qv23 6 = _ := hv 6 (by decide)
      clear hv
      simp only [hv0, hv1, hv2, hv3, hv4, hv5, hv6]
      clear hv0 hv1 hv2 hv3 hv4 hv5 hv6
      replace qB2 := qB2.since hx
      replace qB5 := qB5.since hx
      replace qB8 := qB8.since hx
      replace qB21 := qB21.since hx
      replace H2 := H2.since hx
      replace G := G.trans hx
      have qw22_s := hx.size
      clear hx
      go_upto_region 8 with (fail)
      refine vR ?_
      refine vV (.int .i64 r0) ?_
      refine vV (.int .i64 r0) ?_
      refine vV (.bool false) ?_ (hrun := by simp [execOp, go_sem])
      refine vE #[.agg (tbCells t0),.agg #[.int .u32 h1, .int .i64 p1],.agg #[.int .u32 h2, .int .i64 p2],.pointer (some ⟨w.heap.size, 0, none⟩),.pointer (some ⟨qw1.heap.size, 0, none⟩),.pointer (some ⟨qw4.heap.size, 0, none⟩),.bool false,.int .i64 r,.int .i64 r0,.pointer (some ⟨qw14.heap.size, 0, none⟩),.int .i64 r0,.agg (tbCells t0),.int .i64 1048576,.int .i64 r,.int .i64 r,.bool false,.agg (tbCells t0),qv13 1,.agg #[.int .u32 h1, .int .i64 p1],.agg #[.int .u32 h1, .int .i64 p1],.agg #[.int .u32 h2, .int .i64 p2],.agg #[.int .u32 h2, .int .i64 p2],.int .i64 r0,.agg (tbCells t0),.agg (tbCells (cpT t0 g2)),.agg (tbCells (cpT t0 g2)),.agg #[.int .u32 h1, .int .i64 p1],.agg #[.int .u32 h1, .int .i64 p1],.agg #[.int .u32 h2, .int .i64 p2],.agg #[.int .u32 h2, .int .i64 p2],.int .i64 r0,.int .i64 r0,.int .i64 r0,.bool false,U,U,U,U,U] ?_
      go_upto_region 10 with (fail)
      refine wp_region_each (wb := qw22) (fun zi x v => match zi with
          | 0 => v = .agg (tbCells (cpT t0 g2))
          | 1 => v = .agg (tbCells t0)
          | 2 => ∃ kk, v = .agg (tbCells (cpT t0 kk)) ∧ ∃ zs B M, CpT x B M t0.ln xs0 pp0 kk zs
          | 3 => v = .bool true
          | 4 => v = .bool false
          | _ => True) (fun v => { tmps := #[.agg (tbCells t0),.agg #[.int .u32 h1, .int .i64 p1],.agg #[.int .u32 h2, .int .i64 p2],.pointer (some ⟨w.heap.size, 0, none⟩),.pointer (some ⟨qw1.heap.size, 0, none⟩),.pointer (some ⟨qw4.heap.size, 0, none⟩),.bool false,.int .i64 r,.int .i64 r0,.pointer (some ⟨qw14.heap.size, 0, none⟩),.int .i64 r0,.agg (tbCells t0),.int .i64 1048576,.int .i64 r,.int .i64 r,.bool false,.agg (tbCells t0),qv13 1,.agg #[.int .u32 h1, .int .i64 p1],.agg #[.int .u32 h1, .int .i64 p1],.agg #[.int .u32 h2, .int .i64 p2],.agg #[.int .u32 h2, .int .i64 p2],.int .i64 r0,.agg (tbCells t0),.agg (tbCells (cpT t0 g2)),.agg (tbCells (cpT t0 g2)),.agg #[.int .u32 h1, .int .i64 p1],.agg #[.int .u32 h1, .int .i64 p1],.agg #[.int .u32 h2, .int .i64 p2],.agg #[.int .u32 h2, .int .i64 p2],.int .i64 r0,.int .i64 r0,.int .i64 r0,.bool false,v 0,v 1,v 2,v 3,v 4], defers := [] }) (by kernel_rfl) (by kernel_rfl) (Since.refl _) ?_ (fun vals => by kernel_rfl) ?_ ?_
      case refine_1 =>
        intro j x x' v h1 h2
        match j, h2 with
        | 2, h2 =>
          obtain ⟨kk, e, zs, B, M, T⟩ := h2
          exact ⟨kk, e, zs, B, M, T.since h1⟩
        | 0, h2 | 1, h2 | 3, h2 | 4, h2 => exact h2
        | n + 5, _ => trivial
      case refine_2 =>
        repeat (first | exact eachDoes_nil | refine eachDoes_cons ?_ ?_)
        all_goals intro vals x hx hv
        all_goals simp [Region.binds] at hv
        · simp [does, doesUpon, go_sem, hv, Since.refl]
        · obtain ⟨h0, kk, h2, zs, B, M, T⟩ := hv
          simp [does, doesUpon, go_sem, h0, h2]
          refine (eqTb t0 xs0 y2 zs pp0 gd _ _ _ _ g2 kk _ (H2.since hx) T).mono ?_
          rintro _ x' ⟨rfl, h1⟩
          simp [h1]
        · simp [does, doesUpon, go_sem, hv]
          refine (hT _ (u0.rl.since (G.trans hx))).mono ?_
          rintro _ x' ⟨kk, zs, rfl, T, h1⟩
          exact ⟨_, rfl, h1, kk, rfl, zs, _, _, T⟩
        · exact does_load ltb_big rfl (qB2.since hx) _ rfl rfl ⟨Since.refl _, rfl⟩
        · exact does_load tb_big rfl (qB21.since hx) _ rfl rfl ⟨Since.refl _, rfl⟩
      case refine_3 =>
        intro vals x hx hv
        have hv4 : vals 4 = _ := hv 4 (by decide)
        clear hv
        simp only [hv4]
        replace G := G.trans hx
        go_wp2_with (fail)
        go_ret
        exact ⟨rfl, G⟩

set_option maxRecDepth 100000 in
theorem lifted (os : Os) (started : os.Started) (H : Type) (enc : TypeId × Value → H) :
    ReturnsInHanded {} Try.checked os 4 .any (Rows.fnExactLineAtSpec.pre6 enc Try.prog Try.f4 Rows.fnExactLineAtRow.domain false) (Rows.fnExactLineAtSpec.post enc Try.prog Try.f4 false true false false) := by
  refine returnsInHanded_of_change (C := Try.checked) own started (by kernel_rfl) Try.func4
    (ChangeSpec.witness6 (enc := enc) (C := Try.checked) false ⟨#[], #[.agg (tbCells tbZero), .agg #[.int .u32 0, .int .i64 0], .agg #[.int .u32 0, .int .i64 0]], []⟩ 8 (by kernel_rfl) (by kernel_rfl) (by kernel_rfl) (by kernel_rfl)) ?_
  intro W base args ds gs before hval0 hW hcnd _
  have hval : ∀ (j : Nat) t v, Try.f4.params[j]? = some t → args[j]? = some v → Value.okWide Try.prog W .any base t v := hval0
  have hW' := hW
  obtain ⟨p, q, hA0, hV, rfl, hfz, hnd⟩ := hW
  have hA : DataW.TrodAll enc Try.prog W 0 (fun _ => true) true Try.f4.params.toList args.toList ds p := hA0
  rw [Try.params4] at hA hval
  obtain ⟨v0, vs0, d0, ds0, p0, q0, hargs, rfl, rfl, h0, r0⟩ := trodAll_cons hA
  obtain ⟨v1, vs1, d1, ds1, p1, q1, rfl, rfl, rfl, h1, r1⟩ := trodAll_cons r0
  obtain ⟨v2, vs2, d2, ds2, p2, q2, rfl, rfl, rfl, h2, r2⟩ := trodAll_cons r1
  obtain ⟨rfl, rfl, rfl⟩ := trodAll_nil r2
  obtain rfl : args = #[v0, v1, v2] := by cases args; simp_all
  obtain ⟨rfl, rfl⟩ := trodVars_none hV
  have e0 := h0
  have lt0 : ∀ x ∈ p0, x.block < W.heap.size := by obtain ⟨m, hm⟩ := e0; exact DataW.trod_lt m _ _ _ hm
  have e1 := h1
  have lt1 : ∀ x ∈ p1, x.block < W.heap.size := by obtain ⟨m, hm⟩ := e1; exact DataW.trod_lt m _ _ _ hm
  have e2 := h2
  have lt2 : ∀ x ∈ p2, x.block < W.heap.size := by obtain ⟨m, hm⟩ := e2; exact DataW.trod_lt m _ _ _ hm
  obtain ⟨tv0, xv0, qv0, rfl, u0⟩ := open_table (hval 0 25 v0 rfl rfl) h0
  obtain ⟨hv1, pv1, rfl, x1, y1⟩ := open_addr (hval 1 35 v1 rfl rfl) h1
  obtain ⟨hv2, pv2, rfl, x2, y2⟩ := open_addr (hval 2 35 v2 rfl rfl) h2
  clear hA0 hval0
  refine (walk tv0 xv0 qv0 hv1 pv1 hv2 pv2 W u0 x1 y1 x2 y2).mono fun e W' ⟨he, bel⟩ => ?_
  subst he
  exact ⟨_, rfl, _, _, _, [], _, [], hW', trodAll_mk1 (shut_bool Try.underlying4 _), (trodAll_cons_mk (Below.trod laidOut (by kernel_rfl) (of_decide_eq_true (by kernel_rfl)) e0 bel lt0) (trodAll_cons_mk (Below.trod laidOut (by kernel_rfl) (of_decide_eq_true (by kernel_rfl)) e1 bel lt1) (trodAll_cons_mk (Below.trod laidOut (by kernel_rfl) (of_decide_eq_true (by kernel_rfl)) e2 bel lt2) trodAll_mk0))), rfl, bel.frame _, fun h => by cases h⟩

theorem over : Rows.fnExactLineAtRow.holds Try.pinned (OpenSpec.ofChange Rows.fnExactLineAtSpec) :=
  OpenClaim.holds_of_wide 4 Try.f4 rfl rfl rfl rfl rfl rfl rfl ⟨rfl, rfl, rfl, rfl, rfl⟩ rfl rfl rfl rfl rfl (by kernel_rfl) Try.func4 (by kernel_rfl)
    (of_decide_eq_true (by kernel_rfl)) (by unfold Func.isWrapper; first | (rw [if_pos (by decide +kernel)]; kernel_rfl) | (rw [if_neg (by decide +kernel)]; exact ⟨rfl, rfl⟩))
    (fun os started H enc _ => lifted os started H enc)

theorem proved : Rows.FnExactLineAtSaid := over
end Go.Proofs.Ytpkenhcglnognaa.fnExactLineAt

namespace Go.Proofs.Ytpkenhcglnognaa
theorem fnExactLineAt_holds : Rows.FnExactLineAtSaid := fnExactLineAt.proved
#print axioms fnExactLineAt_holds
end Go.Proofs.Ytpkenhcglnognaa
