/-
  A segment that came in as data, opened; and the laws' functions over segments.
-/
import Derived.Test.YtjilpicpfddbfabDoorSegTab
import Derived.Test.YtjilpicpfddbfabDoorAgg
import Derived.Test.YtjilpicpfddbfabDoorM1
import Derived.Carry
namespace Go.Proofs.YtjilpicpfddbfabDoor
open Go.ChangeShapes Go.WideShapes Go.ChangeAt Go.RowKit
set_option linter.unusedVariables false
set_option maxRecDepth 10000

/-- The cells of a segment that came in are in their kinds' bounds. -/
structure WfS (s : Sg) : Prop where
  v_fr : (Lit.int .i64 s.fr).wf = true
  v_tt : (Lit.int .i64 s.tt).wf = true
  v_sq : (Lit.int .u32 s.sq).wf = true
  v_ak : (Lit.int .u32 s.ak).wf = true
  v_fl : (Lit.int .i64 s.fl).wf = true
  v_wn : (Lit.int .i64 s.wn).wf = true
  v_ms : (Lit.int .i64 s.ms).wf = true
  v_d : s.d.size ≤ maxLen

theorem open_seg {H : Type} {enc : TypeId × Value → H} {W : World} {base : Nat} {v : Value} {d : DataW H} {p : List MemPlace} (hv : Value.okWide Tryd.prog W .any base 26 v) (h : DataW.Trod enc Tryd.prog W 0 (fun _ => true) true 26 v d p) :
    ∃ s : Sg, v = .agg (sgCells s) ∧ WfS s := by
  obtain ⟨cs, ys, m0, rfl, hcs, rfl, rfl, hys, hf⟩ := open_aggs Tryd.underlying26 (by kernel_rfl) (by kernel_rfl) hv h
  obtain ⟨c0, c1, c2, c3, c4, c5, c6, c7, rfl⟩ := array8 hcs
  obtain ⟨y0, y1, y2, y3, y4, y5, y6, y7, rfl⟩ := list8 hys
  have k0 := hf 0 _ rfl c0 y0 rfl rfl
  obtain ⟨a0, e0, rfl, w0⟩ := DataW.trod_int Tryd.underlying3 k0
  simp at e0
  subst e0
  have k1 := hf 1 _ rfl c1 y1 rfl rfl
  obtain ⟨a1, e1, rfl, w1⟩ := DataW.trod_int Tryd.underlying3 k1
  simp at e1
  subst e1
  have k2 := hf 2 _ rfl c2 y2 rfl rfl
  obtain ⟨a2, e2, rfl, w2⟩ := DataW.trod_int Tryd.underlying22 k2
  simp at e2
  subst e2
  have k3 := hf 3 _ rfl c3 y3 rfl rfl
  obtain ⟨a3, e3, rfl, w3⟩ := DataW.trod_int Tryd.underlying22 k3
  simp at e3
  subst e3
  have k4 := hf 4 _ rfl c4 y4 rfl rfl
  obtain ⟨a4, e4, rfl, w4⟩ := DataW.trod_int Tryd.underlying3 k4
  simp at e4
  subst e4
  have k5 := hf 5 _ rfl c5 y5 rfl rfl
  obtain ⟨a5, e5, rfl, w5⟩ := DataW.trod_int Tryd.underlying3 k5
  simp at e5
  subst e5
  have k6 := hf 6 _ rfl c6 y6 rfl rfl
  obtain ⟨a6, e6, rfl, w6⟩ := DataW.trod_int Tryd.underlying3 k6
  simp at e6
  subst e6
  have k7 := hf 7 _ rfl c7 y7 rfl rfl
  obtain ⟨a7, e7, rfl, w7⟩ := DataW.trod_string Tryd.underlying9 k7
  simp at e7
  subst e7
  exact ⟨⟨a0, a1, a2, a3, a4, a5, a6, a7⟩, rfl, ⟨w0, w1, w2, w3, w4, w5, w6, w7⟩⟩

theorem lsg_big : IsBig 26 8 := ⟨⟨_, Tryd.underlying26, rfl⟩, by kernel_rfl⟩

theorem toSg (s : Sg) (w : World) : Calls Tryd.prog 8 #[.agg (sgCells s)] w fun e w' => e = .returned (.agg (sgCells s)) ∧ Since w w' := toSeg s.fr s.tt s.sq s.ak s.fl s.wn s.ms s.d w

theorem szSg (s : Sg) (l : Int) (hl : 0 ≤ l ∧ l ≤ 1048576) (hd : s.d.size ≤ maxLen) (w : World) : Calls Tryd.prog 5 #[.agg (sgCells s), .int .i64 l] w fun e w' => e = .returned (.int .i64 (if (s.d.size : Int) ≤ l then l - s.d.size else -1)) ∧ Since w w' :=
  szSeg s.fr s.tt s.sq s.ak s.fl s.wn s.ms s.d l hl hd w
end Go.Proofs.YtjilpicpfddbfabDoor
