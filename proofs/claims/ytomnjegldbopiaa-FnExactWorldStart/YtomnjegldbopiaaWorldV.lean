/-
  A world (two lines, two pipes) in memory; four words; the laws' functions over them.
-/
import Derived.Test.YtomnjegldbopiaaPairMark
import Derived.Test.YtomnjegldbopiaaRelay
import Derived.Test.YtomnjegldbopiaaVl
import Derived.Laws.IdiomArrays
namespace Go.Proofs.Ytomnjegldbopiaa
open Go.ChangeShapes Go.WideShapes Go.ChangeAt Go.RowKit Go.Deep
set_option linter.unusedVariables false
set_option maxRecDepth 10000
set_option linter.unusedSimpArgs false

/-- A world. -/
structure Wd where
  l : Pr
  r : Pr
  bg : Bool
  ir : Int
  iz : Int
  rm : Int
  d : ByteArray
  e : Bool
  n : Int
  rn : Int
  f : ByteArray
  g : Bool
  m : Int

/-- What lies behind both lines. -/
def wdTail (p : Wd) : List Value := [.bool p.bg, .int .u32 p.ir, .int .u32 p.iz, .int .i64 p.rm, .string p.d, .bool p.e, .int .i64 p.n, .int .i64 p.rn, .string p.f, .bool p.g, .int .i64 p.m]

/-- Its cells. -/
def wdCells (p : Wd) : Array Value := ((prCells p.l).toList ++ ((prCells p.r).toList ++ wdTail p)).toArray

/-- The world of noughts. -/
def wdZero : Wd := ⟨prZero, prZero, false, 0, 0, 0, ByteArray.empty, false, 0, 0, ByteArray.empty, false, 0⟩

set_option maxRecDepth 20000 in
theorem wd_size (p : Wd) : (wdCells p).size = 179 := rfl

theorem wd_l (p : Wd) (j : Nat) (v : Value) (h : (prCells p.l).toList[j]? = some v) : (wdCells p)[0 + j]? = some v := by
  have hj : j < (prCells p.l).toList.length := (List.getElem?_eq_some_iff.1 h).1
  rw [Nat.zero_add]
  unfold wdCells
  rw [List.getElem?_toArray, List.getElem?_append_left hj]
  exact h

theorem wd_r (p : Wd) (j : Nat) (v : Value) (h : (prCells p.r).toList[j]? = some v) : (wdCells p)[84 + j]? = some v := by
  have hj : j < (prCells p.r).toList.length := (List.getElem?_eq_some_iff.1 h).1
  have hl : (prCells p.l).toList.length = 84 := rfl
  unfold wdCells
  rw [List.getElem?_toArray, List.getElem?_append_right (by omega), hl, show 84 + j - 84 = j by omega, List.getElem?_append_left hj]
  exact h

theorem wd_tl (p : Wd) (j : Nat) (v : Value) (h : (wdTail p)[j]? = some v) : (wdCells p)[168 + j]? = some v := by
  have hl : (prCells p.l).toList.length = 84 := rfl
  have hm : (prCells p.r).toList.length = 84 := rfl
  unfold wdCells
  rw [List.getElem?_toArray, List.getElem?_append_right (by omega), hl, List.getElem?_append_right (by omega), hm, show 168 + j - 84 - 84 = j by omega]
  exact h

theorem wd_one (p : Wd) : (wdCells p).all (·.oneCell') = true := by
  have h1 := pr_one p.l
  have h2 := pr_one p.r
  rw [Array.all_eq_true_iff_forall_mem] at h1 h2 ⊢
  intro v hv
  unfold wdCells at hv
  simp only [List.mem_toArray, List.mem_append, Array.mem_toList_iff] at hv
  rcases hv with hv | hv | hv
  · exact h1 v hv
  · exact h2 v hv
  · simp only [wdTail, List.mem_cons, List.not_mem_nil, or_false] at hv
    rcases hv with rfl | rfl | rfl | rfl | rfl | rfl | rfl | rfl | rfl | rfl | rfl <;> rfl

theorem wd_big : IsBig 43 179 := ⟨⟨_, Try.underlying43, rfl⟩, by kernel_rfl⟩

theorem a4_big : IsBig 23 4 := ⟨⟨_, Try.underlying23, rfl⟩, by kernel_rfl⟩

section
variable {ops : Array Oper} {rest : List Oper} {o : Oper} {a : Act} {w : World} {Q : Exit → Act → World → Prop}

theorem vWdl {b : Nat} {p : Wd} (B : Blk b w (wdCells p)) {x : Operand} (h : VL ops Q rest (a.put o.dst (.agg (prCells p.l))) w) (ho : o.op = .load 37 x := by rfl)
    (hg : Region.wanted o (yielded ops a.tmps) = true := by kernel_rfl) (hx : a.eval x = .pointer (some ⟨b, 0, none⟩) := by kernel_rfl) : VL ops Q (o :: rest) a w := ⟨want_part B hg pr_big x ho 0 hx (prCells p.l).toList rfl (wd_l p) h.out⟩

theorem vWdr {b : Nat} {p : Wd} (B : Blk b w (wdCells p)) {x : Operand} (h : VL ops Q rest (a.put o.dst (.agg (prCells p.r))) w) (ho : o.op = .load 37 x := by rfl)
    (hg : Region.wanted o (yielded ops a.tmps) = true := by kernel_rfl) (hx : a.eval x = .pointer (some ⟨b, 84, none⟩) := by kernel_rfl) : VL ops Q (o :: rest) a w := ⟨want_part B hg pr_big x ho 84 hx (prCells p.r).toList rfl (wd_r p) h.out⟩
end

theorem results_wd2 {fn : Func} {t u : Tmp} {b : Nat} {w : World} {p : Wd} (h : fn.results = #[.cell t 43, .tmp u]) (tmps : Array Value) (hp : tmps.getD t undef = .pointer (some ⟨b, 0, none⟩)) (B : Blk b w (wdCells p)) : (results fn tmps).run Try.prog w = .ok (.tuple #[.agg (wdCells p), tmps.getD u undef]) w := by
  have e := var_big wd_big (wd_size p) B
  have hq : tmps[t]?.getD undef = .pointer (some ⟨b, 0, none⟩) := by simpa using hp
  simp [results, h, hq, asAddr, e]

set_option maxRecDepth 20000 in
set_option maxHeartbeats 8000000 in
theorem toA4 (i0 i1 i2 i3 : Int) (w : World) : Calls Try.prog 5 #[.agg #[.int .u32 i0, .int .u32 i1, .int .u32 i2, .int .u32 i3]] w fun e w' => e = .returned (.agg #[.int .u32 i0, .int .u32 i1, .int .u32 i2, .int .u32 i3]) ∧ Since w w' := by
  have G := Since.refl w
  go_enter Try.func5, Try.ntmps5
  go_upto_region 0 with (fail)
  refine vR ?_
  refine vW (w.alloc (.cells #[.int .u32 i0, .int .u32 i1, .int .u32 i2, .int .u32 i3] 23)) (.pointer (some ⟨w.heap.size, 0, none⟩)) ?_
  have qB2 := Blk.new w #[.int .u32 i0, .int .u32 i1, .int .u32 i2, .int .u32 i3] 23
  have qg3 := (Since.refl w).alloc (.cells #[.int .u32 i0, .int .u32 i1, .int .u32 i2, .int .u32 i3] 23)
  replace G := G.trans qg3
  generalize w.alloc (.cells #[.int .u32 i0, .int .u32 i1, .int .u32 i2, .int .u32 i3] 23) = qw1 at  G qB2 qg3 ⊢
  have qB2_l := qB2.lt
  have qg3_s := qg3.size
  refine vW (qw1.alloc (.cells #[.int .u32 0, .int .u32 0, .int .u32 0, .int .u32 0] 23)) (.pointer (some ⟨qw1.heap.size, 0, none⟩)) ?_
  have qB5 := Blk.new qw1 #[.int .u32 0, .int .u32 0, .int .u32 0, .int .u32 0] 23
  have qg6 := (Since.refl qw1).alloc (.cells #[.int .u32 0, .int .u32 0, .int .u32 0, .int .u32 0] 23)
  replace qB2 := qB2.since qg6
  replace G := G.trans qg6
  generalize qw1.alloc (.cells #[.int .u32 0, .int .u32 0, .int .u32 0, .int .u32 0] 23) = qw4 at qB2 G qB5 qg6 ⊢
  have qB5_l := qB5.lt
  have qg6_s := qg6.size
  refine vE #[.agg #[.int .u32 i0, .int .u32 i1, .int .u32 i2, .int .u32 i3],.pointer (some ⟨w.heap.size, 0, none⟩),.pointer (some ⟨qw1.heap.size, 0, none⟩),U,U,U,U,U,U,U,U,U,U,U,U] ?_
  go_upto_region 1 with (fail)
  refine vR ?_
  refine vW (qw4.alloc (.cells #[.int .u32 0, .int .u32 0, .int .u32 0, .int .u32 0] 23)) (.pointer (some ⟨qw4.heap.size, 0, none⟩)) ?_
  have qB8 := Blk.new qw4 #[.int .u32 0, .int .u32 0, .int .u32 0, .int .u32 0] 23
  have qg9 := (Since.refl qw4).alloc (.cells #[.int .u32 0, .int .u32 0, .int .u32 0, .int .u32 0] 23)
  replace qB2 := qB2.since qg9
  replace qB5 := qB5.since qg9
  replace G := G.trans qg9
  generalize qw4.alloc (.cells #[.int .u32 0, .int .u32 0, .int .u32 0, .int .u32 0] 23) = qw7 at qB2 qB5 G qB8 qg9 ⊢
  have qB8_l := qB8.lt
  have qg9_s := qg9.size
  refine vE #[.agg #[.int .u32 i0, .int .u32 i1, .int .u32 i2, .int .u32 i3],.pointer (some ⟨w.heap.size, 0, none⟩),.pointer (some ⟨qw1.heap.size, 0, none⟩),.pointer (some ⟨qw4.heap.size, 0, none⟩),U,U,U,U,U,U,U,U,U,U,U] ?_
  go_upto_region 2 with (fail)
  refine vR ?_
  refine vV (.int .i64 0) ?_
  refine vE #[.agg #[.int .u32 i0, .int .u32 i1, .int .u32 i2, .int .u32 i3],.pointer (some ⟨w.heap.size, 0, none⟩),.pointer (some ⟨qw1.heap.size, 0, none⟩),.pointer (some ⟨qw4.heap.size, 0, none⟩),.int .i64 0,U,U,U,U,U,U,U,U,U,U] ?_
  go_wp2_with (fail)
  go_loopw [4] (fun i wr => ((i = .int .i64 0 ∧ Blk qw4.heap.size wr #[.int .u32 0, .int .u32 0, .int .u32 0, .int .u32 0]) ∨ (i = .int .i64 1 ∧ Blk qw4.heap.size wr #[.int .u32 i0, .int .u32 0, .int .u32 0, .int .u32 0]) ∨ (i = .int .i64 2 ∧ Blk qw4.heap.size wr #[.int .u32 i0, .int .u32 i1, .int .u32 0, .int .u32 0]) ∨ (i = .int .i64 3 ∧ Blk qw4.heap.size wr #[.int .u32 i0, .int .u32 i1, .int .u32 i2, .int .u32 0]) ∨ (i = .int .i64 4 ∧ Blk qw4.heap.size wr #[.int .u32 i0, .int .u32 i1, .int .u32 i2, .int .u32 i3])) ∧ Blk w.heap.size wr #[.int .u32 i0, .int .u32 i1, .int .u32 i2, .int .u32 i3] ∧ Blk qw1.heap.size wr #[.int .u32 0, .int .u32 0, .int .u32 0, .int .u32 0] ∧ Since w wr ∧ qw7.heap.size ≤ wr.heap.size) (fun i _ => 4 - (intOf i).toNat)
  case atStart => exact ⟨.inl ⟨rfl, qB8⟩, qB2, qB5, G, Nat.le_refl _⟩
  case round =>
    obtain ⟨hi, HA, HR, S, hz⟩ := hrel
    rcases hi with ⟨rfl, HO⟩ | ⟨rfl, HO⟩ | ⟨rfl, HO⟩ | ⟨rfl, HO⟩ | ⟨rfl, HO⟩
    · have G := S
      go_upto_region 5 with (fail)
      refine vR ?_
      refine vV (.int .i64 0) ?_
      refine vV (.int .i64 0) ?_
      refine vV (.pointer (some ⟨w.heap.size, 0, none⟩)) ?_
      refine vD (.int .u32 i0) (HA.cell 0) ?_
      refine vV (.pointer (some ⟨qw4.heap.size, 0, none⟩)) ?_
      refine sC #[.int .u32 i0, .int .u32 0, .int .u32 0, .int .u32 0] HO 0 (.int .u32 i0) rfl ?_
      intro qw1001 qt1002 qB1003
      clear HO
      replace HA := HA.touch qt1002 (by omega)
      replace HR := HR.touch qt1002 (by omega)
      replace G := since_touch G qt1002 (by omega)
      have qt1002_s := qt1002.size
      refine vE #[.agg #[.int .u32 i0, .int .u32 i1, .int .u32 i2, .int .u32 i3],.pointer (some ⟨w.heap.size, 0, none⟩),.pointer (some ⟨qw1.heap.size, 0, none⟩),.pointer (some ⟨qw4.heap.size, 0, none⟩),.int .i64 0,.int .i64 0,.bool true,u7,u8,.int .i64 0,.int .i64 0,.pointer (some ⟨w.heap.size, 0, none⟩),.int .u32 i0,.pointer (some ⟨qw4.heap.size, 0, none⟩),U] ?_
      go_upto_region 4 with (fail)
      refine vR ?_
      refine vV (.int .i64 0) ?_
      refine vV (.int .i64 1) ?_
      refine vV (.int .i64 1) ?_
      refine vE #[.agg #[.int .u32 i0, .int .u32 i1, .int .u32 i2, .int .u32 i3],.pointer (some ⟨w.heap.size, 0, none⟩),.pointer (some ⟨qw1.heap.size, 0, none⟩),.pointer (some ⟨qw4.heap.size, 0, none⟩),.int .i64 1,.int .i64 0,.bool true,.int .i64 0,.int .i64 1,.int .i64 0,.int .i64 0,.pointer (some ⟨w.heap.size, 0, none⟩),.int .u32 i0,.pointer (some ⟨qw4.heap.size, 0, none⟩),U] ?_
      go_wp2_with (fail)
      exact ⟨⟨.inr (.inl ⟨rfl, qB1003⟩), HA, HR, G, by omega⟩, by decide⟩
    · have G := S
      go_upto_region 5 with (fail)
      refine vR ?_
      refine vV (.int .i64 1) ?_
      refine vV (.int .i64 1) ?_
      refine vV (.pointer (some ⟨w.heap.size, 1, none⟩)) ?_
      refine vD (.int .u32 i1) (HA.cell 1) ?_
      refine vV (.pointer (some ⟨qw4.heap.size, 1, none⟩)) ?_
      refine sC #[.int .u32 i0, .int .u32 i1, .int .u32 0, .int .u32 0] HO 1 (.int .u32 i1) rfl ?_
      intro qw1101 qt1102 qB1103
      clear HO
      replace HA := HA.touch qt1102 (by omega)
      replace HR := HR.touch qt1102 (by omega)
      replace G := since_touch G qt1102 (by omega)
      have qt1102_s := qt1102.size
      refine vE #[.agg #[.int .u32 i0, .int .u32 i1, .int .u32 i2, .int .u32 i3],.pointer (some ⟨w.heap.size, 0, none⟩),.pointer (some ⟨qw1.heap.size, 0, none⟩),.pointer (some ⟨qw4.heap.size, 0, none⟩),.int .i64 1,.int .i64 1,.bool true,u7,u8,.int .i64 1,.int .i64 1,.pointer (some ⟨w.heap.size, 1, none⟩),.int .u32 i1,.pointer (some ⟨qw4.heap.size, 1, none⟩),U] ?_
      go_upto_region 4 with (fail)
      refine vR ?_
      refine vV (.int .i64 1) ?_
      refine vV (.int .i64 2) ?_
      refine vV (.int .i64 2) ?_
      refine vE #[.agg #[.int .u32 i0, .int .u32 i1, .int .u32 i2, .int .u32 i3],.pointer (some ⟨w.heap.size, 0, none⟩),.pointer (some ⟨qw1.heap.size, 0, none⟩),.pointer (some ⟨qw4.heap.size, 0, none⟩),.int .i64 2,.int .i64 1,.bool true,.int .i64 1,.int .i64 2,.int .i64 1,.int .i64 1,.pointer (some ⟨w.heap.size, 1, none⟩),.int .u32 i1,.pointer (some ⟨qw4.heap.size, 1, none⟩),U] ?_
      go_wp2_with (fail)
      exact ⟨⟨.inr (.inr (.inl ⟨rfl, qB1103⟩)), HA, HR, G, by omega⟩, by decide⟩
    · have G := S
      go_upto_region 5 with (fail)
      refine vR ?_
      refine vV (.int .i64 2) ?_
      refine vV (.int .i64 2) ?_
      refine vV (.pointer (some ⟨w.heap.size, 2, none⟩)) ?_
      refine vD (.int .u32 i2) (HA.cell 2) ?_
      refine vV (.pointer (some ⟨qw4.heap.size, 2, none⟩)) ?_
      refine sC #[.int .u32 i0, .int .u32 i1, .int .u32 i2, .int .u32 0] HO 2 (.int .u32 i2) rfl ?_
      intro qw1201 qt1202 qB1203
      clear HO
      replace HA := HA.touch qt1202 (by omega)
      replace HR := HR.touch qt1202 (by omega)
      replace G := since_touch G qt1202 (by omega)
      have qt1202_s := qt1202.size
      refine vE #[.agg #[.int .u32 i0, .int .u32 i1, .int .u32 i2, .int .u32 i3],.pointer (some ⟨w.heap.size, 0, none⟩),.pointer (some ⟨qw1.heap.size, 0, none⟩),.pointer (some ⟨qw4.heap.size, 0, none⟩),.int .i64 2,.int .i64 2,.bool true,u7,u8,.int .i64 2,.int .i64 2,.pointer (some ⟨w.heap.size, 2, none⟩),.int .u32 i2,.pointer (some ⟨qw4.heap.size, 2, none⟩),U] ?_
      go_upto_region 4 with (fail)
      refine vR ?_
      refine vV (.int .i64 2) ?_
      refine vV (.int .i64 3) ?_
      refine vV (.int .i64 3) ?_
      refine vE #[.agg #[.int .u32 i0, .int .u32 i1, .int .u32 i2, .int .u32 i3],.pointer (some ⟨w.heap.size, 0, none⟩),.pointer (some ⟨qw1.heap.size, 0, none⟩),.pointer (some ⟨qw4.heap.size, 0, none⟩),.int .i64 3,.int .i64 2,.bool true,.int .i64 2,.int .i64 3,.int .i64 2,.int .i64 2,.pointer (some ⟨w.heap.size, 2, none⟩),.int .u32 i2,.pointer (some ⟨qw4.heap.size, 2, none⟩),U] ?_
      go_wp2_with (fail)
      exact ⟨⟨.inr (.inr (.inr (.inl ⟨rfl, qB1203⟩))), HA, HR, G, by omega⟩, by decide⟩
    · have G := S
      go_upto_region 5 with (fail)
      refine vR ?_
      refine vV (.int .i64 3) ?_
      refine vV (.int .i64 3) ?_
      refine vV (.pointer (some ⟨w.heap.size, 3, none⟩)) ?_
      refine vD (.int .u32 i3) (HA.cell 3) ?_
      refine vV (.pointer (some ⟨qw4.heap.size, 3, none⟩)) ?_
      refine sC #[.int .u32 i0, .int .u32 i1, .int .u32 i2, .int .u32 i3] HO 3 (.int .u32 i3) rfl ?_
      intro qw1301 qt1302 qB1303
      clear HO
      replace HA := HA.touch qt1302 (by omega)
      replace HR := HR.touch qt1302 (by omega)
      replace G := since_touch G qt1302 (by omega)
      have qt1302_s := qt1302.size
      refine vE #[.agg #[.int .u32 i0, .int .u32 i1, .int .u32 i2, .int .u32 i3],.pointer (some ⟨w.heap.size, 0, none⟩),.pointer (some ⟨qw1.heap.size, 0, none⟩),.pointer (some ⟨qw4.heap.size, 0, none⟩),.int .i64 3,.int .i64 3,.bool true,u7,u8,.int .i64 3,.int .i64 3,.pointer (some ⟨w.heap.size, 3, none⟩),.int .u32 i3,.pointer (some ⟨qw4.heap.size, 3, none⟩),U] ?_
      go_upto_region 4 with (fail)
      refine vR ?_
      refine vV (.int .i64 3) ?_
      refine vV (.int .i64 4) ?_
      refine vV (.int .i64 4) ?_
      refine vE #[.agg #[.int .u32 i0, .int .u32 i1, .int .u32 i2, .int .u32 i3],.pointer (some ⟨w.heap.size, 0, none⟩),.pointer (some ⟨qw1.heap.size, 0, none⟩),.pointer (some ⟨qw4.heap.size, 0, none⟩),.int .i64 4,.int .i64 3,.bool true,.int .i64 3,.int .i64 4,.int .i64 3,.int .i64 3,.pointer (some ⟨w.heap.size, 3, none⟩),.int .u32 i3,.pointer (some ⟨qw4.heap.size, 3, none⟩),U] ?_
      go_wp2_with (fail)
      exact ⟨⟨.inr (.inr (.inr (.inr (⟨rfl, qB1303⟩)))), HA, HR, G, by omega⟩, by decide⟩
    · have G := S
      go_upto_region 6 with (fail)
      refine vR ?_
      refine vB a4_big HO rfl ?_
      refine sB #[.int .u32 i0, .int .u32 i1, .int .u32 i2, .int .u32 i3] a4_big HR rfl rfl (by simp [Value.oneCell']) ?_
      intro qw1401 qt1402 qB1403
      clear HR
      replace HA := HA.touch qt1402 (by omega)
      replace HO := HO.touch qt1402 (by omega)
      replace G := since_touch G qt1402 (by omega)
      have qt1402_s := qt1402.size
      refine vE #[.agg #[.int .u32 i0, .int .u32 i1, .int .u32 i2, .int .u32 i3],.pointer (some ⟨w.heap.size, 0, none⟩),.pointer (some ⟨qw1.heap.size, 0, none⟩),.pointer (some ⟨qw4.heap.size, 0, none⟩),.int .i64 4,.int .i64 4,.bool false,u7,u8,u9,u10,u11,u12,u13,.agg #[.int .u32 i0, .int .u32 i1, .int .u32 i2, .int .u32 i3]] ?_
      go_wp2_with (fail)
      exact bodyPost_ret (results_big a4_big rfl (u := 2) rfl _ rfl qB1403) rfl ⟨rfl, G⟩

set_option maxRecDepth 20000 in
set_option maxHeartbeats 8000000 in
theorem eqWd (p : Wd) (ql qr : Pr) (w : World)
    (hL : ∀ wx, Since w wx → Calls Try.prog 14 #[.agg (prCells p.l), .agg (prCells ql)] wx fun e w' => e = .returned (.bool true) ∧ Since wx w')
    (hR : ∀ wx, Since w wx → Calls Try.prog 14 #[.agg (prCells p.r), .agg (prCells qr)] wx fun e w' => e = .returned (.bool true) ∧ Since wx w') :
    Calls Try.prog 7 #[.agg (wdCells p), .agg (wdCells { p with l := ql, r := qr })] w fun e w' => e = .returned (.bool true) ∧ Since w w' := by
  have he := fun wx => eqRelay p.rm p.d p.e p.n p.rn p.f p.g p.m wx
  unfold rlVal at he
  have G := Since.refl w
  go_enter Try.func7, Try.ntmps7
  go_upto_region 0 with (fail)
  refine vR ?_
  refine vW (w.alloc (.cells (wdCells p) 43)) (.pointer (some ⟨w.heap.size, 0, none⟩)) ?_
  have qB2 := Blk.new w (wdCells p) 43
  have qg3 := (Since.refl w).alloc (.cells (wdCells p) 43)
  replace G := G.trans qg3
  generalize w.alloc (.cells (wdCells p) 43) = qw1 at  G qB2 qg3 ⊢
  have qB2_l := qB2.lt
  have qg3_s := qg3.size
  refine vW (qw1.alloc (.cells (wdCells { p with l := ql, r := qr }) 43)) (.pointer (some ⟨qw1.heap.size, 0, none⟩)) ?_
  have qB5 := Blk.new qw1 (wdCells { p with l := ql, r := qr }) 43
  have qg6 := (Since.refl qw1).alloc (.cells (wdCells { p with l := ql, r := qr }) 43)
  replace qB2 := qB2.since qg6
  replace G := G.trans qg6
  generalize qw1.alloc (.cells (wdCells { p with l := ql, r := qr }) 43) = qw4 at qB2 G qB5 qg6 ⊢
  have qB5_l := qB5.lt
  have qg6_s := qg6.size
  refine vV (.bool false) ?_
  refine vE #[.agg (wdCells p),.agg (wdCells { p with l := ql, r := qr }),.pointer (some ⟨w.heap.size, 0, none⟩),.pointer (some ⟨qw1.heap.size, 0, none⟩),.bool false,U,U,U,U,U,U,U,U,U,U,U,U,U,U,U,U,U,U,U,U,U,U,U,U,U,U,U,U,U,U,U,U,U] ?_
  go_upto_region 1 with (fail)
  refine vR ?_
  refine vV (.pointer (some ⟨w.heap.size, 0, none⟩)) ?_
  refine vWdl qB2 ?_
  refine vV (.pointer (some ⟨qw1.heap.size, 0, none⟩)) ?_
  refine vWdl qB5 ?_
  refine vK (hL _ G) ?_
  intro qw7 qg8
  replace qB2 := qB2.since qg8
  replace qB5 := qB5.since qg8
  replace G := G.trans qg8
  have qg8_s := qg8.size
  refine vV (.bool false) ?_
  refine vE #[.agg (wdCells p),.agg (wdCells { p with l := ql, r := qr }),.pointer (some ⟨w.heap.size, 0, none⟩),.pointer (some ⟨qw1.heap.size, 0, none⟩),.bool false,.pointer (some ⟨w.heap.size, 0, none⟩),.agg (prCells p.l),.pointer (some ⟨qw1.heap.size, 0, none⟩),.agg (prCells ql),.bool true,.bool false,U,U,U,U,U,U,U,U,U,U,U,U,U,U,U,U,U,U,U,U,U,U,U,U,U,U,U] ?_
  go_upto_region 3 with (fail)
  refine vR ?_
  refine vV (.pointer (some ⟨w.heap.size, 84, none⟩)) ?_
  refine vWdr qB2 ?_
  refine vV (.pointer (some ⟨qw1.heap.size, 84, none⟩)) ?_
  refine vWdr qB5 ?_
  refine vK (hR _ G) ?_
  intro qw9 qg10
  replace qB2 := qB2.since qg10
  replace qB5 := qB5.since qg10
  replace G := G.trans qg10
  have qg10_s := qg10.size
  refine vV (.bool false) ?_
  refine vE #[.agg (wdCells p),.agg (wdCells { p with l := ql, r := qr }),.pointer (some ⟨w.heap.size, 0, none⟩),.pointer (some ⟨qw1.heap.size, 0, none⟩),.bool false,.pointer (some ⟨w.heap.size, 0, none⟩),.agg (prCells p.l),.pointer (some ⟨qw1.heap.size, 0, none⟩),.agg (prCells ql),.bool true,.bool false,.pointer (some ⟨w.heap.size, 84, none⟩),.agg (prCells p.r),.pointer (some ⟨qw1.heap.size, 84, none⟩),.agg (prCells qr),.bool true,.bool false,U,U,U,U,U,U,U,U,U,U,U,U,U,U,U,U,U,U,U,U,U] ?_
  go_upto_region 5 with (fail)
  refine vR ?_
  refine vV (.pointer (some ⟨w.heap.size, 168, none⟩)) ?_
  refine vD (.bool p.bg) ((qB2.cell 168).trans (wd_tl _ 0 _ rfl)) ?_
  refine vV (.pointer (some ⟨qw1.heap.size, 168, none⟩)) ?_
  refine vD (.bool p.bg) ((qB5.cell 168).trans (wd_tl _ 0 _ rfl)) ?_
  refine vV (.bool false) ?_ (hrun := by simp [execOp, go_sem])
  refine vE #[.agg (wdCells p),.agg (wdCells { p with l := ql, r := qr }),.pointer (some ⟨w.heap.size, 0, none⟩),.pointer (some ⟨qw1.heap.size, 0, none⟩),.bool false,.pointer (some ⟨w.heap.size, 0, none⟩),.agg (prCells p.l),.pointer (some ⟨qw1.heap.size, 0, none⟩),.agg (prCells ql),.bool true,.bool false,.pointer (some ⟨w.heap.size, 84, none⟩),.agg (prCells p.r),.pointer (some ⟨qw1.heap.size, 84, none⟩),.agg (prCells qr),.bool true,.bool false,.pointer (some ⟨w.heap.size, 168, none⟩),.bool p.bg,.pointer (some ⟨qw1.heap.size, 168, none⟩),.bool p.bg,.bool false,U,U,U,U,U,U,U,U,U,U,U,U,U,U,U,U] ?_
  go_upto_region 7 with (fail)
  refine vR ?_
  refine vV (.pointer (some ⟨w.heap.size, 169, none⟩)) ?_
  refine vD (.int .u32 p.ir) ((qB2.cell 169).trans (wd_tl _ 1 _ rfl)) ?_
  refine vV (.pointer (some ⟨qw1.heap.size, 169, none⟩)) ?_
  refine vD (.int .u32 p.ir) ((qB5.cell 169).trans (wd_tl _ 1 _ rfl)) ?_
  refine vV (.bool false) ?_ (hrun := by simp [execOp, go_sem])
  refine vE #[.agg (wdCells p),.agg (wdCells { p with l := ql, r := qr }),.pointer (some ⟨w.heap.size, 0, none⟩),.pointer (some ⟨qw1.heap.size, 0, none⟩),.bool false,.pointer (some ⟨w.heap.size, 0, none⟩),.agg (prCells p.l),.pointer (some ⟨qw1.heap.size, 0, none⟩),.agg (prCells ql),.bool true,.bool false,.pointer (some ⟨w.heap.size, 84, none⟩),.agg (prCells p.r),.pointer (some ⟨qw1.heap.size, 84, none⟩),.agg (prCells qr),.bool true,.bool false,.pointer (some ⟨w.heap.size, 168, none⟩),.bool p.bg,.pointer (some ⟨qw1.heap.size, 168, none⟩),.bool p.bg,.bool false,.pointer (some ⟨w.heap.size, 169, none⟩),.int .u32 p.ir,.pointer (some ⟨qw1.heap.size, 169, none⟩),.int .u32 p.ir,.bool false,U,U,U,U,U,U,U,U,U,U,U] ?_
  go_upto_region 9 with (fail)
  refine vR ?_
  refine vV (.pointer (some ⟨w.heap.size, 170, none⟩)) ?_
  refine vD (.int .u32 p.iz) ((qB2.cell 170).trans (wd_tl _ 2 _ rfl)) ?_
  refine vV (.pointer (some ⟨qw1.heap.size, 170, none⟩)) ?_
  refine vD (.int .u32 p.iz) ((qB5.cell 170).trans (wd_tl _ 2 _ rfl)) ?_
  refine vV (.bool false) ?_ (hrun := by simp [execOp, go_sem])
  refine vE #[.agg (wdCells p),.agg (wdCells { p with l := ql, r := qr }),.pointer (some ⟨w.heap.size, 0, none⟩),.pointer (some ⟨qw1.heap.size, 0, none⟩),.bool false,.pointer (some ⟨w.heap.size, 0, none⟩),.agg (prCells p.l),.pointer (some ⟨qw1.heap.size, 0, none⟩),.agg (prCells ql),.bool true,.bool false,.pointer (some ⟨w.heap.size, 84, none⟩),.agg (prCells p.r),.pointer (some ⟨qw1.heap.size, 84, none⟩),.agg (prCells qr),.bool true,.bool false,.pointer (some ⟨w.heap.size, 168, none⟩),.bool p.bg,.pointer (some ⟨qw1.heap.size, 168, none⟩),.bool p.bg,.bool false,.pointer (some ⟨w.heap.size, 169, none⟩),.int .u32 p.ir,.pointer (some ⟨qw1.heap.size, 169, none⟩),.int .u32 p.ir,.bool false,.pointer (some ⟨w.heap.size, 170, none⟩),.int .u32 p.iz,.pointer (some ⟨qw1.heap.size, 170, none⟩),.int .u32 p.iz,.bool false,U,U,U,U,U,U] ?_
  go_upto_region 11 with (fail)
  refine vR ?_
  refine vV (.pointer (some ⟨w.heap.size, 171, none⟩)) ?_
  refine vP rl_big qB2 171 [.int .i64 p.rm, .string p.d, .bool p.e, .int .i64 p.n, .int .i64 p.rn, .string p.f, .bool p.g, .int .i64 p.m] ?_
  refine vV (.pointer (some ⟨qw1.heap.size, 171, none⟩)) ?_
  refine vP rl_big qB5 171 [.int .i64 p.rm, .string p.d, .bool p.e, .int .i64 p.n, .int .i64 p.rn, .string p.f, .bool p.g, .int .i64 p.m] ?_
  refine vK (he _) ?_
  intro qw11 qg12
  replace qB2 := qB2.since qg12
  replace qB5 := qB5.since qg12
  replace G := G.trans qg12
  have qg12_s := qg12.size
  refine vV (.bool false) ?_
  refine vE #[.agg (wdCells p),.agg (wdCells { p with l := ql, r := qr }),.pointer (some ⟨w.heap.size, 0, none⟩),.pointer (some ⟨qw1.heap.size, 0, none⟩),.bool false,.pointer (some ⟨w.heap.size, 0, none⟩),.agg (prCells p.l),.pointer (some ⟨qw1.heap.size, 0, none⟩),.agg (prCells ql),.bool true,.bool false,.pointer (some ⟨w.heap.size, 84, none⟩),.agg (prCells p.r),.pointer (some ⟨qw1.heap.size, 84, none⟩),.agg (prCells qr),.bool true,.bool false,.pointer (some ⟨w.heap.size, 168, none⟩),.bool p.bg,.pointer (some ⟨qw1.heap.size, 168, none⟩),.bool p.bg,.bool false,.pointer (some ⟨w.heap.size, 169, none⟩),.int .u32 p.ir,.pointer (some ⟨qw1.heap.size, 169, none⟩),.int .u32 p.ir,.bool false,.pointer (some ⟨w.heap.size, 170, none⟩),.int .u32 p.iz,.pointer (some ⟨qw1.heap.size, 170, none⟩),.int .u32 p.iz,.bool false,.pointer (some ⟨w.heap.size, 171, none⟩),.agg #[.int .i64 p.rm, .string p.d, .bool p.e, .int .i64 p.n, .int .i64 p.rn, .string p.f, .bool p.g, .int .i64 p.m],.pointer (some ⟨qw1.heap.size, 171, none⟩),.agg #[.int .i64 p.rm, .string p.d, .bool p.e, .int .i64 p.n, .int .i64 p.rn, .string p.f, .bool p.g, .int .i64 p.m],.bool true,.bool false] ?_
  go_wp2_with (fail)
  go_ret
  exact ⟨rfl, G⟩

theorem mark0k (c : Cn) (h : NoParts c) (k : Int) (hk : 1 ≤ k ∧ k ≤ 100) (w : World) : Calls Try.prog 25 #[.agg (cnCells c), .int .i64 k] w fun e w' => e = .returned (.int .i64 k) ∧ Since w w' := by
  obtain ⟨h1, h2, h3⟩ := h
  have T : Own shP w w.heap.size (.slice c.pa c.pn c.pc) c.pn [] := by rw [h1, h2, h3]; exact Own.nil w _
  refine (markConn c w.heap.size [] k (by omega) (by omega) w T).mono ?_
  rintro _ w' ⟨rfl, ⟨x, g, gr⟩, -⟩
  refine ⟨by rw [h2]; simp, g.trans ⟨gr.os, gr.tape, gr.output, gr.size, fun j hj => gr.block j hj ?_⟩⟩
  rw [h1]
  simp [Value.ownBlock]

theorem held0k (c : Cn) (h : NoParts c) (k : Int) (hk : 1 ≤ k ∧ k ≤ 100) (w : World) : Calls Try.prog 27 #[.agg (cnCells c), .int .i64 k] w fun e w' => e = .returned (.int .i64 k) ∧ Since w w' := by
  have h2 := h.2.1
  refine (heldConn c [] k (by omega) (by omega) w (rd0 c h w) (by rw [h2]; exact fun j hj => absurd hj (Nat.not_lt_zero j))).mono ?_
  rintro _ w' ⟨rfl, g⟩
  exact ⟨by rw [h2]; simp, g⟩

set_option maxRecDepth 20000 in
set_option maxHeartbeats 8000000 in
theorem markPrZ (k : Int) (hk : 1 ≤ k ∧ k ≤ 100) (w : World) : Calls Try.prog 16 #[.agg (prCells prZero), .int .i64 k] w fun e w' => e = .returned (.int .i64 k) ∧ Since w w' := by
  have h0 := fun wx => mark0k cnZero ⟨rfl, rfl, rfl⟩ k hk wx
  have hN := fun wx => markNil k wx
  have G := Since.refl w
  have hlt : decide (k < 0) = false := decide_eq_false (by omega)
  go_enter Try.func16, Try.ntmps16
  go_upto_region 0 with (fail)
  refine vR ?_
  refine vW (w.alloc (.cells (prCells prZero) 37)) (.pointer (some ⟨w.heap.size, 0, none⟩)) ?_
  have qB2 := Blk.new w (prCells prZero) 37
  have qg3 := (Since.refl w).alloc (.cells (prCells prZero) 37)
  replace G := G.trans qg3
  generalize w.alloc (.cells (prCells prZero) 37) = qw1 at  G qB2 qg3 ⊢
  have qB2_l := qB2.lt
  have qg3_s := qg3.size
  refine vV (.int .i64 0) ?_
  refine vE #[.agg (prCells prZero),.int .i64 k,.pointer (some ⟨w.heap.size, 0, none⟩),U,.int .i64 0,U,U,U,U,U,U,U,U,U,U,U,U,U,U,U,U,U] ?_
  go_upto_region 1 with (fail)
  refine vR ?_
  refine vV (.pointer (some ⟨w.heap.size, 0, none⟩)) ?_
  refine VL.mk (want_pa cn_big qB2 (by kernel_rfl) _ rfl (by kernel_rfl) (VL.out ?_))
  refine vV (.int .i64 k) ?_
  refine vK (h0 _) ?_
  intro qw4 qg5
  replace qB2 := qB2.since qg5
  replace G := G.trans qg5
  have qg5_s := qg5.size
  refine vV (.int .i64 k) ?_
  refine vE #[.agg (prCells prZero),.int .i64 k,.pointer (some ⟨w.heap.size, 0, none⟩),U,.int .i64 0,.pointer (some ⟨w.heap.size, 0, none⟩),.agg (cnCells prZero.a),.int .i64 k,.int .i64 k,U,U,U,U,U,U,U,U,U,U,U,U,U] ?_
  go_upto_region 2 with (fail)
  refine vR ?_
  refine vV (.pointer (some ⟨w.heap.size, 37, none⟩)) ?_
  refine VL.mk (want_pb cn_big qB2 (by kernel_rfl) _ rfl (by kernel_rfl) (VL.out ?_))
  refine vV (.int .i64 k) ?_
  refine vK (h0 _) ?_
  intro qw6 qg7
  replace qB2 := qB2.since qg7
  replace G := G.trans qg7
  have qg7_s := qg7.size
  refine vV (.int .i64 k) ?_
  refine vE #[.agg (prCells prZero),.int .i64 k,.pointer (some ⟨w.heap.size, 0, none⟩),U,.int .i64 0,.pointer (some ⟨w.heap.size, 0, none⟩),.agg (cnCells prZero.a),.int .i64 k,.int .i64 k,.pointer (some ⟨w.heap.size, 37, none⟩),.agg (cnCells prZero.b),.int .i64 k,.int .i64 k,U,U,U,U,U,U,U,U,U] ?_
  go_upto_region 3 with (fail)
  refine vR ?_
  refine vV (.pointer (some ⟨w.heap.size, 77, none⟩)) ?_
  refine vD (.slice prZero.ba prZero.bn prZero.bc) ((qB2.cell 77).trans (pr_tl _ 3 _ rfl)) ?_
  refine vV (.int .i64 k) ?_
  refine vK (hN _) ?_
  intro qw8 qg9
  replace qB2 := qB2.since qg9
  replace G := G.trans qg9
  have qg9_s := qg9.size
  refine vV (.int .i64 k) ?_
  refine vE #[.agg (prCells prZero),.int .i64 k,.pointer (some ⟨w.heap.size, 0, none⟩),U,.int .i64 0,.pointer (some ⟨w.heap.size, 0, none⟩),.agg (cnCells prZero.a),.int .i64 k,.int .i64 k,.pointer (some ⟨w.heap.size, 37, none⟩),.agg (cnCells prZero.b),.int .i64 k,.int .i64 k,.pointer (some ⟨w.heap.size, 77, none⟩),.slice prZero.ba prZero.bn prZero.bc,.int .i64 k,.int .i64 k,U,U,U,U,U] ?_
  go_upto_region 4 with (fail)
  refine vR ?_
  refine vV (.pointer (some ⟨w.heap.size, 78, none⟩)) ?_
  refine vD (.slice prZero.aa prZero.an prZero.ac) ((qB2.cell 78).trans (pr_tl _ 4 _ rfl)) ?_
  refine vV (.int .i64 k) ?_
  refine vK (hN _) ?_
  intro qw10 qg11
  replace qB2 := qB2.since qg11
  replace G := G.trans qg11
  have qg11_s := qg11.size
  refine vV (.int .i64 k) ?_
  refine vE #[.agg (prCells prZero),.int .i64 k,.pointer (some ⟨w.heap.size, 0, none⟩),U,.int .i64 0,.pointer (some ⟨w.heap.size, 0, none⟩),.agg (cnCells prZero.a),.int .i64 k,.int .i64 k,.pointer (some ⟨w.heap.size, 37, none⟩),.agg (cnCells prZero.b),.int .i64 k,.int .i64 k,.pointer (some ⟨w.heap.size, 77, none⟩),.slice prZero.ba prZero.bn prZero.bc,.int .i64 k,.int .i64 k,.pointer (some ⟨w.heap.size, 78, none⟩),.slice prZero.aa prZero.an prZero.ac,.int .i64 k,.int .i64 k,U] ?_
  go_wp2_with (fail)
  go_ret
  exact ⟨rfl, G⟩

set_option maxRecDepth 20000 in
set_option maxHeartbeats 8000000 in
theorem heldPrZ (k : Int) (hk : 1 ≤ k ∧ k ≤ 100) (w : World) : Calls Try.prog 17 #[.agg (prCells prZero), .int .i64 k] w fun e w' => e = .returned (.int .i64 k) ∧ Since w w' := by
  have h0 := fun wx => held0k cnZero ⟨rfl, rfl, rfl⟩ k hk wx
  have hN := fun wx => heldNil k wx
  have G := Since.refl w
  have hlt : decide (k < 0) = false := decide_eq_false (by omega)
  go_enter Try.func17, Try.ntmps17
  go_upto_region 0 with (fail)
  refine vR ?_
  refine vW (w.alloc (.cells (prCells prZero) 37)) (.pointer (some ⟨w.heap.size, 0, none⟩)) ?_
  have qB2 := Blk.new w (prCells prZero) 37
  have qg3 := (Since.refl w).alloc (.cells (prCells prZero) 37)
  replace G := G.trans qg3
  generalize w.alloc (.cells (prCells prZero) 37) = qw1 at  G qB2 qg3 ⊢
  have qB2_l := qB2.lt
  have qg3_s := qg3.size
  refine vV (.int .i64 0) ?_
  refine vE #[.agg (prCells prZero),.int .i64 k,.pointer (some ⟨w.heap.size, 0, none⟩),U,.int .i64 0,U,U,U,U,U,U,U,U,U,U,U,U,U,U,U,U,U,U,U,U,U,U,U,U,U] ?_
  go_upto_region 1 with (fail)
  refine vR ?_
  refine vV (.pointer (some ⟨w.heap.size, 0, none⟩)) ?_
  refine VL.mk (want_pa cn_big qB2 (by kernel_rfl) _ rfl (by kernel_rfl) (VL.out ?_))
  refine vV (.int .i64 k) ?_
  refine vK (h0 _) ?_
  intro qw4 qg5
  replace qB2 := qB2.since qg5
  replace G := G.trans qg5
  have qg5_s := qg5.size
  refine vV (.int .i64 k) ?_
  refine vE #[.agg (prCells prZero),.int .i64 k,.pointer (some ⟨w.heap.size, 0, none⟩),U,.int .i64 0,.pointer (some ⟨w.heap.size, 0, none⟩),.agg (cnCells prZero.a),.int .i64 k,.int .i64 k,U,U,U,U,U,U,U,U,U,U,U,U,U,U,U,U,U,U,U,U,U] ?_
  go_upto_region 4 with (fail)
  refine vR ?_
  refine vV (.pointer (some ⟨w.heap.size, 37, none⟩)) ?_
  refine VL.mk (want_pb cn_big qB2 (by kernel_rfl) _ rfl (by kernel_rfl) (VL.out ?_))
  refine vV (.int .i64 k) ?_
  refine vK (h0 _) ?_
  intro qw6 qg7
  replace qB2 := qB2.since qg7
  replace G := G.trans qg7
  have qg7_s := qg7.size
  refine vV (.int .i64 k) ?_
  refine vE #[.agg (prCells prZero),.int .i64 k,.pointer (some ⟨w.heap.size, 0, none⟩),U,.int .i64 0,.pointer (some ⟨w.heap.size, 0, none⟩),.agg (cnCells prZero.a),.int .i64 k,.int .i64 k,.int .i64 k,.bool false,.pointer (some ⟨w.heap.size, 37, none⟩),.agg (cnCells prZero.b),.int .i64 k,.int .i64 k,U,U,U,U,U,U,U,U,U,U,U,U,U,U,U] ?_
  go_upto_region 7 with (fail)
  refine vR ?_
  refine vV (.pointer (some ⟨w.heap.size, 77, none⟩)) ?_
  refine vD (.slice prZero.ba prZero.bn prZero.bc) ((qB2.cell 77).trans (pr_tl _ 3 _ rfl)) ?_
  refine vV (.int .i64 k) ?_
  refine vK (hN _) ?_
  intro qw8 qg9
  replace qB2 := qB2.since qg9
  replace G := G.trans qg9
  have qg9_s := qg9.size
  refine vV (.int .i64 k) ?_
  refine vE #[.agg (prCells prZero),.int .i64 k,.pointer (some ⟨w.heap.size, 0, none⟩),U,.int .i64 0,.pointer (some ⟨w.heap.size, 0, none⟩),.agg (cnCells prZero.a),.int .i64 k,.int .i64 k,.int .i64 k,.bool false,.pointer (some ⟨w.heap.size, 37, none⟩),.agg (cnCells prZero.b),.int .i64 k,.int .i64 k,.int .i64 k,.bool false,.pointer (some ⟨w.heap.size, 77, none⟩),.slice prZero.ba prZero.bn prZero.bc,.int .i64 k,.int .i64 k,U,U,U,U,U,U,U,U,U] ?_
  go_upto_region 10 with (fail)
  refine vR ?_
  refine vV (.pointer (some ⟨w.heap.size, 78, none⟩)) ?_
  refine vD (.slice prZero.aa prZero.an prZero.ac) ((qB2.cell 78).trans (pr_tl _ 4 _ rfl)) ?_
  refine vV (.int .i64 k) ?_
  refine vK (hN _) ?_
  intro qw10 qg11
  replace qB2 := qB2.since qg11
  replace G := G.trans qg11
  have qg11_s := qg11.size
  refine vV (.int .i64 k) ?_
  refine vE #[.agg (prCells prZero),.int .i64 k,.pointer (some ⟨w.heap.size, 0, none⟩),U,.int .i64 0,.pointer (some ⟨w.heap.size, 0, none⟩),.agg (cnCells prZero.a),.int .i64 k,.int .i64 k,.int .i64 k,.bool false,.pointer (some ⟨w.heap.size, 37, none⟩),.agg (cnCells prZero.b),.int .i64 k,.int .i64 k,.int .i64 k,.bool false,.pointer (some ⟨w.heap.size, 77, none⟩),.slice prZero.ba prZero.bn prZero.bc,.int .i64 k,.int .i64 k,.int .i64 k,.bool false,.pointer (some ⟨w.heap.size, 78, none⟩),.slice prZero.aa prZero.an prZero.ac,.int .i64 k,.int .i64 k,U,U,U] ?_
  go_wp2_with (fail)
  go_ret
  exact ⟨rfl, G⟩

set_option maxRecDepth 20000 in
set_option maxHeartbeats 8000000 in
theorem markWd (C : Cn) (hC : NoParts C) (j room ir iz pipe : Int) (B g : Nat) (xs : List Sg) (w : World) (L : Held shG w B g 1 1 xs) :
    Calls Try.prog 8 #[.agg (wdCells ⟨⟨C, cnZero, false, j, room, some ⟨g, 0, none⟩, 1, 1, none, 0, 0, 0, ByteArray.empty, ByteArray.empty, ByteArray.empty, ByteArray.empty⟩, prZero, false, ir, iz, pipe, ByteArray.empty, false, 0, pipe, ByteArray.empty, false, 0⟩), .int .i64 1] w fun e w' => e = .returned (.int .i64 (1 + 8 * ((1 : Nat) : Int))) ∧ Touch g w w' ∧ ∃ ms, MarkedG 1 1 ms ∧ Held shG w' B g 1 1 ms := by
  have hg := L.lt
  have G := Touch.of_since (Since.refl w) g
  go_enter Try.func8, Try.ntmps8
  go_upto_region 0 with (fail)
  refine vR ?_
  refine vW (w.alloc (.cells (wdCells ⟨⟨C, cnZero, false, j, room, some ⟨g, 0, none⟩, 1, 1, none, 0, 0, 0, ByteArray.empty, ByteArray.empty, ByteArray.empty, ByteArray.empty⟩, prZero, false, ir, iz, pipe, ByteArray.empty, false, 0, pipe, ByteArray.empty, false, 0⟩) 43)) (.pointer (some ⟨w.heap.size, 0, none⟩)) ?_
  have qB2 := Blk.new w (wdCells ⟨⟨C, cnZero, false, j, room, some ⟨g, 0, none⟩, 1, 1, none, 0, 0, 0, ByteArray.empty, ByteArray.empty, ByteArray.empty, ByteArray.empty⟩, prZero, false, ir, iz, pipe, ByteArray.empty, false, 0, pipe, ByteArray.empty, false, 0⟩) 43
  have qg3 := (Since.refl w).alloc (.cells (wdCells ⟨⟨C, cnZero, false, j, room, some ⟨g, 0, none⟩, 1, 1, none, 0, 0, 0, ByteArray.empty, ByteArray.empty, ByteArray.empty, ByteArray.empty⟩, prZero, false, ir, iz, pipe, ByteArray.empty, false, 0, pipe, ByteArray.empty, false, 0⟩) 43)
  replace L := L.since qg3
  replace G := G.trans (Touch.of_since qg3 g)
  generalize w.alloc (.cells (wdCells ⟨⟨C, cnZero, false, j, room, some ⟨g, 0, none⟩, 1, 1, none, 0, 0, 0, ByteArray.empty, ByteArray.empty, ByteArray.empty, ByteArray.empty⟩, prZero, false, ir, iz, pipe, ByteArray.empty, false, 0, pipe, ByteArray.empty, false, 0⟩) 43) = qw1 at L G qB2 qg3 ⊢
  have qB2_l := qB2.lt
  have qg3_s := qg3.size
  refine vV (.int .i64 0) ?_
  refine vE #[.agg (wdCells ⟨⟨C, cnZero, false, j, room, some ⟨g, 0, none⟩, 1, 1, none, 0, 0, 0, ByteArray.empty, ByteArray.empty, ByteArray.empty, ByteArray.empty⟩, prZero, false, ir, iz, pipe, ByteArray.empty, false, 0, pipe, ByteArray.empty, false, 0⟩),.int .i64 1,.pointer (some ⟨w.heap.size, 0, none⟩),U,.int .i64 0,U,U,U,U,U,U,U,U,U] ?_
  go_upto_region 1 with (fail)
  refine vR ?_
  refine vV (.pointer (some ⟨w.heap.size, 0, none⟩)) ?_
  refine vWdl qB2 ?_
  refine vV (.int .i64 1) ?_
  refine vC (markPr C hC j room _ g _ _ L) ?_
  have L_2 := L.low'
  rintro _ qw4 ⟨rfl, qt5, ms, hM, Ln⟩
  refine ⟨_, rfl, ?_⟩
  clear L
  have L := Ln
  clear Ln
  replace qB2 := qB2.touch qt5 (by omega)
  replace G := G.trans qt5
  have qt5_s := qt5.size
  refine vV (.int .i64 (1 + 8 * ((1 : Nat) : Int))) ?_
  refine vE #[.agg (wdCells ⟨⟨C, cnZero, false, j, room, some ⟨g, 0, none⟩, 1, 1, none, 0, 0, 0, ByteArray.empty, ByteArray.empty, ByteArray.empty, ByteArray.empty⟩, prZero, false, ir, iz, pipe, ByteArray.empty, false, 0, pipe, ByteArray.empty, false, 0⟩),.int .i64 (1 + 8 * ((1 : Nat) : Int)),.pointer (some ⟨w.heap.size, 0, none⟩),U,.int .i64 0,.pointer (some ⟨w.heap.size, 0, none⟩),.agg (prCells ⟨C, cnZero, false, j, room, some ⟨g, 0, none⟩, 1, 1, none, 0, 0, 0, ByteArray.empty, ByteArray.empty, ByteArray.empty, ByteArray.empty⟩),.int .i64 1,.int .i64 (1 + 8 * ((1 : Nat) : Int)),U,U,U,U,U] ?_
  go_upto_region 2 with (fail)
  refine vR ?_
  refine vV (.pointer (some ⟨w.heap.size, 84, none⟩)) ?_
  refine vWdr qB2 ?_
  refine vV (.int .i64 (1 + 8 * ((1 : Nat) : Int))) ?_
  refine vK (markPrZ (1 + 8 * ((1 : Nat) : Int)) (by omega) _) ?_
  intro qw6 qg7
  replace qB2 := qB2.since qg7
  replace L := L.since qg7
  replace G := G.trans (Touch.of_since qg7 g)
  have qg7_s := qg7.size
  refine vV (.int .i64 (1 + 8 * ((1 : Nat) : Int))) ?_
  refine vE #[.agg (wdCells ⟨⟨C, cnZero, false, j, room, some ⟨g, 0, none⟩, 1, 1, none, 0, 0, 0, ByteArray.empty, ByteArray.empty, ByteArray.empty, ByteArray.empty⟩, prZero, false, ir, iz, pipe, ByteArray.empty, false, 0, pipe, ByteArray.empty, false, 0⟩),.int .i64 (1 + 8 * ((1 : Nat) : Int)),.pointer (some ⟨w.heap.size, 0, none⟩),U,.int .i64 0,.pointer (some ⟨w.heap.size, 0, none⟩),.agg (prCells ⟨C, cnZero, false, j, room, some ⟨g, 0, none⟩, 1, 1, none, 0, 0, 0, ByteArray.empty, ByteArray.empty, ByteArray.empty, ByteArray.empty⟩),.int .i64 1,.int .i64 (1 + 8 * ((1 : Nat) : Int)),.pointer (some ⟨w.heap.size, 84, none⟩),.agg (prCells prZero),.int .i64 (1 + 8 * ((1 : Nat) : Int)),.int .i64 (1 + 8 * ((1 : Nat) : Int)),U] ?_
  go_wp2_with (fail)
  go_ret
  exact ⟨rfl, G, ms, hM, L⟩

set_option maxRecDepth 20000 in
set_option maxHeartbeats 8000000 in
theorem heldWd (C : Cn) (hC : NoParts C) (j room ir iz pipe : Int) (B g : Nat) (ms : List Sg) (w : World) (L : Held shG w B g 1 1 ms) (hM : MarkedG 1 1 ms) :
    Calls Try.prog 9 #[.agg (wdCells ⟨⟨C, cnZero, false, j, room, some ⟨g, 0, none⟩, 1, 1, none, 0, 0, 0, ByteArray.empty, ByteArray.empty, ByteArray.empty, ByteArray.empty⟩, prZero, false, ir, iz, pipe, ByteArray.empty, false, 0, pipe, ByteArray.empty, false, 0⟩), .int .i64 1] w fun e w' => e = .returned (.int .i64 (1 + 8 * ((1 : Nat) : Int))) ∧ Since w w' := by
  have hg := L.lt
  have G := Since.refl w
  go_enter Try.func9, Try.ntmps9
  go_upto_region 0 with (fail)
  refine vR ?_
  refine vW (w.alloc (.cells (wdCells ⟨⟨C, cnZero, false, j, room, some ⟨g, 0, none⟩, 1, 1, none, 0, 0, 0, ByteArray.empty, ByteArray.empty, ByteArray.empty, ByteArray.empty⟩, prZero, false, ir, iz, pipe, ByteArray.empty, false, 0, pipe, ByteArray.empty, false, 0⟩) 43)) (.pointer (some ⟨w.heap.size, 0, none⟩)) ?_
  have qB2 := Blk.new w (wdCells ⟨⟨C, cnZero, false, j, room, some ⟨g, 0, none⟩, 1, 1, none, 0, 0, 0, ByteArray.empty, ByteArray.empty, ByteArray.empty, ByteArray.empty⟩, prZero, false, ir, iz, pipe, ByteArray.empty, false, 0, pipe, ByteArray.empty, false, 0⟩) 43
  have qg3 := (Since.refl w).alloc (.cells (wdCells ⟨⟨C, cnZero, false, j, room, some ⟨g, 0, none⟩, 1, 1, none, 0, 0, 0, ByteArray.empty, ByteArray.empty, ByteArray.empty, ByteArray.empty⟩, prZero, false, ir, iz, pipe, ByteArray.empty, false, 0, pipe, ByteArray.empty, false, 0⟩) 43)
  replace L := L.since qg3
  replace G := G.trans qg3
  generalize w.alloc (.cells (wdCells ⟨⟨C, cnZero, false, j, room, some ⟨g, 0, none⟩, 1, 1, none, 0, 0, 0, ByteArray.empty, ByteArray.empty, ByteArray.empty, ByteArray.empty⟩, prZero, false, ir, iz, pipe, ByteArray.empty, false, 0, pipe, ByteArray.empty, false, 0⟩) 43) = qw1 at L G qB2 qg3 ⊢
  have qB2_l := qB2.lt
  have qg3_s := qg3.size
  refine vV (.int .i64 0) ?_
  refine vE #[.agg (wdCells ⟨⟨C, cnZero, false, j, room, some ⟨g, 0, none⟩, 1, 1, none, 0, 0, 0, ByteArray.empty, ByteArray.empty, ByteArray.empty, ByteArray.empty⟩, prZero, false, ir, iz, pipe, ByteArray.empty, false, 0, pipe, ByteArray.empty, false, 0⟩),.int .i64 1,.pointer (some ⟨w.heap.size, 0, none⟩),U,.int .i64 0,U,U,U,U,U,U,U,U,U,U,U,U,U] ?_
  go_upto_region 1 with (fail)
  refine vR ?_
  refine vV (.pointer (some ⟨w.heap.size, 0, none⟩)) ?_
  refine vWdl qB2 ?_
  refine vV (.int .i64 1) ?_
  refine vK (heldPr C hC j room _ g _ _ L hM) ?_
  intro qw4 qg5
  replace qB2 := qB2.since qg5
  replace L := L.since qg5
  replace G := G.trans qg5
  have qg5_s := qg5.size
  refine vV (.int .i64 (1 + 8 * ((1 : Nat) : Int))) ?_
  refine vE #[.agg (wdCells ⟨⟨C, cnZero, false, j, room, some ⟨g, 0, none⟩, 1, 1, none, 0, 0, 0, ByteArray.empty, ByteArray.empty, ByteArray.empty, ByteArray.empty⟩, prZero, false, ir, iz, pipe, ByteArray.empty, false, 0, pipe, ByteArray.empty, false, 0⟩),.int .i64 (1 + 8 * ((1 : Nat) : Int)),.pointer (some ⟨w.heap.size, 0, none⟩),U,.int .i64 0,.pointer (some ⟨w.heap.size, 0, none⟩),.agg (prCells ⟨C, cnZero, false, j, room, some ⟨g, 0, none⟩, 1, 1, none, 0, 0, 0, ByteArray.empty, ByteArray.empty, ByteArray.empty, ByteArray.empty⟩),.int .i64 1,.int .i64 (1 + 8 * ((1 : Nat) : Int)),U,U,U,U,U,U,U,U,U] ?_
  go_upto_region 4 with (fail)
  refine vR ?_
  refine vV (.pointer (some ⟨w.heap.size, 84, none⟩)) ?_
  refine vWdr qB2 ?_
  refine vV (.int .i64 (1 + 8 * ((1 : Nat) : Int))) ?_
  refine vK (heldPrZ (1 + 8 * ((1 : Nat) : Int)) (by omega) _) ?_
  intro qw6 qg7
  replace qB2 := qB2.since qg7
  replace L := L.since qg7
  replace G := G.trans qg7
  have qg7_s := qg7.size
  refine vV (.int .i64 (1 + 8 * ((1 : Nat) : Int))) ?_
  refine vE #[.agg (wdCells ⟨⟨C, cnZero, false, j, room, some ⟨g, 0, none⟩, 1, 1, none, 0, 0, 0, ByteArray.empty, ByteArray.empty, ByteArray.empty, ByteArray.empty⟩, prZero, false, ir, iz, pipe, ByteArray.empty, false, 0, pipe, ByteArray.empty, false, 0⟩),.int .i64 (1 + 8 * ((1 : Nat) : Int)),.pointer (some ⟨w.heap.size, 0, none⟩),U,.int .i64 0,.pointer (some ⟨w.heap.size, 0, none⟩),.agg (prCells ⟨C, cnZero, false, j, room, some ⟨g, 0, none⟩, 1, 1, none, 0, 0, 0, ByteArray.empty, ByteArray.empty, ByteArray.empty, ByteArray.empty⟩),.int .i64 1,.int .i64 (1 + 8 * ((1 : Nat) : Int)),.int .i64 (1 + 8 * ((1 : Nat) : Int)),.bool false,.pointer (some ⟨w.heap.size, 84, none⟩),.agg (prCells prZero),.int .i64 (1 + 8 * ((1 : Nat) : Int)),.int .i64 (1 + 8 * ((1 : Nat) : Int)),U,U,U] ?_
  go_wp2_with (fail)
  go_ret
  exact ⟨rfl, G⟩

set_option maxRecDepth 20000 in
set_option maxHeartbeats 8000000 in
theorem markWdN (w : World) :
    Calls Try.prog 8 #[.agg (wdCells wdZero), .int .i64 1] w fun e w' => e = .returned (.int .i64 1) ∧ Since w w' := by
  have G := Since.refl w
  go_enter Try.func8, Try.ntmps8
  go_upto_region 0 with (fail)
  refine vR ?_
  refine vW (w.alloc (.cells (wdCells wdZero) 43)) (.pointer (some ⟨w.heap.size, 0, none⟩)) ?_
  have qB2 := Blk.new w (wdCells wdZero) 43
  have qg3 := (Since.refl w).alloc (.cells (wdCells wdZero) 43)
  replace G := G.trans qg3
  generalize w.alloc (.cells (wdCells wdZero) 43) = qw1 at  G qB2 qg3 ⊢
  have qB2_l := qB2.lt
  have qg3_s := qg3.size
  refine vV (.int .i64 0) ?_
  refine vE #[.agg (wdCells wdZero),.int .i64 1,.pointer (some ⟨w.heap.size, 0, none⟩),U,.int .i64 0,U,U,U,U,U,U,U,U,U] ?_
  go_upto_region 1 with (fail)
  refine vR ?_
  refine vV (.pointer (some ⟨w.heap.size, 0, none⟩)) ?_
  refine vWdl qB2 ?_
  refine vV (.int .i64 1) ?_
  refine vK (markPrZ 1 (by omega) _) ?_
  intro qw4 qg5
  replace qB2 := qB2.since qg5
  replace G := G.trans qg5
  have qg5_s := qg5.size
  refine vV (.int .i64 1) ?_
  refine vE #[.agg (wdCells wdZero),.int .i64 1,.pointer (some ⟨w.heap.size, 0, none⟩),U,.int .i64 0,.pointer (some ⟨w.heap.size, 0, none⟩),.agg (prCells wdZero.l),.int .i64 1,.int .i64 1,U,U,U,U,U] ?_
  go_upto_region 2 with (fail)
  refine vR ?_
  refine vV (.pointer (some ⟨w.heap.size, 84, none⟩)) ?_
  refine vWdr qB2 ?_
  refine vV (.int .i64 1) ?_
  refine vK (markPrZ 1 (by omega) _) ?_
  intro qw6 qg7
  replace qB2 := qB2.since qg7
  replace G := G.trans qg7
  have qg7_s := qg7.size
  refine vV (.int .i64 1) ?_
  refine vE #[.agg (wdCells wdZero),.int .i64 1,.pointer (some ⟨w.heap.size, 0, none⟩),U,.int .i64 0,.pointer (some ⟨w.heap.size, 0, none⟩),.agg (prCells wdZero.l),.int .i64 1,.int .i64 1,.pointer (some ⟨w.heap.size, 84, none⟩),.agg (prCells wdZero.r),.int .i64 1,.int .i64 1,U] ?_
  go_wp2_with (fail)
  go_ret
  exact ⟨rfl, G⟩

set_option maxRecDepth 20000 in
set_option maxHeartbeats 8000000 in
theorem heldWdN (w : World) :
    Calls Try.prog 9 #[.agg (wdCells wdZero), .int .i64 1] w fun e w' => e = .returned (.int .i64 1) ∧ Since w w' := by
  have G := Since.refl w
  go_enter Try.func9, Try.ntmps9
  go_upto_region 0 with (fail)
  refine vR ?_
  refine vW (w.alloc (.cells (wdCells wdZero) 43)) (.pointer (some ⟨w.heap.size, 0, none⟩)) ?_
  have qB2 := Blk.new w (wdCells wdZero) 43
  have qg3 := (Since.refl w).alloc (.cells (wdCells wdZero) 43)
  replace G := G.trans qg3
  generalize w.alloc (.cells (wdCells wdZero) 43) = qw1 at  G qB2 qg3 ⊢
  have qB2_l := qB2.lt
  have qg3_s := qg3.size
  refine vV (.int .i64 0) ?_
  refine vE #[.agg (wdCells wdZero),.int .i64 1,.pointer (some ⟨w.heap.size, 0, none⟩),U,.int .i64 0,U,U,U,U,U,U,U,U,U,U,U,U,U] ?_
  go_upto_region 1 with (fail)
  refine vR ?_
  refine vV (.pointer (some ⟨w.heap.size, 0, none⟩)) ?_
  refine vWdl qB2 ?_
  refine vV (.int .i64 1) ?_
  refine vK (heldPrZ 1 (by omega) _) ?_
  intro qw4 qg5
  replace qB2 := qB2.since qg5
  replace G := G.trans qg5
  have qg5_s := qg5.size
  refine vV (.int .i64 1) ?_
  refine vE #[.agg (wdCells wdZero),.int .i64 1,.pointer (some ⟨w.heap.size, 0, none⟩),U,.int .i64 0,.pointer (some ⟨w.heap.size, 0, none⟩),.agg (prCells wdZero.l),.int .i64 1,.int .i64 1,U,U,U,U,U,U,U,U,U] ?_
  go_upto_region 4 with (fail)
  refine vR ?_
  refine vV (.pointer (some ⟨w.heap.size, 84, none⟩)) ?_
  refine vWdr qB2 ?_
  refine vV (.int .i64 1) ?_
  refine vK (heldPrZ 1 (by omega) _) ?_
  intro qw6 qg7
  replace qB2 := qB2.since qg7
  replace G := G.trans qg7
  have qg7_s := qg7.size
  refine vV (.int .i64 1) ?_
  refine vE #[.agg (wdCells wdZero),.int .i64 1,.pointer (some ⟨w.heap.size, 0, none⟩),U,.int .i64 0,.pointer (some ⟨w.heap.size, 0, none⟩),.agg (prCells wdZero.l),.int .i64 1,.int .i64 1,.int .i64 1,.bool false,.pointer (some ⟨w.heap.size, 84, none⟩),.agg (prCells wdZero.r),.int .i64 1,.int .i64 1,U,U,U] ?_
  go_wp2_with (fail)
  go_ret
  exact ⟨rfl, G⟩

/-- Four words that came in as data, opened. -/
theorem open_a4 {H : Type} {enc : TypeId × Value → H} {W : World} {base : Nat} {v : Value} {d : DataW H} {p : List MemPlace} (hv : Value.okWide Try.prog W .any base 23 v) (h : DataW.Trod enc Try.prog W 0 (fun _ => true) true 23 v d p) :
    ∃ (i0 i1 i2 i3 : Int), v = .agg #[.int .u32 i0, .int .u32 i1, .int .u32 i2, .int .u32 i3] ∧ (Lit.int .u32 i0).wf = true ∧ (Lit.int .u32 i1).wf = true ∧ (Lit.int .u32 i2).wf = true ∧ (Lit.int .u32 i3).wf = true := by
  simp only [Value.okWide, Try.underlying23] at hv
  obtain ⟨cs, rfl, hsz, _⟩ := hv
  have hC : Try.prog.cellsOf 23 = 4 := by kernel_rfl
  rw [hC] at hsz
  obtain ⟨fuel, hf⟩ := h
  obtain ⟨l⟩ := cs
  have z1 : Try.prog.cellsOf 22 = 1 := by kernel_rfl
  match l, hsz with
  | c0 :: c1 :: c2 :: c3 :: [], _ =>
    obtain ⟨y0, y1, y2, y3, n, _, h0, h1, h2, h3⟩ := trod_array4 Try.underlying23 z1 hf
    obtain ⟨x0, e0, _, w0⟩ := DataW.trod_int Try.underlying22 h0
    obtain ⟨x1, e1, _, w1⟩ := DataW.trod_int Try.underlying22 h1
    obtain ⟨x2, e2, _, w2⟩ := DataW.trod_int Try.underlying22 h2
    obtain ⟨x3, e3, _, w3⟩ := DataW.trod_int Try.underlying22 h3
    simp only [List.cons.injEq, and_true] at e0 e1 e2 e3
    subst e0 e1 e2 e3
    exact ⟨x0, x1, x2, x3, rfl, w0, w1, w2, w3⟩
end Go.Proofs.Ytomnjegldbopiaa
