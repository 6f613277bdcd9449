/-
  The draws of two addresses, of an epoch, and of a cookie's arguments.
-/
import Derived.Test.YtjilpicpfddbfaaDoorCrs15
import Derived.Test.YtjilpicpfddbfaaDoorAdr15
import Derived.Test.YtjilpicpfddbfaaDoorLow
import Derived.Deep.DeepCutAuto
namespace Go.Proofs.YtjilpicpfddbfaaDoor
open Go.ChangeShapes Go.WideShapes Go.ChangeAt Go.RowKit Go.Deep
set_option linter.unusedVariables false
set_option maxRecDepth 10000

theorem touchN {g b : Nat} {w x y : World} (h : Touch g w x) (t : Touch b x y) (hb : b = g ∨ w.heap.size ≤ b) : Touch g w y :=
  ⟨t.os.trans h.os, t.tape.trans h.tape, t.output.trans h.output, Nat.le_trans h.size t.size, fun k hk hg => (t.block k (Nat.lt_of_lt_of_le hk h.size) (by omega)).trans (h.block k hk hg)⟩

theorem touchS {g : Nat} {w x y : World} (h : Touch g w x) (t : Since x y) : Touch g w y := h.trans (Touch.of_below t fun k hk _ => hk)

/-- A port as it is drawn. -/
def IsPortD (p : Int) : Prop := -1 ≤ p ∧ p ≤ 65536

/-- An epoch as it is drawn. -/
def IsEpochD (e : Int) : Prop := -1 ≤ e ∧ e ≤ 1000000001

set_option maxRecDepth 20000 in
set_option maxHeartbeats 8000000 in
theorem drawEpoch {w0 : World} {g : Nat} {a : Option Addr} {len cap : Nat} {zs : List Int} (w : World) (HC : Crs w0 g a len cap zs w) :
    Calls Tryd.prog 20 #[.pointer (some ⟨g, 0, none⟩)] w fun e w' => ∃ x : Int, e = .returned (.int .i64 x) ∧ IsEpochD x ∧ Crs w0 g a len cap zs w' ∧ Touch g w w' := by
  have hg := HC.here
  have hlo := HC.low
  have G := Touch.refl g w
  go_enter Tryd.func20, Tryd.ntmps20
  go_upto_region 0 with (fail)
  refine vR ?_
  refine vV (.int .i64 0) ?_
  refine vE #[.pointer (some ⟨g, 0, none⟩),U,.int .i64 0,U,U,U,U,U,U,U] ?_
  go_upto_region 1 with (fail)
  refine vR ?_
  refine vV (.pointer (some ⟨g, 0, none⟩)) ?_
  refine vC (dOnce 10 _ HC) ?_
  rintro _ qw1 ⟨b1, rfl, HCn, qt2⟩
  refine ⟨_, rfl, ?_⟩
  clear HC
  replace G := G.trans qt2
  have HC := HCn
  clear HCn
  have qt2_s := qt2.size
  refine vE #[.pointer (some ⟨g, 0, none⟩),U,.int .i64 0,.pointer (some ⟨g, 0, none⟩),.bool b1,U,U,U,U,U] ?_
  cases b1
  case true =>
    go_upto_region 2 with (fail)
    refine vR ?_
    refine vV (.pointer (some ⟨g, 0, none⟩)) ?_
    refine vW (qw1.alloc (.cells #[.int .i64 (-1), .int .i64 0, .int .i64 1000000000, .int .i64 1000000001] 3)) (.slice (some ⟨qw1.heap.size, 0, none⟩) 4 4) ?_
    have qI4 := ints_alloc qw1 #[.int .i64 (-1), .int .i64 0, .int .i64 1000000000, .int .i64 1000000001] 3 [-1, 0, 1000000000, 1000000001] rfl
    have qg5 := (Since.refl qw1).alloc (.cells #[.int .i64 (-1), .int .i64 0, .int .i64 1000000000, .int .i64 1000000001] 3)
    replace HC := HC.since qg5
    replace G := touchS G qg5
    generalize qw1.alloc (.cells #[.int .i64 (-1), .int .i64 0, .int .i64 1000000000, .int .i64 1000000001] 3) = qw3 at HC G qI4 qg5 ⊢
    have qg5_s := qg5.size
    refine vC (dPick _ 4 [-1, 0, 1000000000, 1000000001] rfl (by omega) (by omega) _ HC (by omega) qI4) ?_
    rintro _ qw6 ⟨v1, rfl, hv1, HCn, qt7⟩
    refine ⟨_, rfl, ?_⟩
    clear HC
    replace G := G.trans qt7
    have HC := HCn
    clear HCn
    have qt7_s := qt7.size
    clear qI4
    refine vV (.int .i64 v1) ?_
    refine vE #[.pointer (some ⟨g, 0, none⟩),U,.int .i64 v1,.pointer (some ⟨g, 0, none⟩),.bool true,.pointer (some ⟨g, 0, none⟩),.slice (some ⟨qw1.heap.size, 0, none⟩) 4 4,.int .i64 v1,U,U] ?_
    go_wp2_with (fail)
    go_ret
    exact ⟨v1, rfl, by simp at hv1; unfold IsEpochD; omega, HC, G⟩
  case false =>
    go_upto_region 3 with (fail)
    refine vR ?_
    refine vV (.pointer (some ⟨g, 0, none⟩)) ?_
    refine vC (dBelow 70 (by omega) _ HC) ?_
    rintro _ qw3 ⟨r1, rfl, hr1, HCn, qt4⟩
    refine ⟨_, rfl, ?_⟩
    clear HC
    replace G := G.trans qt4
    have HC := HCn
    clear HCn
    have qt4_s := qt4.size
    refine vV (.int .i64 r1) ?_
    refine vE #[.pointer (some ⟨g, 0, none⟩),U,.int .i64 r1,.pointer (some ⟨g, 0, none⟩),.bool false,U,U,U,.pointer (some ⟨g, 0, none⟩),.int .i64 r1] ?_
    go_wp2_with (fail)
    go_ret
    exact ⟨_, rfl, by unfold IsEpochD; omega, HC, G⟩

set_option maxRecDepth 20000 in
set_option maxHeartbeats 8000000 in
theorem drawWho {w0 : World} {g : Nat} {a : Option Addr} {len cap : Nat} {zs : List Int} (w : World) (HC : Crs w0 g a len cap zs w) :
    Calls Tryd.prog 19 #[.pointer (some ⟨g, 0, none⟩)] w fun e w' => ∃ h p j q : Int, e = .returned (.tuple #[addrVal h p, addrVal j q]) ∧ IsPortD p ∧ IsPortD q ∧ Crs w0 g a len cap zs w' ∧ Touch g w w' := by
  have hg := HC.here
  have hlo := HC.low
  have G := Touch.refl g w
  unfold addrVal
  go_enter Tryd.func19, Tryd.ntmps19
  go_upto_region 0 with (fail)
  refine vR ?_
  refine vW (w.alloc (.cells #[.int .u32 0, .int .i64 0] 26)) (.pointer (some ⟨w.heap.size, 0, none⟩)) ?_
  have qB2 := Blk.new w #[.int .u32 0, .int .i64 0] 26
  have qg3 := (Since.refl w).alloc (.cells #[.int .u32 0, .int .i64 0] 26)
  replace HC := HC.since qg3
  replace G := touchS G qg3
  generalize w.alloc (.cells #[.int .u32 0, .int .i64 0] 26) = qw1 at HC G qB2 qg3 ⊢
  have qB2_l := qB2.lt
  have qg3_s := qg3.size
  refine vW (qw1.alloc (.cells #[.int .u32 0, .int .i64 0] 26)) (.pointer (some ⟨qw1.heap.size, 0, none⟩)) ?_
  have qB5 := Blk.new qw1 #[.int .u32 0, .int .i64 0] 26
  have qg6 := (Since.refl qw1).alloc (.cells #[.int .u32 0, .int .i64 0] 26)
  replace qB2 := qB2.since qg6
  replace HC := HC.since qg6
  replace G := touchS G qg6
  generalize qw1.alloc (.cells #[.int .u32 0, .int .i64 0] 26) = qw4 at qB2 HC G qB5 qg6 ⊢
  have qB5_l := qB5.lt
  have qg6_s := qg6.size
  refine vE #[.pointer (some ⟨g, 0, none⟩),U,.pointer (some ⟨w.heap.size, 0, none⟩),.pointer (some ⟨qw1.heap.size, 0, none⟩),U,U,U,U,U,U,U,U,U,U,U,U,U,U,U,U,U,U,U,U,U,U,U,U] ?_
  go_upto_region 1 with (fail)
  refine vR ?_
  refine vV (.pointer (some ⟨g, 0, none⟩)) ?_
  refine vC (dBelow 3 (by omega) _ HC) ?_
  rintro _ qw7 ⟨r2, rfl, hr2, HCn, qt8⟩
  refine ⟨_, rfl, ?_⟩
  clear HC
  replace qB2 := qB2.touch qt8 (by omega)
  replace qB5 := qB5.touch qt8 (by omega)
  replace G := G.trans qt8
  have HC := HCn
  clear HCn
  have qt8_s := qt8.size
  refine vV (.int .u32 r2) ?_ (hrun := by simp [execOp, go_sem, IntKind.wrap_u32]; omega)
  refine vV (.pointer (some ⟨g, 0, none⟩)) ?_
  refine vC (dBelow 3 (by omega) _ HC) ?_
  rintro _ qw9 ⟨r3, rfl, hr3, HCn, qt10⟩
  refine ⟨_, rfl, ?_⟩
  clear HC
  replace qB2 := qB2.touch qt10 (by omega)
  replace qB5 := qB5.touch qt10 (by omega)
  replace G := G.trans qt10
  have HC := HCn
  clear HCn
  have qt10_s := qt10.size
  refine vV (.int .i64 (1 + r3)) ?_ (hrun := by simp [execOp, go_sem, IntWalk.i64_left, IntWalk.wrap64_in (1 + r3) ⟨by omega, by omega⟩])
  refine vV (.agg #[.int .u32 r2, .int .i64 (1 + r3)]) ?_
  refine vW (qw9.alloc (.cells #[.int .u32 0, .int .i64 0] 26)) (.pointer (some ⟨qw9.heap.size, 0, none⟩)) ?_
  have qB12 := Blk.new qw9 #[.int .u32 0, .int .i64 0] 26
  have qg13 := (Since.refl qw9).alloc (.cells #[.int .u32 0, .int .i64 0] 26)
  replace qB2 := qB2.since qg13
  replace qB5 := qB5.since qg13
  replace HC := HC.since qg13
  replace G := touchS G qg13
  generalize qw9.alloc (.cells #[.int .u32 0, .int .i64 0] 26) = qw11 at qB2 qB5 HC G qB12 qg13 ⊢
  have qB12_l := qB12.lt
  have qg13_s := qg13.size
  refine sB #[.int .u32 r2, .int .i64 (1 + r3)] ad_big qB12 rfl rfl (by simp [Value.oneCell']) ?_
  intro qw14 qt15 qB16
  clear qB12
  replace qB2 := qB2.touch qt15 (by omega)
  replace qB5 := qB5.touch qt15 (by omega)
  replace HC := HC.touch qt15 (by omega)
  replace G := touchN G qt15 (by omega)
  have qt15_s := qt15.size
  refine vE #[.pointer (some ⟨g, 0, none⟩),U,.pointer (some ⟨w.heap.size, 0, none⟩),.pointer (some ⟨qw1.heap.size, 0, none⟩),.pointer (some ⟨qw9.heap.size, 0, none⟩),U,.pointer (some ⟨g, 0, none⟩),.int .i64 r2,.int .u32 r2,.pointer (some ⟨g, 0, none⟩),.int .i64 r3,.int .i64 (1 + r3),.agg #[.int .u32 r2, .int .i64 (1 + r3)],U,U,U,U,U,U,U,U,U,U,U,U,U,U,U] ?_
  go_upto_region 2 with (fail)
  refine vR ?_
  refine vV (.pointer (some ⟨g, 0, none⟩)) ?_
  refine vC (dBelow 3 (by omega) _ HC) ?_
  rintro _ qw17 ⟨r4, rfl, hr4, HCn, qt18⟩
  refine ⟨_, rfl, ?_⟩
  clear HC
  replace qB2 := qB2.touch qt18 (by omega)
  replace qB5 := qB5.touch qt18 (by omega)
  replace qB16 := qB16.touch qt18 (by omega)
  replace G := G.trans qt18
  have HC := HCn
  clear HCn
  have qt18_s := qt18.size
  refine vV (.int .u32 r4) ?_ (hrun := by simp [execOp, go_sem, IntKind.wrap_u32]; omega)
  refine vV (.pointer (some ⟨g, 0, none⟩)) ?_
  refine vC (dBelow 3 (by omega) _ HC) ?_
  rintro _ qw19 ⟨r5, rfl, hr5, HCn, qt20⟩
  refine ⟨_, rfl, ?_⟩
  clear HC
  replace qB2 := qB2.touch qt20 (by omega)
  replace qB5 := qB5.touch qt20 (by omega)
  replace qB16 := qB16.touch qt20 (by omega)
  replace G := G.trans qt20
  have HC := HCn
  clear HCn
  have qt20_s := qt20.size
  refine vV (.int .i64 (1 + r5)) ?_ (hrun := by simp [execOp, go_sem, IntWalk.i64_left, IntWalk.wrap64_in (1 + r5) ⟨by omega, by omega⟩])
  refine vV (.agg #[.int .u32 r4, .int .i64 (1 + r5)]) ?_
  refine vW (qw19.alloc (.cells #[.int .u32 0, .int .i64 0] 26)) (.pointer (some ⟨qw19.heap.size, 0, none⟩)) ?_
  have qB22 := Blk.new qw19 #[.int .u32 0, .int .i64 0] 26
  have qg23 := (Since.refl qw19).alloc (.cells #[.int .u32 0, .int .i64 0] 26)
  replace qB2 := qB2.since qg23
  replace qB5 := qB5.since qg23
  replace qB16 := qB16.since qg23
  replace HC := HC.since qg23
  replace G := touchS G qg23
  generalize qw19.alloc (.cells #[.int .u32 0, .int .i64 0] 26) = qw21 at qB2 qB5 qB16 HC G qB22 qg23 ⊢
  have qB22_l := qB22.lt
  have qg23_s := qg23.size
  refine sB #[.int .u32 r4, .int .i64 (1 + r5)] ad_big qB22 rfl rfl (by simp [Value.oneCell']) ?_
  intro qw24 qt25 qB26
  clear qB22
  replace qB2 := qB2.touch qt25 (by omega)
  replace qB5 := qB5.touch qt25 (by omega)
  replace qB16 := qB16.touch qt25 (by omega)
  replace HC := HC.touch qt25 (by omega)
  replace G := touchN G qt25 (by omega)
  have qt25_s := qt25.size
  refine vE #[.pointer (some ⟨g, 0, none⟩),U,.pointer (some ⟨w.heap.size, 0, none⟩),.pointer (some ⟨qw1.heap.size, 0, none⟩),.pointer (some ⟨qw9.heap.size, 0, none⟩),.pointer (some ⟨qw19.heap.size, 0, none⟩),.pointer (some ⟨g, 0, none⟩),.int .i64 r2,.int .u32 r2,.pointer (some ⟨g, 0, none⟩),.int .i64 r3,.int .i64 (1 + r3),.agg #[.int .u32 r2, .int .i64 (1 + r3)],.pointer (some ⟨g, 0, none⟩),.int .i64 r4,.int .u32 r4,.pointer (some ⟨g, 0, none⟩),.int .i64 r5,.int .i64 (1 + r5),.agg #[.int .u32 r4, .int .i64 (1 + r5)],U,U,U,U,U,U,U,U] ?_
  go_upto_region 3 with (fail)
  refine vR ?_
  refine vV (.pointer (some ⟨g, 0, none⟩)) ?_
  refine vC (dOnce 25 _ HC) ?_
  rintro _ qw27 ⟨b1, rfl, HCn, qt28⟩
  refine ⟨_, rfl, ?_⟩
  clear HC
  replace qB2 := qB2.touch qt28 (by omega)
  replace qB5 := qB5.touch qt28 (by omega)
  replace qB16 := qB16.touch qt28 (by omega)
  replace qB26 := qB26.touch qt28 (by omega)
  replace G := G.trans qt28
  have HC := HCn
  clear HCn
  have qt28_s := qt28.size
  refine vE #[.pointer (some ⟨g, 0, none⟩),U,.pointer (some ⟨w.heap.size, 0, none⟩),.pointer (some ⟨qw1.heap.size, 0, none⟩),.pointer (some ⟨qw9.heap.size, 0, none⟩),.pointer (some ⟨qw19.heap.size, 0, none⟩),.pointer (some ⟨g, 0, none⟩),.int .i64 r2,.int .u32 r2,.pointer (some ⟨g, 0, none⟩),.int .i64 r3,.int .i64 (1 + r3),.agg #[.int .u32 r2, .int .i64 (1 + r3)],.pointer (some ⟨g, 0, none⟩),.int .i64 r4,.int .u32 r4,.pointer (some ⟨g, 0, none⟩),.int .i64 r5,.int .i64 (1 + r5),.agg #[.int .u32 r4, .int .i64 (1 + r5)],.pointer (some ⟨g, 0, none⟩),.bool b1,U,U,U,U,U,U] ?_
  cases b1
  case true =>
    go_upto_region 4 with (fail)
    refine vR ?_
    refine vV (.pointer (some ⟨g, 0, none⟩)) ?_
    refine vW (qw27.alloc (.cells #[.int .i64 (-1), .int .i64 65536, .int .i64 0, .int .i64 65535] 3)) (.slice (some ⟨qw27.heap.size, 0, none⟩) 4 4) ?_
    have qI30 := ints_alloc qw27 #[.int .i64 (-1), .int .i64 65536, .int .i64 0, .int .i64 65535] 3 [-1, 65536, 0, 65535] rfl
    have qg31 := (Since.refl qw27).alloc (.cells #[.int .i64 (-1), .int .i64 65536, .int .i64 0, .int .i64 65535] 3)
    replace qB2 := qB2.since qg31
    replace qB5 := qB5.since qg31
    replace qB16 := qB16.since qg31
    replace qB26 := qB26.since qg31
    replace HC := HC.since qg31
    replace G := touchS G qg31
    generalize qw27.alloc (.cells #[.int .i64 (-1), .int .i64 65536, .int .i64 0, .int .i64 65535] 3) = qw29 at qB2 qB5 qB16 qB26 HC G qI30 qg31 ⊢
    have qg31_s := qg31.size
    refine vC (dPick _ 4 [-1, 65536, 0, 65535] rfl (by omega) (by omega) _ HC (by omega) qI30) ?_
    rintro _ qw32 ⟨v1, rfl, hv1, HCn, qt33⟩
    refine ⟨_, rfl, ?_⟩
    clear HC
    replace qB2 := qB2.touch qt33 (by omega)
    replace qB5 := qB5.touch qt33 (by omega)
    replace qB16 := qB16.touch qt33 (by omega)
    replace qB26 := qB26.touch qt33 (by omega)
    replace G := G.trans qt33
    have HC := HCn
    clear HCn
    have qt33_s := qt33.size
    clear qI30
    refine vV (.pointer (some ⟨qw19.heap.size, 1, none⟩)) ?_
    refine sC #[.int .u32 r4, .int .i64 v1] qB26 1 (.int .i64 v1) rfl ?_
    intro qw34 qt35 qB36
    clear qB26
    replace qB2 := qB2.touch qt35 (by omega)
    replace qB5 := qB5.touch qt35 (by omega)
    replace qB16 := qB16.touch qt35 (by omega)
    replace HC := HC.touch qt35 (by omega)
    replace G := touchN G qt35 (by omega)
    have qt35_s := qt35.size
    refine vE #[.pointer (some ⟨g, 0, none⟩),U,.pointer (some ⟨w.heap.size, 0, none⟩),.pointer (some ⟨qw1.heap.size, 0, none⟩),.pointer (some ⟨qw9.heap.size, 0, none⟩),.pointer (some ⟨qw19.heap.size, 0, none⟩),.pointer (some ⟨g, 0, none⟩),.int .i64 r2,.int .u32 r2,.pointer (some ⟨g, 0, none⟩),.int .i64 r3,.int .i64 (1 + r3),.agg #[.int .u32 r2, .int .i64 (1 + r3)],.pointer (some ⟨g, 0, none⟩),.int .i64 r4,.int .u32 r4,.pointer (some ⟨g, 0, none⟩),.int .i64 r5,.int .i64 (1 + r5),.agg #[.int .u32 r4, .int .i64 (1 + r5)],.pointer (some ⟨g, 0, none⟩),.bool true,.pointer (some ⟨g, 0, none⟩),.slice (some ⟨qw27.heap.size, 0, none⟩) 4 4,.int .i64 v1,.pointer (some ⟨qw19.heap.size, 1, none⟩),U,U] ?_
    go_upto_region 5 with (fail)
    have hN0 : 0 < qw34.heap.size := by have := qB2.lt; omega
    refine wp_region_low (Low (fun b => b < qw34.heap.size)) (fun i x v => match i with
        | 0 => v = .agg #[.int .u32 r2, .int .i64 (1 + r3)]
        | 1 => v = .agg #[.int .u32 r4, .int .i64 v1]
        | 2 => True
        | 3 => True
        | _ => True) (fun f vals x => Blk w.heap.size x (if f 2 then #[.int .u32 r2, .int .i64 (1 + r3)] else #[.int .u32 0, .int .i64 0]) ∧ Blk qw1.heap.size x (if f 3 then #[.int .u32 r4, .int .i64 v1] else #[.int .u32 0, .int .i64 0]) ∧ Blk qw9.heap.size x #[.int .u32 r2, .int .i64 (1 + r3)] ∧ Blk qw19.heap.size x #[.int .u32 r4, .int .i64 v1] ∧ Crs w0 g a len cap zs x ∧ qw34.heap.size ≤ x.heap.size ∧ Touch g w x) (fun v => { tmps := #[.pointer (some ⟨g, 0, none⟩), undef, .pointer (some ⟨w.heap.size, 0, none⟩), .pointer (some ⟨qw1.heap.size, 0, none⟩), .pointer (some ⟨qw9.heap.size, 0, none⟩), .pointer (some ⟨qw19.heap.size, 0, none⟩), .pointer (some ⟨g, 0, none⟩), .int .i64 r2, .int .u32 r2, .pointer (some ⟨g, 0, none⟩), .int .i64 r3, .int .i64 (1 + r3), .agg #[.int .u32 r2, .int .i64 (1 + r3)], .pointer (some ⟨g, 0, none⟩), .int .i64 r4, .int .u32 r4, .pointer (some ⟨g, 0, none⟩), .int .i64 r5, .int .i64 (1 + r5), .agg #[.int .u32 r4, .int .i64 (1 + r5)], .pointer (some ⟨g, 0, none⟩), .bool true, .pointer (some ⟨g, 0, none⟩), .slice (some ⟨qw27.heap.size, 0, none⟩) 4 4, .int .i64 v1, .pointer (some ⟨qw19.heap.size, 1, none⟩), v 0, v 1], defers := [] }) (by kernel_rfl) (by kernel_rfl) ?_ ?_ (fun vals => by kernel_rfl) ?_ ?_
    case refine_1 =>
      intro j x y v hl hv
      match j, hv with
      | 0, hv | 1, hv => exact hv
      | 2, hv | 3, hv => trivial
      | n + 4, _ => trivial
    case refine_2 =>
      intro f vals hf
      refine ⟨(by rw [hf 2]; exact qB2.since ((Since.refl _).drew)), (by rw [hf 3]; exact qB5.since ((Since.refl _).drew)), qB16.since ((Since.refl _).drew), qB36.since ((Since.refl _).drew), HC.since ((Since.refl _).drew), ((Since.refl _).drew).size, touchS G ((Since.refl _).drew)⟩
    case refine_3 =>
      repeat (first | exact eachLow_nil | refine eachLow_cons ?_ ?_)
      all_goals intro f vals x hf hr hK
      all_goals obtain ⟨k0, k1, k2, k3, k4, k5, k6⟩ := hK
      · have ev : vals 1 = .agg #[.int .u32 r4, .int .i64 v1] := (hr ⟨1, .data⟩ (by simp) rfl).2
        have kz : Blk qw1.heap.size x #[.int .u32 0, .int .i64 0] := by have := k1; rw [hf] at this; exact this
        refine does_store ad_big rfl (Raw.of kz rfl) (by simp [Value.oneCell']) _ _ rfl rfl ev ?_
        intro z t B
        exact ⟨Low.touch t (show qw1.heap.size < qw34.heap.size by omega), ⟨k0.touch t (by omega), B, k2.touch t (by omega), k3.touch t (by omega), k4.touch t (by omega), Nat.le_trans k5 t.size, touchN k6 t (by omega)⟩, trivial⟩
      · have ev : vals 0 = .agg #[.int .u32 r2, .int .i64 (1 + r3)] := (hr ⟨0, .data⟩ (by simp) rfl).2
        have kz : Blk w.heap.size x #[.int .u32 0, .int .i64 0] := by have := k0; rw [hf] at this; exact this
        refine does_store ad_big rfl (Raw.of kz rfl) (by simp [Value.oneCell']) _ _ rfl rfl ev ?_
        intro z t B
        exact ⟨Low.touch t (show w.heap.size < qw34.heap.size by omega), ⟨B, k1.touch t (by omega), k2.touch t (by omega), k3.touch t (by omega), k4.touch t (by omega), Nat.le_trans k5 t.size, touchN k6 t (by omega)⟩, trivial⟩
      · exact does_load ad_big rfl k3 _ rfl rfl ⟨Low.since (b := 0) (Since.refl _) (hN0), ⟨k0, k1, k2, k3, k4, k5, k6⟩, rfl⟩
      · exact does_load ad_big rfl k2 _ rfl rfl ⟨Low.since (b := 0) (Since.refl _) (hN0), ⟨k0, k1, k2, k3, k4, k5, k6⟩, rfl⟩
    intro f qv38 qw37 hK hf hv
    obtain ⟨k0, k1, k2, k3, k4, k5, k6⟩ := hK
    clear qB2 qB5 qB16 qB36 HC G
    have hv0 : qv38 0 = _ := hv 0 (by decide)
    have hv1 : qv38 1 = _ := hv 1 (by decide)
    clear hv
    simp only [hv0, hv1]
    clear hv0 hv1
    have qB2 : Blk w.heap.size qw37 #[.int .u32 r2, .int .i64 (1 + r3)] := by have := k0; rw [hf 2 (by decide)] at this; exact this
    clear k0
    have qB5 : Blk qw1.heap.size qw37 #[.int .u32 r4, .int .i64 v1] := by have := k1; rw [hf 3 (by decide)] at this; exact this
    clear k1
    have qB16 := k2
    clear k2
    have qB36 := k3
    clear k3
    have HC := k4
    clear k4
    have G := k6
    clear k6
    have qw37_l := qB36.lt
    have qw37_n := k5
    clear k5
    go_wp2_with (fail)
    exact bodyPost_ret (results_ad2 (t := 2) (u := 3) rfl _ rfl rfl qB2 qB5) rfl ⟨_, _, _, _, rfl, (by unfold IsPortD; omega), (by simp at hv1; unfold IsPortD; omega), HC, G⟩
  case false =>
    go_upto_region 5 with (fail)
    have hN0 : 0 < qw27.heap.size := by have := qB2.lt; omega
    refine wp_region_low (Low (fun b => b < qw27.heap.size)) (fun i x v => match i with
        | 0 => v = .agg #[.int .u32 r2, .int .i64 (1 + r3)]
        | 1 => v = .agg #[.int .u32 r4, .int .i64 (1 + r5)]
        | 2 => True
        | 3 => True
        | _ => True) (fun f vals x => Blk w.heap.size x (if f 2 then #[.int .u32 r2, .int .i64 (1 + r3)] else #[.int .u32 0, .int .i64 0]) ∧ Blk qw1.heap.size x (if f 3 then #[.int .u32 r4, .int .i64 (1 + r5)] else #[.int .u32 0, .int .i64 0]) ∧ Blk qw9.heap.size x #[.int .u32 r2, .int .i64 (1 + r3)] ∧ Blk qw19.heap.size x #[.int .u32 r4, .int .i64 (1 + r5)] ∧ Crs w0 g a len cap zs x ∧ qw27.heap.size ≤ x.heap.size ∧ Touch g w x) (fun v => { tmps := #[.pointer (some ⟨g, 0, none⟩), undef, .pointer (some ⟨w.heap.size, 0, none⟩), .pointer (some ⟨qw1.heap.size, 0, none⟩), .pointer (some ⟨qw9.heap.size, 0, none⟩), .pointer (some ⟨qw19.heap.size, 0, none⟩), .pointer (some ⟨g, 0, none⟩), .int .i64 r2, .int .u32 r2, .pointer (some ⟨g, 0, none⟩), .int .i64 r3, .int .i64 (1 + r3), .agg #[.int .u32 r2, .int .i64 (1 + r3)], .pointer (some ⟨g, 0, none⟩), .int .i64 r4, .int .u32 r4, .pointer (some ⟨g, 0, none⟩), .int .i64 r5, .int .i64 (1 + r5), .agg #[.int .u32 r4, .int .i64 (1 + r5)], .pointer (some ⟨g, 0, none⟩), .bool false, undef, undef, undef, undef, v 0, v 1], defers := [] }) (by kernel_rfl) (by kernel_rfl) ?_ ?_ (fun vals => by kernel_rfl) ?_ ?_
    case refine_1 =>
      intro j x y v hl hv
      match j, hv with
      | 0, hv | 1, hv => exact hv
      | 2, hv | 3, hv => trivial
      | n + 4, _ => trivial
    case refine_2 =>
      intro f vals hf
      refine ⟨(by rw [hf 2]; exact qB2.since ((Since.refl _).drew)), (by rw [hf 3]; exact qB5.since ((Since.refl _).drew)), qB16.since ((Since.refl _).drew), qB26.since ((Since.refl _).drew), HC.since ((Since.refl _).drew), ((Since.refl _).drew).size, touchS G ((Since.refl _).drew)⟩
    case refine_3 =>
      repeat (first | exact eachLow_nil | refine eachLow_cons ?_ ?_)
      all_goals intro f vals x hf hr hK
      all_goals obtain ⟨k0, k1, k2, k3, k4, k5, k6⟩ := hK
      · have ev : vals 1 = .agg #[.int .u32 r4, .int .i64 (1 + r5)] := (hr ⟨1, .data⟩ (by simp) rfl).2
        have kz : Blk qw1.heap.size x #[.int .u32 0, .int .i64 0] := by have := k1; rw [hf] at this; exact this
        refine does_store ad_big rfl (Raw.of kz rfl) (by simp [Value.oneCell']) _ _ rfl rfl ev ?_
        intro z t B
        exact ⟨Low.touch t (show qw1.heap.size < qw27.heap.size by omega), ⟨k0.touch t (by omega), B, k2.touch t (by omega), k3.touch t (by omega), k4.touch t (by omega), Nat.le_trans k5 t.size, touchN k6 t (by omega)⟩, trivial⟩
      · have ev : vals 0 = .agg #[.int .u32 r2, .int .i64 (1 + r3)] := (hr ⟨0, .data⟩ (by simp) rfl).2
        have kz : Blk w.heap.size x #[.int .u32 0, .int .i64 0] := by have := k0; rw [hf] at this; exact this
        refine does_store ad_big rfl (Raw.of kz rfl) (by simp [Value.oneCell']) _ _ rfl rfl ev ?_
        intro z t B
        exact ⟨Low.touch t (show w.heap.size < qw27.heap.size by omega), ⟨B, k1.touch t (by omega), k2.touch t (by omega), k3.touch t (by omega), k4.touch t (by omega), Nat.le_trans k5 t.size, touchN k6 t (by omega)⟩, trivial⟩
      · exact does_load ad_big rfl k3 _ rfl rfl ⟨Low.since (b := 0) (Since.refl _) (hN0), ⟨k0, k1, k2, k3, k4, k5, k6⟩, rfl⟩
      · exact does_load ad_big rfl k2 _ rfl rfl ⟨Low.since (b := 0) (Since.refl _) (hN0), ⟨k0, k1, k2, k3, k4, k5, k6⟩, rfl⟩
    intro f qv30 qw29 hK hf hv
    obtain ⟨k0, k1, k2, k3, k4, k5, k6⟩ := hK
    clear qB2 qB5 qB16 qB26 HC G
    have hv0 : qv30 0 = _ := hv 0 (by decide)
    have hv1 : qv30 1 = _ := hv 1 (by decide)
    clear hv
    simp only [hv0, hv1]
    clear hv0 hv1
    have qB2 : Blk w.heap.size qw29 #[.int .u32 r2, .int .i64 (1 + r3)] := by have := k0; rw [hf 2 (by decide)] at this; exact this
    clear k0
    have qB5 : Blk qw1.heap.size qw29 #[.int .u32 r4, .int .i64 (1 + r5)] := by have := k1; rw [hf 3 (by decide)] at this; exact this
    clear k1
    have qB16 := k2
    clear k2
    have qB26 := k3
    clear k3
    have HC := k4
    clear k4
    have G := k6
    clear k6
    have qw29_l := qB26.lt
    have qw29_n := k5
    clear k5
    go_wp2_with (fail)
    exact bodyPost_ret (results_ad2 (t := 2) (u := 3) rfl _ rfl rfl qB2 qB5) rfl ⟨_, _, _, _, rfl, (by unfold IsPortD; omega), (by unfold IsPortD; omega), HC, G⟩

theorem results_ck {fn : Func} {t u v x y : Tmp} {b c : Nat} {w : World} {x0 x1 y0 y1 : Value} (h : fn.results = #[.tmp t, .cell u 26, .cell v 26, .tmp x, .tmp y]) (tmps : Array Value) (hp : tmps.getD u undef = .pointer (some ⟨b, 0, none⟩)) (hq : tmps.getD v undef = .pointer (some ⟨c, 0, none⟩)) (B : Blk b w #[x0, x1]) (C : Blk c w #[y0, y1]) : (results fn tmps).run Tryd.prog w = .ok (.tuple #[tmps.getD t undef, .agg #[x0, x1], .agg #[y0, y1], tmps.getD x undef, tmps.getD y undef]) w := by
  have e := var_big ad_big rfl B
  have d := var_big ad_big rfl C
  have hp' : tmps[u]?.getD undef = .pointer (some ⟨b, 0, none⟩) := by simpa using hp
  have hq' : tmps[v]?.getD undef = .pointer (some ⟨c, 0, none⟩) := by simpa using hq
  simp [results, h, hp', hq', asAddr, e, d]

set_option maxRecDepth 20000 in
set_option maxHeartbeats 8000000 in
theorem drawCookie (a : Option Addr) (len cap : Nat) (zs : List Int) (w : World) (hb : Bytes w a len zs) (hm : len ≤ 1048576) :
    Calls Tryd.prog 7 #[.slice a len cap] w fun f w' => ∃ sk h p j q e k : Int, f = .returned (.tuple #[.int .u32 sk, addrVal h p, addrVal j q, .int .i64 e, .int .i64 k]) ∧ IsPortD p ∧ IsPortD q ∧ IsEpochD e ∧ (-1 ≤ k ∧ k ≤ 8) ∧ Since w w' := by
  have G := Since.refl w
  unfold addrVal
  go_enter Tryd.func7, Tryd.ntmps7
  go_upto_region 0 with (fail)
  refine vR ?_
  refine vV (.int .u32 0) ?_
  refine vW (w.alloc (.cells #[.int .u32 0, .int .i64 0] 26)) (.pointer (some ⟨w.heap.size, 0, none⟩)) ?_
  have qB2 := Blk.new w #[.int .u32 0, .int .i64 0] 26
  have qg3 := (Since.refl w).alloc (.cells #[.int .u32 0, .int .i64 0] 26)
  replace G := G.trans qg3
  generalize w.alloc (.cells #[.int .u32 0, .int .i64 0] 26) = qw1 at  G qB2 qg3 ⊢
  have qB2_l := qB2.lt
  have qg3_s := qg3.size
  refine vW (qw1.alloc (.cells #[.int .u32 0, .int .i64 0] 26)) (.pointer (some ⟨qw1.heap.size, 0, none⟩)) ?_
  have qB5 := Blk.new qw1 #[.int .u32 0, .int .i64 0] 26
  have qg6 := (Since.refl qw1).alloc (.cells #[.int .u32 0, .int .i64 0] 26)
  replace qB2 := qB2.since qg6
  replace G := G.trans qg6
  generalize qw1.alloc (.cells #[.int .u32 0, .int .i64 0] 26) = qw4 at qB2 G qB5 qg6 ⊢
  have qB5_l := qB5.lt
  have qg6_s := qg6.size
  refine vV (.int .i64 0) ?_
  refine vV (.int .i64 0) ?_
  refine vE #[.slice a len cap,U,.int .u32 0,.pointer (some ⟨w.heap.size, 0, none⟩),.pointer (some ⟨qw1.heap.size, 0, none⟩),.int .i64 0,.int .i64 0,U,U,U,U,U,U,U,U,U,U,U,U,U,U,U,U,U,U,U,U,U,U,U] ?_
  go_upto_region 1 with (fail)
  refine vR ?_
  refine vV (.slice a len cap) ?_
  refine vC (drawNew a len cap zs w hb hm _ G) ?_
  rintro _ qw7 ⟨g, rfl, hgl, qg8, HCu⟩
  refine ⟨_, rfl, ?_⟩
  replace qB2 := qB2.since qg8
  replace qB5 := qB5.since qg8
  replace G := G.trans qg8
  have qg8_s := qg8.size
  have HC := Crs.of HCu
  clear HCu
  have hg := HC.here
  refine vV (.pointer (some ⟨g, 0, none⟩)) ?_
  refine vE #[.slice a len cap,U,.int .u32 0,.pointer (some ⟨w.heap.size, 0, none⟩),.pointer (some ⟨qw1.heap.size, 0, none⟩),.int .i64 0,.int .i64 0,.pointer (some ⟨g, 0, none⟩),U,U,U,U,.slice a len cap,.pointer (some ⟨g, 0, none⟩),U,U,U,U,U,U,U,U,U,U,U,U,U,U,U,U] ?_
  go_upto_region 2 with (fail)
  refine vR ?_
  refine vV (.pointer (some ⟨g, 0, none⟩)) ?_
  refine vC (dWord _ HC) ?_
  rintro _ qw9 ⟨sk, rfl, hsk, HCn, qt10⟩
  refine ⟨_, rfl, ?_⟩
  clear HC
  replace qB2 := qB2.touch qt10 (by omega)
  replace qB5 := qB5.touch qt10 (by omega)
  replace G := since_touch G qt10 (by omega)
  have HC := HCn
  clear HCn
  have qt10_s := qt10.size
  refine vV (.int .u32 sk) ?_
  refine vE #[.slice a len cap,U,.int .u32 0,.pointer (some ⟨w.heap.size, 0, none⟩),.pointer (some ⟨qw1.heap.size, 0, none⟩),.int .i64 0,.int .i64 0,.pointer (some ⟨g, 0, none⟩),.int .u32 sk,U,U,U,.slice a len cap,.pointer (some ⟨g, 0, none⟩),.pointer (some ⟨g, 0, none⟩),.int .u32 sk,U,U,U,U,U,U,U,U,U,U,U,U,U,U] ?_
  go_upto_region 3 with (fail)
  refine vR ?_
  refine vV (.pointer (some ⟨g, 0, none⟩)) ?_
  refine vC (drawWho _ HC) ?_
  rintro _ qw11 ⟨h, p, j, q, rfl, hp, hq, HCn, qt12⟩
  refine ⟨_, rfl, ?_⟩
  clear HC
  replace qB2 := qB2.touch qt12 (by omega)
  replace qB5 := qB5.touch qt12 (by omega)
  replace G := since_touch G qt12 (by omega)
  have HC := HCn
  clear HCn
  have qt12_s := qt12.size
  refine vV (.tuple #[.agg #[.int .u32 h, .int .i64 p], .agg #[.int .u32 j, .int .i64 q]]) ?_
  refine vV (.agg #[.int .u32 h, .int .i64 p]) ?_
  refine vV (.agg #[.int .u32 j, .int .i64 q]) ?_
  refine vW (qw11.alloc (.cells #[.int .u32 0, .int .i64 0] 26)) (.pointer (some ⟨qw11.heap.size, 0, none⟩)) ?_
  have qB14 := Blk.new qw11 #[.int .u32 0, .int .i64 0] 26
  have qg15 := (Since.refl qw11).alloc (.cells #[.int .u32 0, .int .i64 0] 26)
  replace qB2 := qB2.since qg15
  replace qB5 := qB5.since qg15
  replace HC := HC.since qg15
  replace G := G.trans qg15
  generalize qw11.alloc (.cells #[.int .u32 0, .int .i64 0] 26) = qw13 at qB2 qB5 HC G qB14 qg15 ⊢
  have qB14_l := qB14.lt
  have qg15_s := qg15.size
  refine vW (qw13.alloc (.cells #[.int .u32 0, .int .i64 0] 26)) (.pointer (some ⟨qw13.heap.size, 0, none⟩)) ?_
  have qB17 := Blk.new qw13 #[.int .u32 0, .int .i64 0] 26
  have qg18 := (Since.refl qw13).alloc (.cells #[.int .u32 0, .int .i64 0] 26)
  replace qB2 := qB2.since qg18
  replace qB5 := qB5.since qg18
  replace qB14 := qB14.since qg18
  replace HC := HC.since qg18
  replace G := G.trans qg18
  generalize qw13.alloc (.cells #[.int .u32 0, .int .i64 0] 26) = qw16 at qB2 qB5 qB14 HC G qB17 qg18 ⊢
  have qB17_l := qB17.lt
  have qg18_s := qg18.size
  refine sB #[.int .u32 h, .int .i64 p] ad_big qB14 rfl rfl (by simp [Value.oneCell']) ?_
  intro qw19 qt20 qB21
  clear qB14
  replace qB2 := qB2.touch qt20 (by omega)
  replace qB5 := qB5.touch qt20 (by omega)
  replace qB17 := qB17.touch qt20 (by omega)
  replace HC := HC.touch qt20 (by omega)
  replace G := since_touch G qt20 (by omega)
  have qt20_s := qt20.size
  refine sB #[.int .u32 j, .int .i64 q] ad_big qB17 rfl rfl (by simp [Value.oneCell']) ?_
  intro qw22 qt23 qB24
  clear qB17
  replace qB2 := qB2.touch qt23 (by omega)
  replace qB5 := qB5.touch qt23 (by omega)
  replace qB21 := qB21.touch qt23 (by omega)
  replace HC := HC.touch qt23 (by omega)
  replace G := since_touch G qt23 (by omega)
  have qt23_s := qt23.size
  refine vE #[.slice a len cap,U,.int .u32 0,.pointer (some ⟨w.heap.size, 0, none⟩),.pointer (some ⟨qw1.heap.size, 0, none⟩),.int .i64 0,.int .i64 0,.pointer (some ⟨g, 0, none⟩),.int .u32 sk,.pointer (some ⟨qw11.heap.size, 0, none⟩),.pointer (some ⟨qw13.heap.size, 0, none⟩),U,.slice a len cap,.pointer (some ⟨g, 0, none⟩),.pointer (some ⟨g, 0, none⟩),.int .u32 sk,.tuple #[.agg #[.int .u32 h, .int .i64 p], .agg #[.int .u32 j, .int .i64 q]],.pointer (some ⟨g, 0, none⟩),.tuple #[.agg #[.int .u32 h, .int .i64 p], .agg #[.int .u32 j, .int .i64 q]],.agg #[.int .u32 h, .int .i64 p],.agg #[.int .u32 j, .int .i64 q],U,U,U,U,U,U,U,U,U] ?_
  go_upto_region 4 with (fail)
  refine vR ?_
  refine vV (.pointer (some ⟨g, 0, none⟩)) ?_
  refine vC (drawEpoch _ HC) ?_
  rintro _ qw25 ⟨e, rfl, he, HCn, qt26⟩
  refine ⟨_, rfl, ?_⟩
  clear HC
  replace qB2 := qB2.touch qt26 (by omega)
  replace qB5 := qB5.touch qt26 (by omega)
  replace qB21 := qB21.touch qt26 (by omega)
  replace qB24 := qB24.touch qt26 (by omega)
  replace G := since_touch G qt26 (by omega)
  have HC := HCn
  clear HCn
  have qt26_s := qt26.size
  refine vV (.int .i64 e) ?_
  refine vE #[.slice a len cap,U,.int .u32 0,.pointer (some ⟨w.heap.size, 0, none⟩),.pointer (some ⟨qw1.heap.size, 0, none⟩),.int .i64 0,.int .i64 0,.pointer (some ⟨g, 0, none⟩),.int .u32 sk,.pointer (some ⟨qw11.heap.size, 0, none⟩),.pointer (some ⟨qw13.heap.size, 0, none⟩),.int .i64 e,.slice a len cap,.pointer (some ⟨g, 0, none⟩),.pointer (some ⟨g, 0, none⟩),.int .u32 sk,.tuple #[.agg #[.int .u32 h, .int .i64 p], .agg #[.int .u32 j, .int .i64 q]],.pointer (some ⟨g, 0, none⟩),.tuple #[.agg #[.int .u32 h, .int .i64 p], .agg #[.int .u32 j, .int .i64 q]],.agg #[.int .u32 h, .int .i64 p],.agg #[.int .u32 j, .int .i64 q],.pointer (some ⟨g, 0, none⟩),.int .i64 e,U,U,U,U,U,U,U] ?_
  go_upto_region 5 with (fail)
  refine wp_region_low (fun x y => x.heap.size ≤ y.heap.size) (fun i x v => match i with
      | 0 => v = .int .u32 sk
      | 1 => v = .agg #[.int .u32 h, .int .i64 p]
      | 2 => v = .agg #[.int .u32 j, .int .i64 q]
      | 3 => v = .int .i64 e
      | 4 => v = .pointer (some ⟨g, 0, none⟩)
      | 7 => v = .int .u32 sk
      | 10 => v = .int .i64 e
      | 5 => ∃ r : Int, v = .int .i64 r ∧ 0 ≤ r ∧ r < 10
      | 6 | 11 => ∃ k : Int, v = .int .i64 k ∧ -1 ≤ k ∧ k ≤ 8
      | _ => True) (fun f vals x => Blk qw11.heap.size x #[.int .u32 h, .int .i64 p] ∧ Blk qw13.heap.size x #[.int .u32 j, .int .i64 q] ∧ Blk w.heap.size x (if f 8 then #[.int .u32 h, .int .i64 p] else #[.int .u32 0, .int .i64 0]) ∧ Blk qw1.heap.size x (if f 9 then #[.int .u32 j, .int .i64 q] else #[.int .u32 0, .int .i64 0]) ∧ Crs w g a len cap zs x ∧ qw25.heap.size ≤ x.heap.size ∧ Since w x) (fun v => { tmps := #[.slice a len cap, undef, v 7, .pointer (some ⟨w.heap.size, 0, none⟩), .pointer (some ⟨qw1.heap.size, 0, none⟩), v 10, v 11, .pointer (some ⟨g, 0, none⟩), .int .u32 sk, .pointer (some ⟨qw11.heap.size, 0, none⟩), .pointer (some ⟨qw13.heap.size, 0, none⟩), .int .i64 e, .slice a len cap, .pointer (some ⟨g, 0, none⟩), .pointer (some ⟨g, 0, none⟩), .int .u32 sk, .tuple #[.agg #[.int .u32 h, .int .i64 p], .agg #[.int .u32 j, .int .i64 q]], .pointer (some ⟨g, 0, none⟩), .tuple #[.agg #[.int .u32 h, .int .i64 p], .agg #[.int .u32 j, .int .i64 q]], .agg #[.int .u32 h, .int .i64 p], .agg #[.int .u32 j, .int .i64 q], .pointer (some ⟨g, 0, none⟩), .int .i64 e, v 0, v 1, v 2, v 3, v 4, v 5, v 6], defers := [] }) (by kernel_rfl) (by kernel_rfl) ?_ ?_ (fun vals => by kernel_rfl) ?_ ?_
  case refine_1 =>
    intro j x y v hl hv
    match j, hv with
    | 0, hv | 1, hv | 2, hv | 3, hv | 4, hv | 5, hv | 6, hv | 7, hv | 10, hv | 11, hv => exact hv
    | 8, hv | 9, hv => trivial
    | n + 12, _ => trivial
  case refine_2 =>
    intro f vals hf
    refine ⟨qB21.since ((Since.refl _).drew), qB24.since ((Since.refl _).drew), by rw [hf]; exact qB2.since ((Since.refl _).drew), by rw [hf]; exact qB5.since ((Since.refl _).drew), HC.since ((Since.refl _).drew), ((Since.refl _).drew).size, G.trans ((Since.refl _).drew)⟩
  case refine_3 =>
    repeat (first | exact eachLow_nil | refine eachLow_cons ?_ ?_)
    all_goals intro f vals x hf hr hK
    all_goals obtain ⟨k0, k1, k2, k3, k4, k5, k6⟩ := hK
    · skip
      obtain ⟨-, k, ek, h0, h1⟩ := hr ⟨6, .data⟩ (by simp) rfl
      exact does_valT (.int .i64 k) x (by simp only [ek]; kernel_rfl) ⟨Nat.le_refl _, ⟨k0, k1, k2, k3, k4, k5, k6⟩, k, rfl, h0, h1⟩
    · skip
      have e3 : vals 3 = .int .i64 e := (hr ⟨3, .data⟩ (by simp) rfl).2
      exact does_valT (.int .i64 e) x (by simp only [e3]; kernel_rfl) ⟨Nat.le_refl _, ⟨k0, k1, k2, k3, k4, k5, k6⟩, rfl⟩
    · skip
      have e2 : vals 2 = .agg #[.int .u32 j, .int .i64 q] := (hr ⟨2, .data⟩ (by simp) rfl).2
      rw [hf] at k3
      refine does_store ad_big rfl (Raw.of k3 rfl) (by simp [Value.oneCell']) _ _ rfl rfl e2 ?_
      intro z t B
      exact ⟨t.size, ⟨k0.touch t (by omega), k1.touch t (by omega), k2.touch t (by omega), B, k4.touch t (by omega), Nat.le_trans k5 t.size, since_touch k6 t (by omega)⟩, trivial⟩
    · skip
      have e1 : vals 1 = .agg #[.int .u32 h, .int .i64 p] := (hr ⟨1, .data⟩ (by simp) rfl).2
      rw [hf] at k2
      refine does_store ad_big rfl (Raw.of k2 rfl) (by simp [Value.oneCell']) _ _ rfl rfl e1 ?_
      intro z t B
      exact ⟨t.size, ⟨k0.touch t (by omega), k1.touch t (by omega), B, k3.touch t (by omega), k4.touch t (by omega), Nat.le_trans k5 t.size, since_touch k6 t (by omega)⟩, trivial⟩
    · skip
      have e0 : vals 0 = .int .u32 sk := (hr ⟨0, .data⟩ (by simp) rfl).2
      exact does_valT (.int .u32 sk) x (by simp only [e0]; kernel_rfl) ⟨Nat.le_refl _, ⟨k0, k1, k2, k3, k4, k5, k6⟩, rfl⟩
    · skip
      obtain ⟨-, r, er, h0, h1⟩ := hr ⟨5, .data⟩ (by simp) rfl
      have hw : IntKind.i64.wrap (r - 1) = r - 1 := by
        rw [IntWalk.i64_left]
        exact IntWalk.wrap64_in _ ⟨by omega, by omega⟩
      exact does_valT (.int .i64 (r - 1)) x (by simp only [er]; rw [← hw]; kernel_rfl) ⟨Nat.le_refl _, ⟨k0, k1, k2, k3, k4, k5, k6⟩, r - 1, rfl, by omega, by omega⟩
    · skip
      have e4 : vals 4 = .pointer (some ⟨g, 0, none⟩) := (hr ⟨4, .data⟩ (by simp) rfl).2
      simp [does, doesUpon, go_sem, e4]
      refine (dBelow 10 (by omega) _ k4).mono ?_
      rintro _ x' ⟨r, rfl, h, HC', t⟩
      exact ⟨_, rfl, t.size, ⟨k0.touch t (by omega), k1.touch t (by omega), k2.touch t (by omega), k3.touch t (by omega), HC', Nat.le_trans k5 t.size, since_touch k6 t (by omega)⟩, r, rfl, h.1, h.2⟩
    · skip
      exact does_valT (.pointer (some ⟨g, 0, none⟩)) x (by kernel_rfl) ⟨Nat.le_refl _, ⟨k0, k1, k2, k3, k4, k5, k6⟩, rfl⟩
    · skip
      exact does_valT (.int .i64 e) x (by kernel_rfl) ⟨Nat.le_refl _, ⟨k0, k1, k2, k3, k4, k5, k6⟩, rfl⟩
    · skip
      exact does_load ad_big rfl k1 _ rfl rfl ⟨Nat.le_refl _, ⟨k0, k1, k2, k3, k4, k5, k6⟩, rfl⟩
    · skip
      exact does_load ad_big rfl k0 _ rfl rfl ⟨Nat.le_refl _, ⟨k0, k1, k2, k3, k4, k5, k6⟩, rfl⟩
    · skip
      exact does_valT (.int .u32 sk) x (by kernel_rfl) ⟨Nat.le_refl _, ⟨k0, k1, k2, k3, k4, k5, k6⟩, rfl⟩
  intro f vals y hK hf hv
  obtain ⟨k0, k1, k2, k3, k4, k5, k6⟩ := hK
  rw [hf 8 (by decide)] at k2
  rw [hf 9 (by decide)] at k3
  have hv0 : vals 0 = _ := hv 0 (by decide)
  have hv1 : vals 1 = _ := hv 1 (by decide)
  have hv2 : vals 2 = _ := hv 2 (by decide)
  have hv3 : vals 3 = _ := hv 3 (by decide)
  have hv4 : vals 4 = _ := hv 4 (by decide)
  have hv7 : vals 7 = _ := hv 7 (by decide)
  have hv10 : vals 10 = _ := hv 10 (by decide)
  obtain ⟨r, hv5, -⟩ := hv 5 (by decide)
  obtain ⟨k6v, hv6, -⟩ := hv 6 (by decide)
  obtain ⟨k, hv11, hk0, hk1⟩ := hv 11 (by decide)
  clear hv hf
  simp only [hv0, hv1, hv2, hv3, hv4, hv5, hv6, hv7, hv10, hv11]
  go_wp2_with (fail)
  exact bodyPost_ret (results_ck (t := 2) (u := 3) (v := 4) (x := 5) (y := 6) rfl _ rfl rfl k2 k3) rfl ⟨_, _, _, _, _, _, _, rfl, hp, hq, he, ⟨hk0, hk1⟩, k6⟩
end Go.Proofs.YtjilpicpfddbfaaDoor
