/-
  The walk of FnCookie.
-/
import Derived.Test.YtjilpicpfddbfaaDoorFck15
import Derived.Test.YtjilpicpfddbfaaDoorDck15
import Derived.Deep.DeepCutAuto
namespace Go.Proofs.YtjilpicpfddbfaaDoor
open Go.ChangeShapes Go.WideShapes Go.ChangeAt Go.RowKit Go.Deep
set_option linter.unusedVariables false
set_option maxRecDepth 10000

theorem big_ (a : Option Addr) (len cap : Nat) (w : World) :
    Calls Tryd.prog 6 #[.slice a len cap] w fun e w' => e = .returned (.bool (decide ((1048576 : Int) < (len : Int)))) ∧ w = w' := by
  go_enter Tryd.func6, Tryd.ntmps6
  go_wp2
  go_ret
  exact ⟨rfl, rfl⟩

theorem bytes_later {w x : World} {a : Option Addr} {len : Nat} {zs : List Int} (hb : Bytes w a len zs) (g : Since w x) : Bytes x a len zs := by
  rcases hb with h0 | ⟨b, off, e, hl, hz⟩
  · exact .inl h0
  · exact .inr ⟨b, off, e, hl, fun i hi => ⟨cell_later g (hz i hi).1, (hz i hi).2⟩⟩

theorem at_range (a : Option Addr) (len : Nat) (zs : List Int) (k : Nat) (w : World) (hb : Bytes w a len zs) : 0 ≤ (if k < len then zs.getD k 0 else ((k : Int) * 7 + len) % 256) ∧ (if k < len then zs.getD k 0 else ((k : Int) * 7 + len) % 256) ≤ 255 := by
  split
  · rename_i h
    rcases hb with h0 | ⟨b, off, e, hl, hz⟩
    · omega
    · exact (hz k h).2
  · omega

set_option maxRecDepth 20000 in
set_option maxHeartbeats 16000000 in
theorem walkCookie (a : Option Addr) (len cap : Nat) (zs : List Int) (w : World) (hb : Bytes w a len zs) (E : LaidM w) :
    Calls Tryd.prog 3 #[.slice a len cap] w fun e w' => e = .returned (.bool true) ∧ Below w.heap.size w w' := by
  have hbg := fun wx => big_ a len cap wx
  have hE := E.lt
  have G := Since.refl w
  go_enter Tryd.func3, Tryd.ntmps3
  go_upto_region 0 with (fail)
  refine vR ?_
  refine vV (.bool false) ?_
  refine vE #[.slice a len cap,U,.bool false,U,U,U,U,U,U,U,U,U,U,U,U,U,U,U,U,U,U,U,U,U,U,U,U,U,U,U,U,U,U,U,U,U,U,U,U,U,U,U,U,U,U,U,U,U,U,U,U,U,U,U,U,U,U,U,U,U,U,U,U,U,U,U,U,U,U,U,U,U,U,U,U,U,U,U,U,U,U,U,U,U,U,U,U,U,U,U,U,U,U,U,U,U,U,U,U,U,U,U,U,U,U,U,U,U,U,U,U,U,U,U,U,U,U,U,U,U,U,U,U,U,U,U,U,U,U,U,U,U,U,U,U,U,U,U,U,U,U,U,U,U,U,U,U,U,U,U,U,U,U,U,U,U,U,U,U,U,U,U,U,U,U,U,U,U,U] ?_
  go_upto_region 1 with (fail)
  by_cases hbig : (1048576 : Int) < (len : Int)
  case pos =>
    rw [decide_eq_true hbig] at hbg
    refine vR ?_
    refine vV (.slice a len cap) ?_
    refine vC (hbg _) ?_
    rintro _ _ ⟨rfl, rfl⟩
    refine ⟨_, rfl, ?_⟩
    refine vE #[.slice a len cap,U,.bool false,U,U,U,U,U,U,U,U,U,U,U,U,U,U,U,U,U,.slice a len cap,.bool true,U,U,U,U,U,U,U,U,U,U,U,U,U,U,U,U,U,U,U,U,U,U,U,U,U,U,U,U,U,U,U,U,U,U,U,U,U,U,U,U,U,U,U,U,U,U,U,U,U,U,U,U,U,U,U,U,U,U,U,U,U,U,U,U,U,U,U,U,U,U,U,U,U,U,U,U,U,U,U,U,U,U,U,U,U,U,U,U,U,U,U,U,U,U,U,U,U,U,U,U,U,U,U,U,U,U,U,U,U,U,U,U,U,U,U,U,U,U,U,U,U,U,U,U,U,U,U,U,U,U,U,U,U,U,U,U,U,U,U,U,U,U,U,U,U,U,U] ?_
    go_wp2_with (fail)
    go_ret
    exact ⟨rfl, G⟩
  case neg =>
    rw [decide_eq_false hbig] at hbg
    have hm : len ≤ 1048576 := by omega
    refine vR ?_
    refine vV (.slice a len cap) ?_
    refine vC (hbg _) ?_
    rintro _ _ ⟨rfl, rfl⟩
    refine ⟨_, rfl, ?_⟩
    refine vE #[.slice a len cap,U,.bool false,U,U,U,U,U,U,U,U,U,U,U,U,U,U,U,U,U,.slice a len cap,.bool false,U,U,U,U,U,U,U,U,U,U,U,U,U,U,U,U,U,U,U,U,U,U,U,U,U,U,U,U,U,U,U,U,U,U,U,U,U,U,U,U,U,U,U,U,U,U,U,U,U,U,U,U,U,U,U,U,U,U,U,U,U,U,U,U,U,U,U,U,U,U,U,U,U,U,U,U,U,U,U,U,U,U,U,U,U,U,U,U,U,U,U,U,U,U,U,U,U,U,U,U,U,U,U,U,U,U,U,U,U,U,U,U,U,U,U,U,U,U,U,U,U,U,U,U,U,U,U,U,U,U,U,U,U,U,U,U,U,U,U,U,U,U,U,U,U,U,U] ?_
    go_upto_region 3 with (fail)
    refine vR ?_
    refine vV (.slice a len cap) ?_
    refine vC ((drawCookie a len cap zs _ (bytes_later hb G) hm)) ?_
    rintro _ qw1 ⟨sk, h, p, j, q, e, k, rfl, hp, hq, he, hk, qg2⟩
    refine ⟨_, rfl, ?_⟩
    replace E := E.since qg2
    replace G := G.trans qg2
    have qg2_s := qg2.size
    unfold IsPortD at hp hq
    unfold IsEpochD at he
    refine vV (.tuple #[.int .u32 sk, .agg #[.int .u32 h, .int .i64 p], .agg #[.int .u32 j, .int .i64 q], .int .i64 e, .int .i64 k]) ?_
    refine vV (.int .u32 sk) ?_
    refine vV (.agg #[.int .u32 h, .int .i64 p]) ?_
    refine vV (.agg #[.int .u32 j, .int .i64 q]) ?_
    refine vV (.int .i64 e) ?_
    refine vV (.int .i64 k) ?_
    refine vW (qw1.alloc (.cells #[.int .u32 0, .int .i64 0] 26)) (.pointer (some ⟨qw1.heap.size, 0, none⟩)) ?_
    have qB4 := Blk.new qw1 #[.int .u32 0, .int .i64 0] 26
    have qg5 := (Since.refl qw1).alloc (.cells #[.int .u32 0, .int .i64 0] 26)
    replace E := E.since qg5
    replace G := G.trans qg5
    generalize qw1.alloc (.cells #[.int .u32 0, .int .i64 0] 26) = qw3 at E G qB4 qg5 ⊢
    have qB4_l := qB4.lt
    have qg5_s := qg5.size
    refine vW (qw3.alloc (.cells #[.int .u32 0, .int .i64 0] 26)) (.pointer (some ⟨qw3.heap.size, 0, none⟩)) ?_
    have qB7 := Blk.new qw3 #[.int .u32 0, .int .i64 0] 26
    have qg8 := (Since.refl qw3).alloc (.cells #[.int .u32 0, .int .i64 0] 26)
    replace qB4 := qB4.since qg8
    replace E := E.since qg8
    replace G := G.trans qg8
    generalize qw3.alloc (.cells #[.int .u32 0, .int .i64 0] 26) = qw6 at qB4 E G qB7 qg8 ⊢
    have qB7_l := qB7.lt
    have qg8_s := qg8.size
    refine vV (.int .u32 sk) ?_
    refine sB #[.int .u32 h, .int .i64 p] ad_big qB4 rfl rfl (by simp [Value.oneCell']) ?_
    intro qw9 qt10 qB11
    clear qB4
    replace qB7 := qB7.touch qt10 (by omega)
    replace E := E.touch qt10 (by omega)
    replace G := since_touch G qt10 (by omega)
    have qt10_s := qt10.size
    refine sB #[.int .u32 j, .int .i64 q] ad_big qB7 rfl rfl (by simp [Value.oneCell']) ?_
    intro qw12 qt13 qB14
    clear qB7
    replace qB11 := qB11.touch qt13 (by omega)
    replace E := E.touch qt13 (by omega)
    replace G := since_touch G qt13 (by omega)
    have qt13_s := qt13.size
    refine vV (.int .i64 e) ?_
    refine vV (.int .i64 k) ?_
    refine vE #[.slice a len cap,U,.bool false,.int .u32 sk,.pointer (some ⟨qw1.heap.size, 0, none⟩),.pointer (some ⟨qw3.heap.size, 0, none⟩),.int .i64 e,.int .i64 k,U,U,U,U,U,U,U,U,U,U,U,U,.slice a len cap,.bool false,.tuple #[.int .u32 sk, .agg #[.int .u32 h, .int .i64 p], .agg #[.int .u32 j, .int .i64 q], .int .i64 e, .int .i64 k],.slice a len cap,.tuple #[.int .u32 sk, .agg #[.int .u32 h, .int .i64 p], .agg #[.int .u32 j, .int .i64 q], .int .i64 e, .int .i64 k],.int .u32 sk,.agg #[.int .u32 h, .int .i64 p],.agg #[.int .u32 j, .int .i64 q],.int .i64 e,.int .i64 k,U,U,U,U,U,U,U,U,U,U,U,U,U,U,U,U,U,U,U,U,U,U,U,U,U,U,U,U,U,U,U,U,U,U,U,U,U,U,U,U,U,U,U,U,U,U,U,U,U,U,U,U,U,U,U,U,U,U,U,U,U,U,U,U,U,U,U,U,U,U,U,U,U,U,U,U,U,U,U,U,U,U,U,U,U,U,U,U,U,U,U,U,U,U,U,U,U,U,U,U,U,U,U,U,U,U,U,U,U,U,U,U,U,U,U,U,U,U,U,U,U,U,U,U,U,U,U,U,U,U,U,U,U,U,U,U,U,U,U] ?_
    go_upto_region 4 with (fail)
    refine vR ?_
    refine vV (.int .u32 sk) ?_
    refine vB ad_big qB11 rfl ?_
    refine vB ad_big qB14 rfl ?_
    refine vV (.int .i64 e) ?_
    refine vV (.int .i64 k) ?_
    refine vK (implCookie sk h p j q e k _) ?_
    intro qw15 qg16
    replace qB11 := qB11.since qg16
    replace qB14 := qB14.since qg16
    replace E := E.since qg16
    replace G := G.trans qg16
    have qg16_s := qg16.size
    refine vV (.int .u32 (ckOf sk h p j q e k)) ?_
    refine vE #[.slice a len cap,U,.bool false,.int .u32 sk,.pointer (some ⟨qw1.heap.size, 0, none⟩),.pointer (some ⟨qw3.heap.size, 0, none⟩),.int .i64 e,.int .i64 k,.int .u32 (ckOf sk h p j q e k),U,U,U,U,U,U,U,U,U,U,U,.slice a len cap,.bool false,.tuple #[.int .u32 sk, .agg #[.int .u32 h, .int .i64 p], .agg #[.int .u32 j, .int .i64 q], .int .i64 e, .int .i64 k],.slice a len cap,.tuple #[.int .u32 sk, .agg #[.int .u32 h, .int .i64 p], .agg #[.int .u32 j, .int .i64 q], .int .i64 e, .int .i64 k],.int .u32 sk,.agg #[.int .u32 h, .int .i64 p],.agg #[.int .u32 j, .int .i64 q],.int .i64 e,.int .i64 k,.int .u32 sk,.agg #[.int .u32 h, .int .i64 p],.agg #[.int .u32 j, .int .i64 q],.int .i64 e,.int .i64 k,.int .u32 (ckOf sk h p j q e k),U,U,U,U,U,U,U,U,U,U,U,U,U,U,U,U,U,U,U,U,U,U,U,U,U,U,U,U,U,U,U,U,U,U,U,U,U,U,U,U,U,U,U,U,U,U,U,U,U,U,U,U,U,U,U,U,U,U,U,U,U,U,U,U,U,U,U,U,U,U,U,U,U,U,U,U,U,U,U,U,U,U,U,U,U,U,U,U,U,U,U,U,U,U,U,U,U,U,U,U,U,U,U,U,U,U,U,U,U,U,U,U,U,U,U,U,U,U,U,U,U,U,U,U,U,U,U,U,U,U,U,U,U] ?_
    obtain ⟨c, hc⟩ : ∃ c, Hid (c = ckOf sk h p j q e k) := ⟨_, rfl⟩
    have hsc := fun wx => specCookie sk h p j q e k wx
    rw [← hc.out] at hsc ⊢
    go_upto_region 5 with (fail)
    refine vR ?_
    refine vV (.int .u32 c) ?_
    refine vV (.int .u32 sk) ?_
    refine vB ad_big qB11 rfl ?_
    refine vB ad_big qB14 rfl ?_
    refine vV (.int .i64 e) ?_
    refine vV (.int .i64 k) ?_
    refine vK (hsc _) ?_
    intro qw17 qg18
    replace qB11 := qB11.since qg18
    replace qB14 := qB14.since qg18
    replace E := E.since qg18
    replace G := G.trans qg18
    have qg18_s := qg18.size
    refine vV (.bool false) ?_ (hrun := by simp [execOp, go_sem])
    refine vE #[.slice a len cap,U,.bool false,.int .u32 sk,.pointer (some ⟨qw1.heap.size, 0, none⟩),.pointer (some ⟨qw3.heap.size, 0, none⟩),.int .i64 e,.int .i64 k,.int .u32 c,U,U,U,U,U,U,U,U,U,U,U,.slice a len cap,.bool false,.tuple #[.int .u32 sk, .agg #[.int .u32 h, .int .i64 p], .agg #[.int .u32 j, .int .i64 q], .int .i64 e, .int .i64 k],.slice a len cap,.tuple #[.int .u32 sk, .agg #[.int .u32 h, .int .i64 p], .agg #[.int .u32 j, .int .i64 q], .int .i64 e, .int .i64 k],.int .u32 sk,.agg #[.int .u32 h, .int .i64 p],.agg #[.int .u32 j, .int .i64 q],.int .i64 e,.int .i64 k,.int .u32 sk,.agg #[.int .u32 h, .int .i64 p],.agg #[.int .u32 j, .int .i64 q],.int .i64 e,.int .i64 k,.int .u32 c,.int .u32 c,.int .u32 sk,.agg #[.int .u32 h, .int .i64 p],.agg #[.int .u32 j, .int .i64 q],.int .i64 e,.int .i64 k,.int .u32 c,.bool false,U,U,U,U,U,U,U,U,U,U,U,U,U,U,U,U,U,U,U,U,U,U,U,U,U,U,U,U,U,U,U,U,U,U,U,U,U,U,U,U,U,U,U,U,U,U,U,U,U,U,U,U,U,U,U,U,U,U,U,U,U,U,U,U,U,U,U,U,U,U,U,U,U,U,U,U,U,U,U,U,U,U,U,U,U,U,U,U,U,U,U,U,U,U,U,U,U,U,U,U,U,U,U,U,U,U,U,U,U,U,U,U,U,U,U,U,U,U,U,U,U,U,U,U,U] ?_
    go_upto_region 7 with (fail)
    by_cases b0 : e < 0
    case pos =>
      refine vR ?_
      refine vV (.int .i64 e) ?_
      refine vV (.bool true) ?_ (hrun := by simp [execOp, go_sem]; omega)
      refine vV (.bool true) ?_
      refine vS ?_
      refine vS ?_
      refine vV (.bool true) ?_
      refine vV (.bool true) ?_
      refine vS ?_
      refine vS ?_
      refine vV (.bool true) ?_
      refine vV (.bool true) ?_
      refine vS ?_
      refine vS ?_
      refine vV (.bool true) ?_
      refine vV (.bool true) ?_
      refine vS ?_
      refine vS ?_
      refine vS ?_
      refine vV (.bool true) ?_
      refine vV (.bool true) ?_
      refine vS ?_
      refine vS ?_
      refine vS ?_
      refine vV (.bool true) ?_
      refine vV (.bool true) ?_
      refine vS ?_
      refine vS ?_
      refine vS ?_
      refine vV (.bool true) ?_
      refine vV (.bool true) ?_
      refine vS ?_
      refine vS ?_
      refine vS ?_
      refine vV (.bool true) ?_
      refine vE #[.slice a len cap,U,.bool false,.int .u32 sk,.pointer (some ⟨qw1.heap.size, 0, none⟩),.pointer (some ⟨qw3.heap.size, 0, none⟩),.int .i64 e,.int .i64 k,.int .u32 c,U,U,U,U,U,U,U,U,U,U,U,.slice a len cap,.bool false,.tuple #[.int .u32 sk, .agg #[.int .u32 h, .int .i64 p], .agg #[.int .u32 j, .int .i64 q], .int .i64 e, .int .i64 k],.slice a len cap,.tuple #[.int .u32 sk, .agg #[.int .u32 h, .int .i64 p], .agg #[.int .u32 j, .int .i64 q], .int .i64 e, .int .i64 k],.int .u32 sk,.agg #[.int .u32 h, .int .i64 p],.agg #[.int .u32 j, .int .i64 q],.int .i64 e,.int .i64 k,.int .u32 sk,.agg #[.int .u32 h, .int .i64 p],.agg #[.int .u32 j, .int .i64 q],.int .i64 e,.int .i64 k,.int .u32 c,.int .u32 c,.int .u32 sk,.agg #[.int .u32 h, .int .i64 p],.agg #[.int .u32 j, .int .i64 q],.int .i64 e,.int .i64 k,.int .u32 c,.bool false,.int .i64 e,.bool true,.bool true,U,U,.bool true,.bool true,U,U,.bool true,.bool true,U,U,.bool true,.bool true,U,U,U,.bool true,.bool true,U,U,U,.bool true,.bool true,U,U,U,.bool true,.bool true,U,U,U,.bool true,U,U,U,U,U,U,U,U,U,U,U,U,U,U,U,U,U,U,U,U,U,U,U,U,U,U,U,U,U,U,U,U,U,U,U,U,U,U,U,U,U,U,U,U,U,U,U,U,U,U,U,U,U,U,U,U,U,U,U,U,U,U,U,U,U,U,U,U,U,U,U,U,U,U,U,U,U,U,U,U,U,U,U,U,U,U,U,U,U,U,U] ?_
      go_wp2_with (fail)
      go_ret
      exact ⟨rfl, G⟩
    by_cases b1 : 1000000000 ≤ e
    case pos =>
      refine vR ?_
      refine vV (.int .i64 e) ?_
      refine vV (.bool false) ?_ (hrun := by simp [execOp, go_sem]; omega)
      refine vV (.bool false) ?_
      refine vV (.int .i64 e) ?_
      refine vV (.bool true) ?_ (hrun := by simp [execOp, go_sem]; omega)
      refine vV (.bool true) ?_
      refine vV (.bool true) ?_
      refine vS ?_
      refine vS ?_
      refine vV (.bool true) ?_
      refine vV (.bool true) ?_
      refine vS ?_
      refine vS ?_
      refine vV (.bool true) ?_
      refine vV (.bool true) ?_
      refine vS ?_
      refine vS ?_
      refine vS ?_
      refine vV (.bool true) ?_
      refine vV (.bool true) ?_
      refine vS ?_
      refine vS ?_
      refine vS ?_
      refine vV (.bool true) ?_
      refine vV (.bool true) ?_
      refine vS ?_
      refine vS ?_
      refine vS ?_
      refine vV (.bool true) ?_
      refine vV (.bool true) ?_
      refine vS ?_
      refine vS ?_
      refine vS ?_
      refine vV (.bool true) ?_
      refine vE #[.slice a len cap,U,.bool false,.int .u32 sk,.pointer (some ⟨qw1.heap.size, 0, none⟩),.pointer (some ⟨qw3.heap.size, 0, none⟩),.int .i64 e,.int .i64 k,.int .u32 c,U,U,U,U,U,U,U,U,U,U,U,.slice a len cap,.bool false,.tuple #[.int .u32 sk, .agg #[.int .u32 h, .int .i64 p], .agg #[.int .u32 j, .int .i64 q], .int .i64 e, .int .i64 k],.slice a len cap,.tuple #[.int .u32 sk, .agg #[.int .u32 h, .int .i64 p], .agg #[.int .u32 j, .int .i64 q], .int .i64 e, .int .i64 k],.int .u32 sk,.agg #[.int .u32 h, .int .i64 p],.agg #[.int .u32 j, .int .i64 q],.int .i64 e,.int .i64 k,.int .u32 sk,.agg #[.int .u32 h, .int .i64 p],.agg #[.int .u32 j, .int .i64 q],.int .i64 e,.int .i64 k,.int .u32 c,.int .u32 c,.int .u32 sk,.agg #[.int .u32 h, .int .i64 p],.agg #[.int .u32 j, .int .i64 q],.int .i64 e,.int .i64 k,.int .u32 c,.bool false,.int .i64 e,.bool false,.bool false,.int .i64 e,.bool true,.bool true,.bool true,U,U,.bool true,.bool true,U,U,.bool true,.bool true,U,U,U,.bool true,.bool true,U,U,U,.bool true,.bool true,U,U,U,.bool true,.bool true,U,U,U,.bool true,U,U,U,U,U,U,U,U,U,U,U,U,U,U,U,U,U,U,U,U,U,U,U,U,U,U,U,U,U,U,U,U,U,U,U,U,U,U,U,U,U,U,U,U,U,U,U,U,U,U,U,U,U,U,U,U,U,U,U,U,U,U,U,U,U,U,U,U,U,U,U,U,U,U,U,U,U,U,U,U,U,U,U,U,U,U,U,U,U,U,U] ?_
      go_wp2_with (fail)
      go_ret
      exact ⟨rfl, G⟩
    by_cases b2 : k < 0
    case pos =>
      refine vR ?_
      refine vV (.int .i64 e) ?_
      refine vV (.bool false) ?_ (hrun := by simp [execOp, go_sem]; omega)
      refine vV (.bool false) ?_
      refine vV (.int .i64 e) ?_
      refine vV (.bool false) ?_ (hrun := by simp [execOp, go_sem]; omega)
      refine vV (.bool false) ?_
      refine vV (.bool false) ?_
      refine vV (.int .i64 k) ?_
      refine vV (.bool true) ?_ (hrun := by simp [execOp, go_sem]; omega)
      refine vV (.bool true) ?_
      refine vV (.bool true) ?_
      refine vS ?_
      refine vS ?_
      refine vV (.bool true) ?_
      refine vV (.bool true) ?_
      refine vS ?_
      refine vS ?_
      refine vS ?_
      refine vV (.bool true) ?_
      refine vV (.bool true) ?_
      refine vS ?_
      refine vS ?_
      refine vS ?_
      refine vV (.bool true) ?_
      refine vV (.bool true) ?_
      refine vS ?_
      refine vS ?_
      refine vS ?_
      refine vV (.bool true) ?_
      refine vV (.bool true) ?_
      refine vS ?_
      refine vS ?_
      refine vS ?_
      refine vV (.bool true) ?_
      refine vE #[.slice a len cap,U,.bool false,.int .u32 sk,.pointer (some ⟨qw1.heap.size, 0, none⟩),.pointer (some ⟨qw3.heap.size, 0, none⟩),.int .i64 e,.int .i64 k,.int .u32 c,U,U,U,U,U,U,U,U,U,U,U,.slice a len cap,.bool false,.tuple #[.int .u32 sk, .agg #[.int .u32 h, .int .i64 p], .agg #[.int .u32 j, .int .i64 q], .int .i64 e, .int .i64 k],.slice a len cap,.tuple #[.int .u32 sk, .agg #[.int .u32 h, .int .i64 p], .agg #[.int .u32 j, .int .i64 q], .int .i64 e, .int .i64 k],.int .u32 sk,.agg #[.int .u32 h, .int .i64 p],.agg #[.int .u32 j, .int .i64 q],.int .i64 e,.int .i64 k,.int .u32 sk,.agg #[.int .u32 h, .int .i64 p],.agg #[.int .u32 j, .int .i64 q],.int .i64 e,.int .i64 k,.int .u32 c,.int .u32 c,.int .u32 sk,.agg #[.int .u32 h, .int .i64 p],.agg #[.int .u32 j, .int .i64 q],.int .i64 e,.int .i64 k,.int .u32 c,.bool false,.int .i64 e,.bool false,.bool false,.int .i64 e,.bool false,.bool false,.bool false,.int .i64 k,.bool true,.bool true,.bool true,U,U,.bool true,.bool true,U,U,U,.bool true,.bool true,U,U,U,.bool true,.bool true,U,U,U,.bool true,.bool true,U,U,U,.bool true,U,U,U,U,U,U,U,U,U,U,U,U,U,U,U,U,U,U,U,U,U,U,U,U,U,U,U,U,U,U,U,U,U,U,U,U,U,U,U,U,U,U,U,U,U,U,U,U,U,U,U,U,U,U,U,U,U,U,U,U,U,U,U,U,U,U,U,U,U,U,U,U,U,U,U,U,U,U,U,U,U,U,U,U,U,U,U,U,U,U,U] ?_
      go_wp2_with (fail)
      go_ret
      exact ⟨rfl, G⟩
    by_cases b3 : 7 < k
    case pos =>
      refine vR ?_
      refine vV (.int .i64 e) ?_
      refine vV (.bool false) ?_ (hrun := by simp [execOp, go_sem]; omega)
      refine vV (.bool false) ?_
      refine vV (.int .i64 e) ?_
      refine vV (.bool false) ?_ (hrun := by simp [execOp, go_sem]; omega)
      refine vV (.bool false) ?_
      refine vV (.bool false) ?_
      refine vV (.int .i64 k) ?_
      refine vV (.bool false) ?_ (hrun := by simp [execOp, go_sem]; omega)
      refine vV (.bool false) ?_
      refine vV (.bool false) ?_
      refine vV (.int .i64 k) ?_
      refine vV (.bool true) ?_ (hrun := by simp [execOp, go_sem]; omega)
      refine vV (.bool true) ?_
      refine vV (.bool true) ?_
      refine vS ?_
      refine vS ?_
      refine vS ?_
      refine vV (.bool true) ?_
      refine vV (.bool true) ?_
      refine vS ?_
      refine vS ?_
      refine vS ?_
      refine vV (.bool true) ?_
      refine vV (.bool true) ?_
      refine vS ?_
      refine vS ?_
      refine vS ?_
      refine vV (.bool true) ?_
      refine vV (.bool true) ?_
      refine vS ?_
      refine vS ?_
      refine vS ?_
      refine vV (.bool true) ?_
      refine vE #[.slice a len cap,U,.bool false,.int .u32 sk,.pointer (some ⟨qw1.heap.size, 0, none⟩),.pointer (some ⟨qw3.heap.size, 0, none⟩),.int .i64 e,.int .i64 k,.int .u32 c,U,U,U,U,U,U,U,U,U,U,U,.slice a len cap,.bool false,.tuple #[.int .u32 sk, .agg #[.int .u32 h, .int .i64 p], .agg #[.int .u32 j, .int .i64 q], .int .i64 e, .int .i64 k],.slice a len cap,.tuple #[.int .u32 sk, .agg #[.int .u32 h, .int .i64 p], .agg #[.int .u32 j, .int .i64 q], .int .i64 e, .int .i64 k],.int .u32 sk,.agg #[.int .u32 h, .int .i64 p],.agg #[.int .u32 j, .int .i64 q],.int .i64 e,.int .i64 k,.int .u32 sk,.agg #[.int .u32 h, .int .i64 p],.agg #[.int .u32 j, .int .i64 q],.int .i64 e,.int .i64 k,.int .u32 c,.int .u32 c,.int .u32 sk,.agg #[.int .u32 h, .int .i64 p],.agg #[.int .u32 j, .int .i64 q],.int .i64 e,.int .i64 k,.int .u32 c,.bool false,.int .i64 e,.bool false,.bool false,.int .i64 e,.bool false,.bool false,.bool false,.int .i64 k,.bool false,.bool false,.bool false,.int .i64 k,.bool true,.bool true,.bool true,U,U,U,.bool true,.bool true,U,U,U,.bool true,.bool true,U,U,U,.bool true,.bool true,U,U,U,.bool true,U,U,U,U,U,U,U,U,U,U,U,U,U,U,U,U,U,U,U,U,U,U,U,U,U,U,U,U,U,U,U,U,U,U,U,U,U,U,U,U,U,U,U,U,U,U,U,U,U,U,U,U,U,U,U,U,U,U,U,U,U,U,U,U,U,U,U,U,U,U,U,U,U,U,U,U,U,U,U,U,U,U,U,U,U,U,U,U,U,U,U] ?_
      go_wp2_with (fail)
      go_ret
      exact ⟨rfl, G⟩
    by_cases b4 : p < 0
    case pos =>
      refine vR ?_
      refine vV (.int .i64 e) ?_
      refine vV (.bool false) ?_ (hrun := by simp [execOp, go_sem]; omega)
      refine vV (.bool false) ?_
      refine vV (.int .i64 e) ?_
      refine vV (.bool false) ?_ (hrun := by simp [execOp, go_sem]; omega)
      refine vV (.bool false) ?_
      refine vV (.bool false) ?_
      refine vV (.int .i64 k) ?_
      refine vV (.bool false) ?_ (hrun := by simp [execOp, go_sem]; omega)
      refine vV (.bool false) ?_
      refine vV (.bool false) ?_
      refine vV (.int .i64 k) ?_
      refine vV (.bool false) ?_ (hrun := by simp [execOp, go_sem]; omega)
      refine vV (.bool false) ?_
      refine vV (.bool false) ?_
      refine vV (.pointer (some ⟨qw1.heap.size, 1, none⟩)) ?_
      refine vD (.int .i64 p) (qB11.cell 1) ?_
      refine vV (.bool true) ?_ (hrun := by simp [execOp, go_sem]; omega)
      refine vV (.bool true) ?_
      refine vV (.bool true) ?_
      refine vS ?_
      refine vS ?_
      refine vS ?_
      refine vV (.bool true) ?_
      refine vV (.bool true) ?_
      refine vS ?_
      refine vS ?_
      refine vS ?_
      refine vV (.bool true) ?_
      refine vV (.bool true) ?_
      refine vS ?_
      refine vS ?_
      refine vS ?_
      refine vV (.bool true) ?_
      refine vE #[.slice a len cap,U,.bool false,.int .u32 sk,.pointer (some ⟨qw1.heap.size, 0, none⟩),.pointer (some ⟨qw3.heap.size, 0, none⟩),.int .i64 e,.int .i64 k,.int .u32 c,U,U,U,U,U,U,U,U,U,U,U,.slice a len cap,.bool false,.tuple #[.int .u32 sk, .agg #[.int .u32 h, .int .i64 p], .agg #[.int .u32 j, .int .i64 q], .int .i64 e, .int .i64 k],.slice a len cap,.tuple #[.int .u32 sk, .agg #[.int .u32 h, .int .i64 p], .agg #[.int .u32 j, .int .i64 q], .int .i64 e, .int .i64 k],.int .u32 sk,.agg #[.int .u32 h, .int .i64 p],.agg #[.int .u32 j, .int .i64 q],.int .i64 e,.int .i64 k,.int .u32 sk,.agg #[.int .u32 h, .int .i64 p],.agg #[.int .u32 j, .int .i64 q],.int .i64 e,.int .i64 k,.int .u32 c,.int .u32 c,.int .u32 sk,.agg #[.int .u32 h, .int .i64 p],.agg #[.int .u32 j, .int .i64 q],.int .i64 e,.int .i64 k,.int .u32 c,.bool false,.int .i64 e,.bool false,.bool false,.int .i64 e,.bool false,.bool false,.bool false,.int .i64 k,.bool false,.bool false,.bool false,.int .i64 k,.bool false,.bool false,.bool false,.pointer (some ⟨qw1.heap.size, 1, none⟩),.int .i64 p,.bool true,.bool true,.bool true,U,U,U,.bool true,.bool true,U,U,U,.bool true,.bool true,U,U,U,.bool true,U,U,U,U,U,U,U,U,U,U,U,U,U,U,U,U,U,U,U,U,U,U,U,U,U,U,U,U,U,U,U,U,U,U,U,U,U,U,U,U,U,U,U,U,U,U,U,U,U,U,U,U,U,U,U,U,U,U,U,U,U,U,U,U,U,U,U,U,U,U,U,U,U,U,U,U,U,U,U,U,U,U,U,U,U,U,U,U,U,U,U] ?_
      go_wp2_with (fail)
      go_ret
      exact ⟨rfl, G⟩
    by_cases b5 : 65535 < p
    case pos =>
      refine vR ?_
      refine vV (.int .i64 e) ?_
      refine vV (.bool false) ?_ (hrun := by simp [execOp, go_sem]; omega)
      refine vV (.bool false) ?_
      refine vV (.int .i64 e) ?_
      refine vV (.bool false) ?_ (hrun := by simp [execOp, go_sem]; omega)
      refine vV (.bool false) ?_
      refine vV (.bool false) ?_
      refine vV (.int .i64 k) ?_
      refine vV (.bool false) ?_ (hrun := by simp [execOp, go_sem]; omega)
      refine vV (.bool false) ?_
      refine vV (.bool false) ?_
      refine vV (.int .i64 k) ?_
      refine vV (.bool false) ?_ (hrun := by simp [execOp, go_sem]; omega)
      refine vV (.bool false) ?_
      refine vV (.bool false) ?_
      refine vV (.pointer (some ⟨qw1.heap.size, 1, none⟩)) ?_
      refine vD (.int .i64 p) (qB11.cell 1) ?_
      refine vV (.bool false) ?_ (hrun := by simp [execOp, go_sem]; omega)
      refine vV (.bool false) ?_
      refine vV (.bool false) ?_
      refine vV (.pointer (some ⟨qw1.heap.size, 1, none⟩)) ?_
      refine vD (.int .i64 p) (qB11.cell 1) ?_
      refine vV (.bool true) ?_ (hrun := by simp [execOp, go_sem]; omega)
      refine vV (.bool true) ?_
      refine vV (.bool true) ?_
      refine vS ?_
      refine vS ?_
      refine vS ?_
      refine vV (.bool true) ?_
      refine vV (.bool true) ?_
      refine vS ?_
      refine vS ?_
      refine vS ?_
      refine vV (.bool true) ?_
      refine vE #[.slice a len cap,U,.bool false,.int .u32 sk,.pointer (some ⟨qw1.heap.size, 0, none⟩),.pointer (some ⟨qw3.heap.size, 0, none⟩),.int .i64 e,.int .i64 k,.int .u32 c,U,U,U,U,U,U,U,U,U,U,U,.slice a len cap,.bool false,.tuple #[.int .u32 sk, .agg #[.int .u32 h, .int .i64 p], .agg #[.int .u32 j, .int .i64 q], .int .i64 e, .int .i64 k],.slice a len cap,.tuple #[.int .u32 sk, .agg #[.int .u32 h, .int .i64 p], .agg #[.int .u32 j, .int .i64 q], .int .i64 e, .int .i64 k],.int .u32 sk,.agg #[.int .u32 h, .int .i64 p],.agg #[.int .u32 j, .int .i64 q],.int .i64 e,.int .i64 k,.int .u32 sk,.agg #[.int .u32 h, .int .i64 p],.agg #[.int .u32 j, .int .i64 q],.int .i64 e,.int .i64 k,.int .u32 c,.int .u32 c,.int .u32 sk,.agg #[.int .u32 h, .int .i64 p],.agg #[.int .u32 j, .int .i64 q],.int .i64 e,.int .i64 k,.int .u32 c,.bool false,.int .i64 e,.bool false,.bool false,.int .i64 e,.bool false,.bool false,.bool false,.int .i64 k,.bool false,.bool false,.bool false,.int .i64 k,.bool false,.bool false,.bool false,.pointer (some ⟨qw1.heap.size, 1, none⟩),.int .i64 p,.bool false,.bool false,.bool false,.pointer (some ⟨qw1.heap.size, 1, none⟩),.int .i64 p,.bool true,.bool true,.bool true,U,U,U,.bool true,.bool true,U,U,U,.bool true,U,U,U,U,U,U,U,U,U,U,U,U,U,U,U,U,U,U,U,U,U,U,U,U,U,U,U,U,U,U,U,U,U,U,U,U,U,U,U,U,U,U,U,U,U,U,U,U,U,U,U,U,U,U,U,U,U,U,U,U,U,U,U,U,U,U,U,U,U,U,U,U,U,U,U,U,U,U,U,U,U,U,U,U,U,U,U,U,U,U,U] ?_
      go_wp2_with (fail)
      go_ret
      exact ⟨rfl, G⟩
    by_cases b6 : q < 0
    case pos =>
      refine vR ?_
      refine vV (.int .i64 e) ?_
      refine vV (.bool false) ?_ (hrun := by simp [execOp, go_sem]; omega)
      refine vV (.bool false) ?_
      refine vV (.int .i64 e) ?_
      refine vV (.bool false) ?_ (hrun := by simp [execOp, go_sem]; omega)
      refine vV (.bool false) ?_
      refine vV (.bool false) ?_
      refine vV (.int .i64 k) ?_
      refine vV (.bool false) ?_ (hrun := by simp [execOp, go_sem]; omega)
      refine vV (.bool false) ?_
      refine vV (.bool false) ?_
      refine vV (.int .i64 k) ?_
      refine vV (.bool false) ?_ (hrun := by simp [execOp, go_sem]; omega)
      refine vV (.bool false) ?_
      refine vV (.bool false) ?_
      refine vV (.pointer (some ⟨qw1.heap.size, 1, none⟩)) ?_
      refine vD (.int .i64 p) (qB11.cell 1) ?_
      refine vV (.bool false) ?_ (hrun := by simp [execOp, go_sem]; omega)
      refine vV (.bool false) ?_
      refine vV (.bool false) ?_
      refine vV (.pointer (some ⟨qw1.heap.size, 1, none⟩)) ?_
      refine vD (.int .i64 p) (qB11.cell 1) ?_
      refine vV (.bool false) ?_ (hrun := by simp [execOp, go_sem]; omega)
      refine vV (.bool false) ?_
      refine vV (.bool false) ?_
      refine vV (.pointer (some ⟨qw3.heap.size, 1, none⟩)) ?_
      refine vD (.int .i64 q) (qB14.cell 1) ?_
      refine vV (.bool true) ?_ (hrun := by simp [execOp, go_sem]; omega)
      refine vV (.bool true) ?_
      refine vV (.bool true) ?_
      refine vS ?_
      refine vS ?_
      refine vS ?_
      refine vV (.bool true) ?_
      refine vE #[.slice a len cap,U,.bool false,.int .u32 sk,.pointer (some ⟨qw1.heap.size, 0, none⟩),.pointer (some ⟨qw3.heap.size, 0, none⟩),.int .i64 e,.int .i64 k,.int .u32 c,U,U,U,U,U,U,U,U,U,U,U,.slice a len cap,.bool false,.tuple #[.int .u32 sk, .agg #[.int .u32 h, .int .i64 p], .agg #[.int .u32 j, .int .i64 q], .int .i64 e, .int .i64 k],.slice a len cap,.tuple #[.int .u32 sk, .agg #[.int .u32 h, .int .i64 p], .agg #[.int .u32 j, .int .i64 q], .int .i64 e, .int .i64 k],.int .u32 sk,.agg #[.int .u32 h, .int .i64 p],.agg #[.int .u32 j, .int .i64 q],.int .i64 e,.int .i64 k,.int .u32 sk,.agg #[.int .u32 h, .int .i64 p],.agg #[.int .u32 j, .int .i64 q],.int .i64 e,.int .i64 k,.int .u32 c,.int .u32 c,.int .u32 sk,.agg #[.int .u32 h, .int .i64 p],.agg #[.int .u32 j, .int .i64 q],.int .i64 e,.int .i64 k,.int .u32 c,.bool false,.int .i64 e,.bool false,.bool false,.int .i64 e,.bool false,.bool false,.bool false,.int .i64 k,.bool false,.bool false,.bool false,.int .i64 k,.bool false,.bool false,.bool false,.pointer (some ⟨qw1.heap.size, 1, none⟩),.int .i64 p,.bool false,.bool false,.bool false,.pointer (some ⟨qw1.heap.size, 1, none⟩),.int .i64 p,.bool false,.bool false,.bool false,.pointer (some ⟨qw3.heap.size, 1, none⟩),.int .i64 q,.bool true,.bool true,.bool true,U,U,U,.bool true,U,U,U,U,U,U,U,U,U,U,U,U,U,U,U,U,U,U,U,U,U,U,U,U,U,U,U,U,U,U,U,U,U,U,U,U,U,U,U,U,U,U,U,U,U,U,U,U,U,U,U,U,U,U,U,U,U,U,U,U,U,U,U,U,U,U,U,U,U,U,U,U,U,U,U,U,U,U,U,U,U,U,U,U,U,U,U,U,U,U,U] ?_
      go_wp2_with (fail)
      go_ret
      exact ⟨rfl, G⟩
    by_cases b7 : 65535 < q
    case pos =>
      refine vR ?_
      refine vV (.int .i64 e) ?_
      refine vV (.bool false) ?_ (hrun := by simp [execOp, go_sem]; omega)
      refine vV (.bool false) ?_
      refine vV (.int .i64 e) ?_
      refine vV (.bool false) ?_ (hrun := by simp [execOp, go_sem]; omega)
      refine vV (.bool false) ?_
      refine vV (.bool false) ?_
      refine vV (.int .i64 k) ?_
      refine vV (.bool false) ?_ (hrun := by simp [execOp, go_sem]; omega)
      refine vV (.bool false) ?_
      refine vV (.bool false) ?_
      refine vV (.int .i64 k) ?_
      refine vV (.bool false) ?_ (hrun := by simp [execOp, go_sem]; omega)
      refine vV (.bool false) ?_
      refine vV (.bool false) ?_
      refine vV (.pointer (some ⟨qw1.heap.size, 1, none⟩)) ?_
      refine vD (.int .i64 p) (qB11.cell 1) ?_
      refine vV (.bool false) ?_ (hrun := by simp [execOp, go_sem]; omega)
      refine vV (.bool false) ?_
      refine vV (.bool false) ?_
      refine vV (.pointer (some ⟨qw1.heap.size, 1, none⟩)) ?_
      refine vD (.int .i64 p) (qB11.cell 1) ?_
      refine vV (.bool false) ?_ (hrun := by simp [execOp, go_sem]; omega)
      refine vV (.bool false) ?_
      refine vV (.bool false) ?_
      refine vV (.pointer (some ⟨qw3.heap.size, 1, none⟩)) ?_
      refine vD (.int .i64 q) (qB14.cell 1) ?_
      refine vV (.bool false) ?_ (hrun := by simp [execOp, go_sem]; omega)
      refine vV (.bool false) ?_
      refine vV (.bool false) ?_
      refine vV (.pointer (some ⟨qw3.heap.size, 1, none⟩)) ?_
      refine vD (.int .i64 q) (qB14.cell 1) ?_
      refine vV (.bool true) ?_ (hrun := by simp [execOp, go_sem]; omega)
      refine vV (.bool true) ?_
      refine vE #[.slice a len cap,U,.bool false,.int .u32 sk,.pointer (some ⟨qw1.heap.size, 0, none⟩),.pointer (some ⟨qw3.heap.size, 0, none⟩),.int .i64 e,.int .i64 k,.int .u32 c,U,U,U,U,U,U,U,U,U,U,U,.slice a len cap,.bool false,.tuple #[.int .u32 sk, .agg #[.int .u32 h, .int .i64 p], .agg #[.int .u32 j, .int .i64 q], .int .i64 e, .int .i64 k],.slice a len cap,.tuple #[.int .u32 sk, .agg #[.int .u32 h, .int .i64 p], .agg #[.int .u32 j, .int .i64 q], .int .i64 e, .int .i64 k],.int .u32 sk,.agg #[.int .u32 h, .int .i64 p],.agg #[.int .u32 j, .int .i64 q],.int .i64 e,.int .i64 k,.int .u32 sk,.agg #[.int .u32 h, .int .i64 p],.agg #[.int .u32 j, .int .i64 q],.int .i64 e,.int .i64 k,.int .u32 c,.int .u32 c,.int .u32 sk,.agg #[.int .u32 h, .int .i64 p],.agg #[.int .u32 j, .int .i64 q],.int .i64 e,.int .i64 k,.int .u32 c,.bool false,.int .i64 e,.bool false,.bool false,.int .i64 e,.bool false,.bool false,.bool false,.int .i64 k,.bool false,.bool false,.bool false,.int .i64 k,.bool false,.bool false,.bool false,.pointer (some ⟨qw1.heap.size, 1, none⟩),.int .i64 p,.bool false,.bool false,.bool false,.pointer (some ⟨qw1.heap.size, 1, none⟩),.int .i64 p,.bool false,.bool false,.bool false,.pointer (some ⟨qw3.heap.size, 1, none⟩),.int .i64 q,.bool false,.bool false,.bool false,.pointer (some ⟨qw3.heap.size, 1, none⟩),.int .i64 q,.bool true,.bool true,U,U,U,U,U,U,U,U,U,U,U,U,U,U,U,U,U,U,U,U,U,U,U,U,U,U,U,U,U,U,U,U,U,U,U,U,U,U,U,U,U,U,U,U,U,U,U,U,U,U,U,U,U,U,U,U,U,U,U,U,U,U,U,U,U,U,U,U,U,U,U,U,U,U,U,U,U,U,U,U,U,U,U,U,U,U,U,U,U,U,U] ?_
      go_wp2_with (fail)
      go_ret
      exact ⟨rfl, G⟩
    refine vR ?_
    refine vV (.int .i64 e) ?_
    refine vV (.bool false) ?_ (hrun := by simp [execOp, go_sem]; omega)
    refine vV (.bool false) ?_
    refine vV (.int .i64 e) ?_
    refine vV (.bool false) ?_ (hrun := by simp [execOp, go_sem]; omega)
    refine vV (.bool false) ?_
    refine vV (.bool false) ?_
    refine vV (.int .i64 k) ?_
    refine vV (.bool false) ?_ (hrun := by simp [execOp, go_sem]; omega)
    refine vV (.bool false) ?_
    refine vV (.bool false) ?_
    refine vV (.int .i64 k) ?_
    refine vV (.bool false) ?_ (hrun := by simp [execOp, go_sem]; omega)
    refine vV (.bool false) ?_
    refine vV (.bool false) ?_
    refine vV (.pointer (some ⟨qw1.heap.size, 1, none⟩)) ?_
    refine vD (.int .i64 p) (qB11.cell 1) ?_
    refine vV (.bool false) ?_ (hrun := by simp [execOp, go_sem]; omega)
    refine vV (.bool false) ?_
    refine vV (.bool false) ?_
    refine vV (.pointer (some ⟨qw1.heap.size, 1, none⟩)) ?_
    refine vD (.int .i64 p) (qB11.cell 1) ?_
    refine vV (.bool false) ?_ (hrun := by simp [execOp, go_sem]; omega)
    refine vV (.bool false) ?_
    refine vV (.bool false) ?_
    refine vV (.pointer (some ⟨qw3.heap.size, 1, none⟩)) ?_
    refine vD (.int .i64 q) (qB14.cell 1) ?_
    refine vV (.bool false) ?_ (hrun := by simp [execOp, go_sem]; omega)
    refine vV (.bool false) ?_
    refine vV (.bool false) ?_
    refine vV (.pointer (some ⟨qw3.heap.size, 1, none⟩)) ?_
    refine vD (.int .i64 q) (qB14.cell 1) ?_
    refine vV (.bool false) ?_ (hrun := by simp [execOp, go_sem]; omega)
    refine vV (.bool false) ?_
    refine vE #[.slice a len cap,U,.bool false,.int .u32 sk,.pointer (some ⟨qw1.heap.size, 0, none⟩),.pointer (some ⟨qw3.heap.size, 0, none⟩),.int .i64 e,.int .i64 k,.int .u32 c,U,U,U,U,U,U,U,U,U,U,U,.slice a len cap,.bool false,.tuple #[.int .u32 sk, .agg #[.int .u32 h, .int .i64 p], .agg #[.int .u32 j, .int .i64 q], .int .i64 e, .int .i64 k],.slice a len cap,.tuple #[.int .u32 sk, .agg #[.int .u32 h, .int .i64 p], .agg #[.int .u32 j, .int .i64 q], .int .i64 e, .int .i64 k],.int .u32 sk,.agg #[.int .u32 h, .int .i64 p],.agg #[.int .u32 j, .int .i64 q],.int .i64 e,.int .i64 k,.int .u32 sk,.agg #[.int .u32 h, .int .i64 p],.agg #[.int .u32 j, .int .i64 q],.int .i64 e,.int .i64 k,.int .u32 c,.int .u32 c,.int .u32 sk,.agg #[.int .u32 h, .int .i64 p],.agg #[.int .u32 j, .int .i64 q],.int .i64 e,.int .i64 k,.int .u32 c,.bool false,.int .i64 e,.bool false,.bool false,.int .i64 e,.bool false,.bool false,.bool false,.int .i64 k,.bool false,.bool false,.bool false,.int .i64 k,.bool false,.bool false,.bool false,.pointer (some ⟨qw1.heap.size, 1, none⟩),.int .i64 p,.bool false,.bool false,.bool false,.pointer (some ⟨qw1.heap.size, 1, none⟩),.int .i64 p,.bool false,.bool false,.bool false,.pointer (some ⟨qw3.heap.size, 1, none⟩),.int .i64 q,.bool false,.bool false,.bool false,.pointer (some ⟨qw3.heap.size, 1, none⟩),.int .i64 q,.bool false,.bool false,U,U,U,U,U,U,U,U,U,U,U,U,U,U,U,U,U,U,U,U,U,U,U,U,U,U,U,U,U,U,U,U,U,U,U,U,U,U,U,U,U,U,U,U,U,U,U,U,U,U,U,U,U,U,U,U,U,U,U,U,U,U,U,U,U,U,U,U,U,U,U,U,U,U,U,U,U,U,U,U,U,U,U,U,U,U,U,U,U,U,U] ?_
    have hok : ckOk p q e = true := by
      unfold ckOk
      simp only [Bool.and_eq_true, decide_eq_true_eq]
      omega
    have hkk : 0 ≤ k ∧ k ≤ 7 := by omega
    have hcw : IsWord c := by rw [hc.out]; exact ckOf_word _ _ _ _ _ _ _
    have f1 := known_now sk h p j q e k hok hkk
    have f2 := known_next sk h p j q e k hok (by omega) hkk
    have f3 := fun d hd => not_late sk h p j q e k d hok hkk hd
    rw [← hc.out] at f1 f2 f3
    have hc1 := fun wx => implCheck sk h p j q e c hcw wx
    rw [f1.1, f1.2] at hc1
    have hc2 := fun wx => implCheck sk h p j q (e + 1) c hcw wx
    rw [f2.1, f2.2] at hc2
    obtain ⟨X, hX⟩ : ∃ X : Int, Hid (X = if 3 < len then zs.getD 3 0 else ((3 : Nat) * 7 + len : Int) % 256) := ⟨_, rfl⟩
    have hat0 := fun wx (g1 : Since w wx) => at_ a len cap zs 3 (by omega) w hb hm wx g1
    have hat : ∀ wx, Since w wx → Calls Tryd.prog 11 #[.slice a len cap, .int .i64 3] wx fun e w' => (e = .returned (.int .i64 X) ∧ 0 ≤ X ∧ X ≤ 255) ∧ wx = w' := by
      intro wx g1
      refine (hat0 wx g1).mono ?_
      rintro _ w' ⟨rfl, h0, h1, rfl⟩
      rw [hX.out]
      exact ⟨⟨rfl, h0, h1⟩, rfl⟩
    clear hat0
    have hX0 : 0 ≤ X ∧ X ≤ 255 := by
      rw [hX.out]
      exact at_range a len zs 3 w hb
    have htm : X.tmod 29 = X % 29 := Int.tmod_eq_emod_of_nonneg hX0.1
    have hXm : 0 ≤ X % 29 ∧ X % 29 ≤ 28 := by omega
    have hw2 : IntKind.i64.wrap (e + 2) = e + 2 := by
      rw [IntWalk.i64_left]
      exact IntWalk.wrap64_in _ ⟨by omega, by omega⟩
    have hw3 : IntKind.i64.wrap (e + 2 + X % 29) = e + 2 + X % 29 := by
      rw [IntWalk.i64_left]
      exact IntWalk.wrap64_in _ ⟨by omega, by omega⟩
    have hw4 : IntKind.i64.wrap (e + 1) = e + 1 := by
      rw [IntWalk.i64_left]
      exact IntWalk.wrap64_in _ ⟨by omega, by omega⟩
    have hc3 := fun wx => implCheck sk h p j q (e + 2 + X % 29) c hcw wx
    have f4 := f3 (2 + X % 29) (by omega)
    rw [show e + (2 + X % 29) = e + 2 + X % 29 by omega] at f4
    rw [f4.1, f4.2] at hc3
    have hc5 := fun wx => implCheck sk ((h + 1) % 4294967296) p j q e c hcw wx
    have hc6 := fun wx => specCheck sk ((h + 1) % 4294967296) p j q e c hcw wx
    generalize ckStep sk ((h + 1) % 4294967296) p j q e c = s5 at hc5 hc6
    generalize ckKnown sk ((h + 1) % 4294967296) p j q e c = n5 at hc5 hc6
    have hmo := fun wx L => implMssOf k wx L
    have hms := fun wx L => implMssStep (mssOf k) wx L
    rw [step_back k hkk] at hms
    unfold addrVal at hc1 hc2 hc3 hc5 hc6
    go_upto_region 9 with (fail)
    refine vR ?_
    refine vV (.int .u32 sk) ?_
    refine vB ad_big qB11 rfl ?_
    refine vB ad_big qB14 rfl ?_
    refine vV (.int .i64 e) ?_
    refine vV (.int .u32 c) ?_
    refine vK (hc1 _) ?_
    intro qw19 qg20
    replace qB11 := qB11.since qg20
    replace qB14 := qB14.since qg20
    replace E := E.since qg20
    replace G := G.trans qg20
    have qg20_s := qg20.size
    refine vV (.tuple #[.int .i64 k, .bool true]) ?_
    refine vV (.int .i64 k) ?_
    refine vV (.bool true) ?_
    refine vV (.int .i64 k) ?_
    refine vV (.bool true) ?_
    refine vE #[.slice a len cap,U,.bool false,.int .u32 sk,.pointer (some ⟨qw1.heap.size, 0, none⟩),.pointer (some ⟨qw3.heap.size, 0, none⟩),.int .i64 e,.int .i64 k,.int .u32 c,.int .i64 k,.bool true,U,U,U,U,U,U,U,U,U,.slice a len cap,.bool false,.tuple #[.int .u32 sk, .agg #[.int .u32 h, .int .i64 p], .agg #[.int .u32 j, .int .i64 q], .int .i64 e, .int .i64 k],.slice a len cap,.tuple #[.int .u32 sk, .agg #[.int .u32 h, .int .i64 p], .agg #[.int .u32 j, .int .i64 q], .int .i64 e, .int .i64 k],.int .u32 sk,.agg #[.int .u32 h, .int .i64 p],.agg #[.int .u32 j, .int .i64 q],.int .i64 e,.int .i64 k,.int .u32 sk,.agg #[.int .u32 h, .int .i64 p],.agg #[.int .u32 j, .int .i64 q],.int .i64 e,.int .i64 k,.int .u32 c,.int .u32 c,.int .u32 sk,.agg #[.int .u32 h, .int .i64 p],.agg #[.int .u32 j, .int .i64 q],.int .i64 e,.int .i64 k,.int .u32 c,.bool false,.int .i64 e,.bool false,.bool false,.int .i64 e,.bool false,.bool false,.bool false,.int .i64 k,.bool false,.bool false,.bool false,.int .i64 k,.bool false,.bool false,.bool false,.pointer (some ⟨qw1.heap.size, 1, none⟩),.int .i64 p,.bool false,.bool false,.bool false,.pointer (some ⟨qw1.heap.size, 1, none⟩),.int .i64 p,.bool false,.bool false,.bool false,.pointer (some ⟨qw3.heap.size, 1, none⟩),.int .i64 q,.bool false,.bool false,.bool false,.pointer (some ⟨qw3.heap.size, 1, none⟩),.int .i64 q,.bool false,.bool false,.tuple #[.int .i64 k, .bool true],.int .u32 sk,.agg #[.int .u32 h, .int .i64 p],.agg #[.int .u32 j, .int .i64 q],.int .i64 e,.int .u32 c,.tuple #[.int .i64 k, .bool true],.int .i64 k,.bool true,U,U,U,U,U,U,U,U,U,U,U,U,U,U,U,U,U,U,U,U,U,U,U,U,U,U,U,U,U,U,U,U,U,U,U,U,U,U,U,U,U,U,U,U,U,U,U,U,U,U,U,U,U,U,U,U,U,U,U,U,U,U,U,U,U,U,U,U,U,U,U,U,U,U,U,U,U,U,U,U,U,U] ?_
    go_upto_region 10 with (fail)
    refine vR ?_
    refine vV (.int .u32 sk) ?_
    refine vB ad_big qB11 rfl ?_
    refine vB ad_big qB14 rfl ?_
    refine vV (.int .i64 e) ?_
    refine vV (.int .i64 (e + 1)) ?_ (hrun := by rw [← hw4]; kernel_rfl)
    refine vV (.int .u32 c) ?_
    refine vK (hc2 _) ?_
    intro qw21 qg22
    replace qB11 := qB11.since qg22
    replace qB14 := qB14.since qg22
    replace E := E.since qg22
    replace G := G.trans qg22
    have qg22_s := qg22.size
    refine vV (.tuple #[.int .i64 k, .bool true]) ?_
    refine vV (.int .i64 k) ?_
    refine vV (.bool true) ?_
    refine vV (.int .i64 k) ?_
    refine vV (.bool true) ?_
    refine vE #[.slice a len cap,U,.bool false,.int .u32 sk,.pointer (some ⟨qw1.heap.size, 0, none⟩),.pointer (some ⟨qw3.heap.size, 0, none⟩),.int .i64 e,.int .i64 k,.int .u32 c,.int .i64 k,.bool true,.int .i64 k,.bool true,U,U,U,U,U,U,U,.slice a len cap,.bool false,.tuple #[.int .u32 sk, .agg #[.int .u32 h, .int .i64 p], .agg #[.int .u32 j, .int .i64 q], .int .i64 e, .int .i64 k],.slice a len cap,.tuple #[.int .u32 sk, .agg #[.int .u32 h, .int .i64 p], .agg #[.int .u32 j, .int .i64 q], .int .i64 e, .int .i64 k],.int .u32 sk,.agg #[.int .u32 h, .int .i64 p],.agg #[.int .u32 j, .int .i64 q],.int .i64 e,.int .i64 k,.int .u32 sk,.agg #[.int .u32 h, .int .i64 p],.agg #[.int .u32 j, .int .i64 q],.int .i64 e,.int .i64 k,.int .u32 c,.int .u32 c,.int .u32 sk,.agg #[.int .u32 h, .int .i64 p],.agg #[.int .u32 j, .int .i64 q],.int .i64 e,.int .i64 k,.int .u32 c,.bool false,.int .i64 e,.bool false,.bool false,.int .i64 e,.bool false,.bool false,.bool false,.int .i64 k,.bool false,.bool false,.bool false,.int .i64 k,.bool false,.bool false,.bool false,.pointer (some ⟨qw1.heap.size, 1, none⟩),.int .i64 p,.bool false,.bool false,.bool false,.pointer (some ⟨qw1.heap.size, 1, none⟩),.int .i64 p,.bool false,.bool false,.bool false,.pointer (some ⟨qw3.heap.size, 1, none⟩),.int .i64 q,.bool false,.bool false,.bool false,.pointer (some ⟨qw3.heap.size, 1, none⟩),.int .i64 q,.bool false,.bool false,.tuple #[.int .i64 k, .bool true],.int .u32 sk,.agg #[.int .u32 h, .int .i64 p],.agg #[.int .u32 j, .int .i64 q],.int .i64 e,.int .u32 c,.tuple #[.int .i64 k, .bool true],.int .i64 k,.bool true,.tuple #[.int .i64 k, .bool true],.int .u32 sk,.agg #[.int .u32 h, .int .i64 p],.agg #[.int .u32 j, .int .i64 q],.int .i64 e,.int .i64 (e + 1),.int .u32 c,.tuple #[.int .i64 k, .bool true],.int .i64 k,.bool true,U,U,U,U,U,U,U,U,U,U,U,U,U,U,U,U,U,U,U,U,U,U,U,U,U,U,U,U,U,U,U,U,U,U,U,U,U,U,U,U,U,U,U,U,U,U,U,U,U,U,U,U,U,U,U,U,U,U,U,U,U,U,U,U,U,U,U,U,U,U,U,U] ?_
    go_upto_region 11 with (fail)
    refine vR ?_
    refine vV (.bool true) ?_
    refine vV (.bool false) ?_
    refine vV (.bool false) ?_
    refine vV (.bool true) ?_
    refine vV (.bool false) ?_
    refine vV (.bool false) ?_
    refine vV (.bool false) ?_
    refine vV (.int .i64 k) ?_
    refine vV (.int .i64 k) ?_
    refine vV (.bool false) ?_ (hrun := by simp [execOp, go_sem])
    refine vV (.bool false) ?_
    refine vV (.bool false) ?_
    refine vV (.int .i64 k) ?_
    refine vV (.int .i64 k) ?_
    refine vV (.bool false) ?_ (hrun := by simp [execOp, go_sem])
    refine vV (.bool false) ?_
    refine vE #[.slice a len cap,U,.bool false,.int .u32 sk,.pointer (some ⟨qw1.heap.size, 0, none⟩),.pointer (some ⟨qw3.heap.size, 0, none⟩),.int .i64 e,.int .i64 k,.int .u32 c,.int .i64 k,.bool true,.int .i64 k,.bool true,U,U,U,U,U,U,U,.slice a len cap,.bool false,.tuple #[.int .u32 sk, .agg #[.int .u32 h, .int .i64 p], .agg #[.int .u32 j, .int .i64 q], .int .i64 e, .int .i64 k],.slice a len cap,.tuple #[.int .u32 sk, .agg #[.int .u32 h, .int .i64 p], .agg #[.int .u32 j, .int .i64 q], .int .i64 e, .int .i64 k],.int .u32 sk,.agg #[.int .u32 h, .int .i64 p],.agg #[.int .u32 j, .int .i64 q],.int .i64 e,.int .i64 k,.int .u32 sk,.agg #[.int .u32 h, .int .i64 p],.agg #[.int .u32 j, .int .i64 q],.int .i64 e,.int .i64 k,.int .u32 c,.int .u32 c,.int .u32 sk,.agg #[.int .u32 h, .int .i64 p],.agg #[.int .u32 j, .int .i64 q],.int .i64 e,.int .i64 k,.int .u32 c,.bool false,.int .i64 e,.bool false,.bool false,.int .i64 e,.bool false,.bool false,.bool false,.int .i64 k,.bool false,.bool false,.bool false,.int .i64 k,.bool false,.bool false,.bool false,.pointer (some ⟨qw1.heap.size, 1, none⟩),.int .i64 p,.bool false,.bool false,.bool false,.pointer (some ⟨qw1.heap.size, 1, none⟩),.int .i64 p,.bool false,.bool false,.bool false,.pointer (some ⟨qw3.heap.size, 1, none⟩),.int .i64 q,.bool false,.bool false,.bool false,.pointer (some ⟨qw3.heap.size, 1, none⟩),.int .i64 q,.bool false,.bool false,.tuple #[.int .i64 k, .bool true],.int .u32 sk,.agg #[.int .u32 h, .int .i64 p],.agg #[.int .u32 j, .int .i64 q],.int .i64 e,.int .u32 c,.tuple #[.int .i64 k, .bool true],.int .i64 k,.bool true,.tuple #[.int .i64 k, .bool true],.int .u32 sk,.agg #[.int .u32 h, .int .i64 p],.agg #[.int .u32 j, .int .i64 q],.int .i64 e,.int .i64 (e + 1),.int .u32 c,.tuple #[.int .i64 k, .bool true],.int .i64 k,.bool true,.bool true,.bool false,.bool false,.bool true,.bool false,.bool false,.bool false,.int .i64 k,.int .i64 k,.bool false,.bool false,.bool false,.int .i64 k,.int .i64 k,.bool false,.bool false,U,U,U,U,U,U,U,U,U,U,U,U,U,U,U,U,U,U,U,U,U,U,U,U,U,U,U,U,U,U,U,U,U,U,U,U,U,U,U,U,U,U,U,U,U,U,U,U,U,U,U,U,U,U,U,U] ?_
    go_upto_region 13 with (fail)
    refine wp_region_each (wb := qw21) (fun i x v => match i with
        | 0 => v = .int .u32 sk
        | 1 => v = .agg #[.int .u32 h, .int .i64 p]
        | 2 => v = .agg #[.int .u32 j, .int .i64 q]
        | 3 => v = .int .i64 e
        | 4 => v = .int .i64 (e + 2)
        | 5 => v = .slice a len cap
        | 6 => v = .int .i64 X
        | 7 => v = .int .i64 (X % 29)
        | 8 => v = .int .i64 (e + 2 + X % 29)
        | 9 => v = .int .u32 c
        | 10 => v = .tuple #[.int .i64 0, .bool false]
        | 11 => v = .tuple #[.int .i64 0, .bool false]
        | 12 => v = .int .i64 0
        | 13 => v = .bool false
        | 14 => v = .int .i64 0
        | 15 => v = .bool false
        | _ => True) (fun v => { tmps := #[.slice a len cap, undef, .bool false, .int .u32 sk, .pointer (some ⟨qw1.heap.size, 0, none⟩), .pointer (some ⟨qw3.heap.size, 0, none⟩), .int .i64 e, .int .i64 k, .int .u32 c, .int .i64 k, .bool true, .int .i64 k, .bool true, v 14, v 15, undef, undef, undef, undef, undef, .slice a len cap, .bool false, .tuple #[.int .u32 sk, .agg #[.int .u32 h, .int .i64 p], .agg #[.int .u32 j, .int .i64 q], .int .i64 e, .int .i64 k], .slice a len cap, .tuple #[.int .u32 sk, .agg #[.int .u32 h, .int .i64 p], .agg #[.int .u32 j, .int .i64 q], .int .i64 e, .int .i64 k], .int .u32 sk, .agg #[.int .u32 h, .int .i64 p], .agg #[.int .u32 j, .int .i64 q], .int .i64 e, .int .i64 k, .int .u32 sk, .agg #[.int .u32 h, .int .i64 p], .agg #[.int .u32 j, .int .i64 q], .int .i64 e, .int .i64 k, .int .u32 c, .int .u32 c, .int .u32 sk, .agg #[.int .u32 h, .int .i64 p], .agg #[.int .u32 j, .int .i64 q], .int .i64 e, .int .i64 k, .int .u32 c, .bool false, .int .i64 e, .bool false, .bool false, .int .i64 e, .bool false, .bool false, .bool false, .int .i64 k, .bool false, .bool false, .bool false, .int .i64 k, .bool false, .bool false, .bool false, .pointer (some ⟨qw1.heap.size, 1, none⟩), .int .i64 p, .bool false, .bool false, .bool false, .pointer (some ⟨qw1.heap.size, 1, none⟩), .int .i64 p, .bool false, .bool false, .bool false, .pointer (some ⟨qw3.heap.size, 1, none⟩), .int .i64 q, .bool false, .bool false, .bool false, .pointer (some ⟨qw3.heap.size, 1, none⟩), .int .i64 q, .bool false, .bool false, .tuple #[.int .i64 k, .bool true], .int .u32 sk, .agg #[.int .u32 h, .int .i64 p], .agg #[.int .u32 j, .int .i64 q], .int .i64 e, .int .u32 c, .tuple #[.int .i64 k, .bool true], .int .i64 k, .bool true, .tuple #[.int .i64 k, .bool true], .int .u32 sk, .agg #[.int .u32 h, .int .i64 p], .agg #[.int .u32 j, .int .i64 q], .int .i64 e, .int .i64 (e + 1), .int .u32 c, .tuple #[.int .i64 k, .bool true], .int .i64 k, .bool true, .bool true, .bool false, .bool false, .bool true, .bool false, .bool false, .bool false, .int .i64 k, .int .i64 k, .bool false, .bool false, .bool false, .int .i64 k, .int .i64 k, .bool false, .bool false, v 11, v 0, v 1, v 2, v 3, v 4, v 5, v 6, v 7, v 8, v 9, v 10, v 12, v 13, undef, undef, undef, undef, undef, undef, undef, undef, undef, undef, undef, undef, undef, undef, undef, undef, undef, undef, undef, undef, undef, undef, undef, undef, undef, undef, undef, undef, undef, undef, undef, undef, undef, undef, undef, undef, undef, undef, undef, undef, undef, undef], defers := [] }) (by kernel_rfl) (by kernel_rfl) (Since.refl _) ?_ (fun vals => by kernel_rfl) ?_ ?_
    case refine_1 =>
      intro j x x' v h1 h2
      match j, h2 with
      | 0, h2 | 1, h2 | 2, h2 | 3, h2 | 4, h2 | 5, h2 | 6, h2 | 7, h2 | 8, h2 | 9, h2 | 10, h2 | 11, h2 | 12, h2 | 13, h2 | 14, h2 | 15, h2 => exact h2
      | n + 16, _ => trivial
    case refine_2 =>
      repeat (first | exact eachDoes_nil | refine eachDoes_cons ?_ ?_)
      all_goals intro vals x hx hv
      all_goals simp [Region.binds] at hv
      · simp [does, doesUpon, go_sem, hv, Since.refl]
      · simp [does, doesUpon, go_sem, hv, Since.refl]
      · simp [does, doesUpon, go_sem, hv, Since.refl]
      · simp [does, doesUpon, go_sem, hv, Since.refl]
      · simp [does, doesUpon, go_sem, hv, Since.refl]
      · simp [does, doesUpon, go_sem, hv]
        refine (hc3 _).mono ?_
        rintro _ x' ⟨rfl, h1⟩
        simp [h1]
      · simp [does, doesUpon, go_sem, Since.refl]
      · simp [does, doesUpon, go_sem, hv, hw3, Since.refl]
      · simp [does, doesUpon, go_sem, hv, htm, Since.refl]
      · simp [does, doesUpon, go_sem, hv]
        refine (hat _ (G.trans hx)).mono ?_
        rintro _ x' ⟨⟨rfl, -, -⟩, rfl⟩
        simp [Since.refl]
      · simp [does, doesUpon, go_sem, Since.refl]
      · simp [does, doesUpon, go_sem, hv, hw2, Since.refl]
      · simp [does, doesUpon, go_sem, Since.refl]
      · exact does_load ad_big rfl (qB14.since hx) _ rfl rfl ⟨Since.refl _, rfl⟩
      · exact does_load ad_big rfl (qB11.since hx) _ rfl rfl ⟨Since.refl _, rfl⟩
      · simp [does, doesUpon, go_sem, Since.refl]
    case refine_3 =>
      intro qv25 qw23 qh24 hv
      have hv0 : qv25 0 = _ := hv 0 (by decide)
      have hv1 : qv25 1 = _ := hv 1 (by decide)
      have hv2 : qv25 2 = _ := hv 2 (by decide)
      have hv3 : qv25 3 = _ := hv 3 (by decide)
      have hv4 : qv25 4 = _ := hv 4 (by decide)
      have hv5 : qv25 5 = _ := hv 5 (by decide)
      have hv6 : qv25 6 = _ := hv 6 (by decide)
      have hv7 : qv25 7 = _ := hv 7 (by decide)
      have hv8 : qv25 8 = _ := hv 8 (by decide)
      have hv9 : qv25 9 = _ := hv 9 (by decide)
      have hv10 : qv25 10 = _ := hv 10 (by decide)
      have hv11 : qv25 11 = _ := hv 11 (by decide)
      have hv12 : qv25 12 = _ := hv 12 (by decide)
      have hv13 : qv25 13 = _ := hv 13 (by decide)
      have hv14 : qv25 14 = _ := hv 14 (by decide)
      have hv15 : qv25 15 = _ := hv 15 (by decide)
      clear hv
      simp only [hv0, hv1, hv2, hv3, hv4, hv5, hv6, hv7, hv8, hv9, hv10, hv11, hv12, hv13, hv14, hv15]
      clear hv0 hv1 hv2 hv3 hv4 hv5 hv6 hv7 hv8 hv9 hv10 hv11 hv12 hv13 hv14 hv15
      replace qB11 := qB11.since qh24
      replace qB14 := qB14.since qh24
      replace E := E.since qh24
      replace G := G.trans qh24
      have qh24_s := qh24.size
      go_upto_region 14 with (fail)
      refine vR ?_
      refine vB ad_big qB11 rfl ?_
      refine vW (qw23.alloc (.cells #[.int .u32 0, .int .i64 0] 26)) (.pointer (some ⟨qw23.heap.size, 0, none⟩)) ?_
      have qB27 := Blk.new qw23 #[.int .u32 0, .int .i64 0] 26
      have qg28 := (Since.refl qw23).alloc (.cells #[.int .u32 0, .int .i64 0] 26)
      replace qB11 := qB11.since qg28
      replace qB14 := qB14.since qg28
      replace E := E.since qg28
      replace G := G.trans qg28
      generalize qw23.alloc (.cells #[.int .u32 0, .int .i64 0] 26) = qw26 at qB11 qB14 E G qB27 qg28 ⊢
      have qB27_l := qB27.lt
      have qg28_s := qg28.size
      refine sB #[.int .u32 h, .int .i64 p] ad_big qB27 rfl rfl (by simp [Value.oneCell']) ?_
      intro qw29 qt30 qB31
      clear qB27
      replace qB11 := qB11.touch qt30 (by omega)
      replace qB14 := qB14.touch qt30 (by omega)
      replace E := E.touch qt30 (by omega)
      replace G := since_touch G qt30 (by omega)
      have qt30_s := qt30.size
      refine vE #[.slice a len cap,U,.bool false,.int .u32 sk,.pointer (some ⟨qw1.heap.size, 0, none⟩),.pointer (some ⟨qw3.heap.size, 0, none⟩),.int .i64 e,.int .i64 k,.int .u32 c,.int .i64 k,.bool true,.int .i64 k,.bool true,.int .i64 0,.bool false,.pointer (some ⟨qw23.heap.size, 0, none⟩),U,U,U,U,.slice a len cap,.bool false,.tuple #[.int .u32 sk, .agg #[.int .u32 h, .int .i64 p], .agg #[.int .u32 j, .int .i64 q], .int .i64 e, .int .i64 k],.slice a len cap,.tuple #[.int .u32 sk, .agg #[.int .u32 h, .int .i64 p], .agg #[.int .u32 j, .int .i64 q], .int .i64 e, .int .i64 k],.int .u32 sk,.agg #[.int .u32 h, .int .i64 p],.agg #[.int .u32 j, .int .i64 q],.int .i64 e,.int .i64 k,.int .u32 sk,.agg #[.int .u32 h, .int .i64 p],.agg #[.int .u32 j, .int .i64 q],.int .i64 e,.int .i64 k,.int .u32 c,.int .u32 c,.int .u32 sk,.agg #[.int .u32 h, .int .i64 p],.agg #[.int .u32 j, .int .i64 q],.int .i64 e,.int .i64 k,.int .u32 c,.bool false,.int .i64 e,.bool false,.bool false,.int .i64 e,.bool false,.bool false,.bool false,.int .i64 k,.bool false,.bool false,.bool false,.int .i64 k,.bool false,.bool false,.bool false,.pointer (some ⟨qw1.heap.size, 1, none⟩),.int .i64 p,.bool false,.bool false,.bool false,.pointer (some ⟨qw1.heap.size, 1, none⟩),.int .i64 p,.bool false,.bool false,.bool false,.pointer (some ⟨qw3.heap.size, 1, none⟩),.int .i64 q,.bool false,.bool false,.bool false,.pointer (some ⟨qw3.heap.size, 1, none⟩),.int .i64 q,.bool false,.bool false,.tuple #[.int .i64 k, .bool true],.int .u32 sk,.agg #[.int .u32 h, .int .i64 p],.agg #[.int .u32 j, .int .i64 q],.int .i64 e,.int .u32 c,.tuple #[.int .i64 k, .bool true],.int .i64 k,.bool true,.tuple #[.int .i64 k, .bool true],.int .u32 sk,.agg #[.int .u32 h, .int .i64 p],.agg #[.int .u32 j, .int .i64 q],.int .i64 e,.int .i64 (e + 1),.int .u32 c,.tuple #[.int .i64 k, .bool true],.int .i64 k,.bool true,.bool true,.bool false,.bool false,.bool true,.bool false,.bool false,.bool false,.int .i64 k,.int .i64 k,.bool false,.bool false,.bool false,.int .i64 k,.int .i64 k,.bool false,.bool false,.tuple #[.int .i64 0, .bool false],.int .u32 sk,.agg #[.int .u32 h, .int .i64 p],.agg #[.int .u32 j, .int .i64 q],.int .i64 e,.int .i64 (e + 2),.slice a len cap,.int .i64 X,.int .i64 (X % 29),.int .i64 (e + 2 + X % 29),.int .u32 c,.tuple #[.int .i64 0, .bool false],.int .i64 0,.bool false,.agg #[.int .u32 h, .int .i64 p],U,U,U,U,U,U,U,U,U,U,U,U,U,U,U,U,U,U,U,U,U,U,U,U,U,U,U,U,U,U,U,U,U,U,U,U,U,U,U,U,U] ?_
      go_upto_region 15 with (fail)
      refine vR ?_
      refine vV (.pointer (some ⟨qw23.heap.size, 0, none⟩)) ?_
      refine vD (.int .u32 h) (qB31.cell 0) ?_
      refine vV (.int .u32 ((h + 1) % 4294967296)) ?_
      refine vV (.pointer (some ⟨qw23.heap.size, 0, none⟩)) ?_
      refine sC #[.int .u32 ((h + 1) % 4294967296), .int .i64 p] qB31 0 (.int .u32 ((h + 1) % 4294967296)) rfl ?_
      intro qw32 qt33 qB34
      clear qB31
      replace qB11 := qB11.touch qt33 (by omega)
      replace qB14 := qB14.touch qt33 (by omega)
      replace E := E.touch qt33 (by omega)
      replace G := since_touch G qt33 (by omega)
      have qt33_s := qt33.size
      refine vE #[.slice a len cap,U,.bool false,.int .u32 sk,.pointer (some ⟨qw1.heap.size, 0, none⟩),.pointer (some ⟨qw3.heap.size, 0, none⟩),.int .i64 e,.int .i64 k,.int .u32 c,.int .i64 k,.bool true,.int .i64 k,.bool true,.int .i64 0,.bool false,.pointer (some ⟨qw23.heap.size, 0, none⟩),U,U,U,U,.slice a len cap,.bool false,.tuple #[.int .u32 sk, .agg #[.int .u32 h, .int .i64 p], .agg #[.int .u32 j, .int .i64 q], .int .i64 e, .int .i64 k],.slice a len cap,.tuple #[.int .u32 sk, .agg #[.int .u32 h, .int .i64 p], .agg #[.int .u32 j, .int .i64 q], .int .i64 e, .int .i64 k],.int .u32 sk,.agg #[.int .u32 h, .int .i64 p],.agg #[.int .u32 j, .int .i64 q],.int .i64 e,.int .i64 k,.int .u32 sk,.agg #[.int .u32 h, .int .i64 p],.agg #[.int .u32 j, .int .i64 q],.int .i64 e,.int .i64 k,.int .u32 c,.int .u32 c,.int .u32 sk,.agg #[.int .u32 h, .int .i64 p],.agg #[.int .u32 j, .int .i64 q],.int .i64 e,.int .i64 k,.int .u32 c,.bool false,.int .i64 e,.bool false,.bool false,.int .i64 e,.bool false,.bool false,.bool false,.int .i64 k,.bool false,.bool false,.bool false,.int .i64 k,.bool false,.bool false,.bool false,.pointer (some ⟨qw1.heap.size, 1, none⟩),.int .i64 p,.bool false,.bool false,.bool false,.pointer (some ⟨qw1.heap.size, 1, none⟩),.int .i64 p,.bool false,.bool false,.bool false,.pointer (some ⟨qw3.heap.size, 1, none⟩),.int .i64 q,.bool false,.bool false,.bool false,.pointer (some ⟨qw3.heap.size, 1, none⟩),.int .i64 q,.bool false,.bool false,.tuple #[.int .i64 k, .bool true],.int .u32 sk,.agg #[.int .u32 h, .int .i64 p],.agg #[.int .u32 j, .int .i64 q],.int .i64 e,.int .u32 c,.tuple #[.int .i64 k, .bool true],.int .i64 k,.bool true,.tuple #[.int .i64 k, .bool true],.int .u32 sk,.agg #[.int .u32 h, .int .i64 p],.agg #[.int .u32 j, .int .i64 q],.int .i64 e,.int .i64 (e + 1),.int .u32 c,.tuple #[.int .i64 k, .bool true],.int .i64 k,.bool true,.bool true,.bool false,.bool false,.bool true,.bool false,.bool false,.bool false,.int .i64 k,.int .i64 k,.bool false,.bool false,.bool false,.int .i64 k,.int .i64 k,.bool false,.bool false,.tuple #[.int .i64 0, .bool false],.int .u32 sk,.agg #[.int .u32 h, .int .i64 p],.agg #[.int .u32 j, .int .i64 q],.int .i64 e,.int .i64 (e + 2),.slice a len cap,.int .i64 X,.int .i64 (X % 29),.int .i64 (e + 2 + X % 29),.int .u32 c,.tuple #[.int .i64 0, .bool false],.int .i64 0,.bool false,.agg #[.int .u32 h, .int .i64 p],.pointer (some ⟨qw23.heap.size, 0, none⟩),.int .u32 h,.int .u32 ((h + 1) % 4294967296),.pointer (some ⟨qw23.heap.size, 0, none⟩),U,U,U,U,U,U,U,U,U,U,U,U,U,U,U,U,U,U,U,U,U,U,U,U,U,U,U,U,U,U,U,U,U,U,U,U,U] ?_
      go_upto_region 16 with (fail)
      refine vR ?_
      refine vV (.int .u32 sk) ?_
      refine vB ad_big qB34 rfl ?_
      refine vB ad_big qB14 rfl ?_
      refine vV (.int .i64 e) ?_
      refine vV (.int .u32 c) ?_
      refine vK (hc5 _) ?_
      intro qw35 qg36
      replace qB11 := qB11.since qg36
      replace qB14 := qB14.since qg36
      replace qB34 := qB34.since qg36
      replace E := E.since qg36
      replace G := G.trans qg36
      have qg36_s := qg36.size
      refine vV (.tuple #[.int .i64 s5, .bool n5]) ?_
      refine vV (.int .i64 s5) ?_
      refine vV (.bool n5) ?_
      refine vV (.int .i64 s5) ?_
      refine vV (.bool n5) ?_
      refine vE #[.slice a len cap,U,.bool false,.int .u32 sk,.pointer (some ⟨qw1.heap.size, 0, none⟩),.pointer (some ⟨qw3.heap.size, 0, none⟩),.int .i64 e,.int .i64 k,.int .u32 c,.int .i64 k,.bool true,.int .i64 k,.bool true,.int .i64 0,.bool false,.pointer (some ⟨qw23.heap.size, 0, none⟩),.int .i64 s5,.bool n5,U,U,.slice a len cap,.bool false,.tuple #[.int .u32 sk, .agg #[.int .u32 h, .int .i64 p], .agg #[.int .u32 j, .int .i64 q], .int .i64 e, .int .i64 k],.slice a len cap,.tuple #[.int .u32 sk, .agg #[.int .u32 h, .int .i64 p], .agg #[.int .u32 j, .int .i64 q], .int .i64 e, .int .i64 k],.int .u32 sk,.agg #[.int .u32 h, .int .i64 p],.agg #[.int .u32 j, .int .i64 q],.int .i64 e,.int .i64 k,.int .u32 sk,.agg #[.int .u32 h, .int .i64 p],.agg #[.int .u32 j, .int .i64 q],.int .i64 e,.int .i64 k,.int .u32 c,.int .u32 c,.int .u32 sk,.agg #[.int .u32 h, .int .i64 p],.agg #[.int .u32 j, .int .i64 q],.int .i64 e,.int .i64 k,.int .u32 c,.bool false,.int .i64 e,.bool false,.bool false,.int .i64 e,.bool false,.bool false,.bool false,.int .i64 k,.bool false,.bool false,.bool false,.int .i64 k,.bool false,.bool false,.bool false,.pointer (some ⟨qw1.heap.size, 1, none⟩),.int .i64 p,.bool false,.bool false,.bool false,.pointer (some ⟨qw1.heap.size, 1, none⟩),.int .i64 p,.bool false,.bool false,.bool false,.pointer (some ⟨qw3.heap.size, 1, none⟩),.int .i64 q,.bool false,.bool false,.bool false,.pointer (some ⟨qw3.heap.size, 1, none⟩),.int .i64 q,.bool false,.bool false,.tuple #[.int .i64 k, .bool true],.int .u32 sk,.agg #[.int .u32 h, .int .i64 p],.agg #[.int .u32 j, .int .i64 q],.int .i64 e,.int .u32 c,.tuple #[.int .i64 k, .bool true],.int .i64 k,.bool true,.tuple #[.int .i64 k, .bool true],.int .u32 sk,.agg #[.int .u32 h, .int .i64 p],.agg #[.int .u32 j, .int .i64 q],.int .i64 e,.int .i64 (e + 1),.int .u32 c,.tuple #[.int .i64 k, .bool true],.int .i64 k,.bool true,.bool true,.bool false,.bool false,.bool true,.bool false,.bool false,.bool false,.int .i64 k,.int .i64 k,.bool false,.bool false,.bool false,.int .i64 k,.int .i64 k,.bool false,.bool false,.tuple #[.int .i64 0, .bool false],.int .u32 sk,.agg #[.int .u32 h, .int .i64 p],.agg #[.int .u32 j, .int .i64 q],.int .i64 e,.int .i64 (e + 2),.slice a len cap,.int .i64 X,.int .i64 (X % 29),.int .i64 (e + 2 + X % 29),.int .u32 c,.tuple #[.int .i64 0, .bool false],.int .i64 0,.bool false,.agg #[.int .u32 h, .int .i64 p],.pointer (some ⟨qw23.heap.size, 0, none⟩),.int .u32 h,.int .u32 ((h + 1) % 4294967296),.pointer (some ⟨qw23.heap.size, 0, none⟩),.tuple #[.int .i64 s5, .bool n5],.int .u32 sk,.agg #[.int .u32 ((h + 1) % 4294967296), .int .i64 p],.agg #[.int .u32 j, .int .i64 q],.int .i64 e,.int .u32 c,.tuple #[.int .i64 s5, .bool n5],.int .i64 s5,.bool n5,U,U,U,U,U,U,U,U,U,U,U,U,U,U,U,U,U,U,U,U,U,U,U,U,U,U,U,U] ?_
      go_upto_region 17 with (fail)
      refine vR ?_
      refine vV (.int .u32 sk) ?_
      refine vB ad_big qB34 rfl ?_
      refine vB ad_big qB14 rfl ?_
      refine vV (.int .i64 e) ?_
      refine vV (.int .u32 c) ?_
      refine vK (hc6 _) ?_
      intro qw37 qg38
      replace qB11 := qB11.since qg38
      replace qB14 := qB14.since qg38
      replace qB34 := qB34.since qg38
      replace E := E.since qg38
      replace G := G.trans qg38
      have qg38_s := qg38.size
      refine vV (.tuple #[.int .i64 s5, .bool n5]) ?_
      refine vV (.int .i64 s5) ?_
      refine vV (.bool n5) ?_
      refine vV (.int .i64 s5) ?_
      refine vV (.bool n5) ?_
      refine vE #[.slice a len cap,U,.bool false,.int .u32 sk,.pointer (some ⟨qw1.heap.size, 0, none⟩),.pointer (some ⟨qw3.heap.size, 0, none⟩),.int .i64 e,.int .i64 k,.int .u32 c,.int .i64 k,.bool true,.int .i64 k,.bool true,.int .i64 0,.bool false,.pointer (some ⟨qw23.heap.size, 0, none⟩),.int .i64 s5,.bool n5,.int .i64 s5,.bool n5,.slice a len cap,.bool false,.tuple #[.int .u32 sk, .agg #[.int .u32 h, .int .i64 p], .agg #[.int .u32 j, .int .i64 q], .int .i64 e, .int .i64 k],.slice a len cap,.tuple #[.int .u32 sk, .agg #[.int .u32 h, .int .i64 p], .agg #[.int .u32 j, .int .i64 q], .int .i64 e, .int .i64 k],.int .u32 sk,.agg #[.int .u32 h, .int .i64 p],.agg #[.int .u32 j, .int .i64 q],.int .i64 e,.int .i64 k,.int .u32 sk,.agg #[.int .u32 h, .int .i64 p],.agg #[.int .u32 j, .int .i64 q],.int .i64 e,.int .i64 k,.int .u32 c,.int .u32 c,.int .u32 sk,.agg #[.int .u32 h, .int .i64 p],.agg #[.int .u32 j, .int .i64 q],.int .i64 e,.int .i64 k,.int .u32 c,.bool false,.int .i64 e,.bool false,.bool false,.int .i64 e,.bool false,.bool false,.bool false,.int .i64 k,.bool false,.bool false,.bool false,.int .i64 k,.bool false,.bool false,.bool false,.pointer (some ⟨qw1.heap.size, 1, none⟩),.int .i64 p,.bool false,.bool false,.bool false,.pointer (some ⟨qw1.heap.size, 1, none⟩),.int .i64 p,.bool false,.bool false,.bool false,.pointer (some ⟨qw3.heap.size, 1, none⟩),.int .i64 q,.bool false,.bool false,.bool false,.pointer (some ⟨qw3.heap.size, 1, none⟩),.int .i64 q,.bool false,.bool false,.tuple #[.int .i64 k, .bool true],.int .u32 sk,.agg #[.int .u32 h, .int .i64 p],.agg #[.int .u32 j, .int .i64 q],.int .i64 e,.int .u32 c,.tuple #[.int .i64 k, .bool true],.int .i64 k,.bool true,.tuple #[.int .i64 k, .bool true],.int .u32 sk,.agg #[.int .u32 h, .int .i64 p],.agg #[.int .u32 j, .int .i64 q],.int .i64 e,.int .i64 (e + 1),.int .u32 c,.tuple #[.int .i64 k, .bool true],.int .i64 k,.bool true,.bool true,.bool false,.bool false,.bool true,.bool false,.bool false,.bool false,.int .i64 k,.int .i64 k,.bool false,.bool false,.bool false,.int .i64 k,.int .i64 k,.bool false,.bool false,.tuple #[.int .i64 0, .bool false],.int .u32 sk,.agg #[.int .u32 h, .int .i64 p],.agg #[.int .u32 j, .int .i64 q],.int .i64 e,.int .i64 (e + 2),.slice a len cap,.int .i64 X,.int .i64 (X % 29),.int .i64 (e + 2 + X % 29),.int .u32 c,.tuple #[.int .i64 0, .bool false],.int .i64 0,.bool false,.agg #[.int .u32 h, .int .i64 p],.pointer (some ⟨qw23.heap.size, 0, none⟩),.int .u32 h,.int .u32 ((h + 1) % 4294967296),.pointer (some ⟨qw23.heap.size, 0, none⟩),.tuple #[.int .i64 s5, .bool n5],.int .u32 sk,.agg #[.int .u32 ((h + 1) % 4294967296), .int .i64 p],.agg #[.int .u32 j, .int .i64 q],.int .i64 e,.int .u32 c,.tuple #[.int .i64 s5, .bool n5],.int .i64 s5,.bool n5,.tuple #[.int .i64 s5, .bool n5],.int .u32 sk,.agg #[.int .u32 ((h + 1) % 4294967296), .int .i64 p],.agg #[.int .u32 j, .int .i64 q],.int .i64 e,.int .u32 c,.tuple #[.int .i64 s5, .bool n5],.int .i64 s5,.bool n5,U,U,U,U,U,U,U,U,U,U,U,U,U,U,U,U,U,U,U] ?_
      go_upto_region 18 with (fail)
      refine vR ?_
      refine vV (.bool false) ?_
      refine vV (.bool true) ?_
      refine vV (.bool true) ?_
      refine vS ?_
      refine vS ?_
      refine vS ?_
      refine vV (.bool true) ?_
      refine vV (.bool true) ?_
      refine vV (.bool n5) ?_
      refine vV (.bool n5) ?_
      refine vV (.bool true) ?_ (hrun := by simp [execOp, go_sem])
      refine vV (.bool true) ?_
      refine vV (.bool true) ?_
      refine vV (.int .i64 k) ?_
      refine vC (hmo _ E) ?_
      rintro _ _ ⟨rfl, rfl⟩
      refine ⟨_, rfl, ?_⟩
      refine vC (hms _ E) ?_
      rintro _ _ ⟨rfl, rfl⟩
      refine ⟨_, rfl, ?_⟩
      refine vV (.int .i64 k) ?_
      refine vV (.bool true) ?_ (hrun := by simp [execOp, go_sem])
      refine vV (.bool true) ?_
      refine vV (.bool true) ?_
      refine vE #[.slice a len cap,U,.bool true,.int .u32 sk,.pointer (some ⟨qw1.heap.size, 0, none⟩),.pointer (some ⟨qw3.heap.size, 0, none⟩),.int .i64 e,.int .i64 k,.int .u32 c,.int .i64 k,.bool true,.int .i64 k,.bool true,.int .i64 0,.bool false,.pointer (some ⟨qw23.heap.size, 0, none⟩),.int .i64 s5,.bool n5,.int .i64 s5,.bool n5,.slice a len cap,.bool false,.tuple #[.int .u32 sk, .agg #[.int .u32 h, .int .i64 p], .agg #[.int .u32 j, .int .i64 q], .int .i64 e, .int .i64 k],.slice a len cap,.tuple #[.int .u32 sk, .agg #[.int .u32 h, .int .i64 p], .agg #[.int .u32 j, .int .i64 q], .int .i64 e, .int .i64 k],.int .u32 sk,.agg #[.int .u32 h, .int .i64 p],.agg #[.int .u32 j, .int .i64 q],.int .i64 e,.int .i64 k,.int .u32 sk,.agg #[.int .u32 h, .int .i64 p],.agg #[.int .u32 j, .int .i64 q],.int .i64 e,.int .i64 k,.int .u32 c,.int .u32 c,.int .u32 sk,.agg #[.int .u32 h, .int .i64 p],.agg #[.int .u32 j, .int .i64 q],.int .i64 e,.int .i64 k,.int .u32 c,.bool false,.int .i64 e,.bool false,.bool false,.int .i64 e,.bool false,.bool false,.bool false,.int .i64 k,.bool false,.bool false,.bool false,.int .i64 k,.bool false,.bool false,.bool false,.pointer (some ⟨qw1.heap.size, 1, none⟩),.int .i64 p,.bool false,.bool false,.bool false,.pointer (some ⟨qw1.heap.size, 1, none⟩),.int .i64 p,.bool false,.bool false,.bool false,.pointer (some ⟨qw3.heap.size, 1, none⟩),.int .i64 q,.bool false,.bool false,.bool false,.pointer (some ⟨qw3.heap.size, 1, none⟩),.int .i64 q,.bool false,.bool false,.tuple #[.int .i64 k, .bool true],.int .u32 sk,.agg #[.int .u32 h, .int .i64 p],.agg #[.int .u32 j, .int .i64 q],.int .i64 e,.int .u32 c,.tuple #[.int .i64 k, .bool true],.int .i64 k,.bool true,.tuple #[.int .i64 k, .bool true],.int .u32 sk,.agg #[.int .u32 h, .int .i64 p],.agg #[.int .u32 j, .int .i64 q],.int .i64 e,.int .i64 (e + 1),.int .u32 c,.tuple #[.int .i64 k, .bool true],.int .i64 k,.bool true,.bool true,.bool false,.bool false,.bool true,.bool false,.bool false,.bool false,.int .i64 k,.int .i64 k,.bool false,.bool false,.bool false,.int .i64 k,.int .i64 k,.bool false,.bool false,.tuple #[.int .i64 0, .bool false],.int .u32 sk,.agg #[.int .u32 h, .int .i64 p],.agg #[.int .u32 j, .int .i64 q],.int .i64 e,.int .i64 (e + 2),.slice a len cap,.int .i64 X,.int .i64 (X % 29),.int .i64 (e + 2 + X % 29),.int .u32 c,.tuple #[.int .i64 0, .bool false],.int .i64 0,.bool false,.agg #[.int .u32 h, .int .i64 p],.pointer (some ⟨qw23.heap.size, 0, none⟩),.int .u32 h,.int .u32 ((h + 1) % 4294967296),.pointer (some ⟨qw23.heap.size, 0, none⟩),.tuple #[.int .i64 s5, .bool n5],.int .u32 sk,.agg #[.int .u32 ((h + 1) % 4294967296), .int .i64 p],.agg #[.int .u32 j, .int .i64 q],.int .i64 e,.int .u32 c,.tuple #[.int .i64 s5, .bool n5],.int .i64 s5,.bool n5,.tuple #[.int .i64 s5, .bool n5],.int .u32 sk,.agg #[.int .u32 ((h + 1) % 4294967296), .int .i64 p],.agg #[.int .u32 j, .int .i64 q],.int .i64 e,.int .u32 c,.tuple #[.int .i64 s5, .bool n5],.int .i64 s5,.bool n5,.bool false,.bool true,.bool true,U,U,U,.bool true,.bool true,.bool n5,.bool n5,.bool true,.bool true,.bool true,.int .i64 k,.int .i64 (mssOf k),.int .i64 k,.int .i64 k,.bool true,.bool true] ?_
      go_wp2_with (fail)
      go_ret
      exact ⟨rfl, G⟩
end Go.Proofs.YtjilpicpfddbfaaDoor
