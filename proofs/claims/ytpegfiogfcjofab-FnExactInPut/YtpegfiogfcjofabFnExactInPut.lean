/-
  Proved: at every buffer of bytes that came, every place and every text impl.InPut answers as spec.InPut, writes into no argument, and its answer owns its memory (the law FnExactInPut returns true, and its arguments read as before); no condition (of a buffer of more than 1048576 bytes and parts together, or a longer text, the law asks nothing).
-/
import Derived.Test.YtpegfiogfcjofabRows
import Derived.Test.YtpegfiogfcjofabOpenIn
import Derived.Test.YtpegfiogfcjofabDrawn
import Derived.Test.YtpegfiogfcjofabInPutS
import Derived.Test.YtpegfiogfcjofabInPutI
import Derived.WalkKit
import Derived.ProofKit
import Derived.OpenShut
import Derived.ShutString
import Derived.ChangeOld
import Derived.Below
import Derived.Carry
namespace Go.Proofs.Ytpegfiogfcjofab.fnExactInPut
open Go.ChangeShapes Go.WideShapes Go.ChangeAt Go.RowKit
open Go.ChangeMaps (open_string shut_string)
set_option linter.unusedVariables false

theorem own : ownKnob Try.prog.godebug = none := by kernel_rfl
theorem laidOut : laidOutB Try.prog = true := by kernel_rfl

theorem touch_grown {w w' : World} {g n c : Nat} (h : w.grownBy w' (Value.slice (some ⟨g, 0, none⟩) n c).ownBlock) : Touch g w w' := ⟨h.os, h.tape, h.output, h.size, fun k hk hne => h.block k hk (by simp [Value.ownBlock]; omega)⟩

theorem pL_len (q : Int) (d : ByteArray) (r : Int) (ps : List (Int × ByteArray)) (at' : Int) (s : ByteArray) (hn : ps.length ≤ 1048576) : (pL q d r ps at' s).length ≤ 1048576 := by
  unfold pL
  split
  · rename_i hp
    obtain ⟨hk, _⟩ := hp
    obtain ⟨⟨_, hr2⟩, hr3, hkb⟩ := inOk_room hk
    have h1 := gL_len q (pF q ps at' s) (pJ q ps at' s (r - d.size))
    have h2 := okB_many _ _ _ (pJ_ok q ps at' s (r - d.size) hkb) (by omega)
    omega
  · exact hn

theorem specInPutR (q : Int) (d : ByteArray) (r : Int) (a : Option Addr) (n cap : Nat) (ps : List (Int × ByteArray)) (seq : Int) (s : ByteArray) (at' : Int) (gd : Good q d r n ps) (hseq : IsWord seq) (ha : IsDist q seq at') (hss : s.size ≤ 1048576) (hnil : a = none → cap = 0) (w : World) (R : Rd shP w a n ps) :
    Calls Try.prog 15 #[inVal q d (.slice a n cap) r, .int .u32 seq, .string s] w fun e w' => ∃ a' m c, e = .returned (.tuple #[inVal (pQ q d r ps at' s) (pD q d r ps at' s) (.slice a' m c) r, .int .i64 (pM q d r ps at' s)]) ∧ Rd shP w' a' m (pL q d r ps at' s) ∧ (∀ x, a' = some x → w.heap.size ≤ x.block ∧ x.block < w'.heap.size) ∧ Since w w' :=
  (specInPut q d r a n cap ps seq s at' gd hseq ha hss hnil w R).mono fun e w' ⟨a', m, c, h1, T, h2, _, k⟩ => ⟨a', m, c, h1, T, h2, k⟩

theorem implInPutR (q : Int) (d : ByteArray) (r : Int) (B g n cap : Nat) (ps : List (Int × ByteArray)) (seq : Int) (s : ByteArray) (at' : Int) (gd : Good q d r n ps) (hseq : IsWord seq) (ha : IsDist q seq at') (hss : s.size ≤ 1048576) (w : World) (T : Held shP w B g n cap ps) :
    Calls Try.prog 16 #[inVal q d (.slice (some ⟨g, 0, none⟩) n cap) r, .int .u32 seq, .string s] w fun e w' => ∃ g m c, e = .returned (.tuple #[inVal (pQ q d r ps at' s) (pD q d r ps at' s) (.slice (some ⟨g, 0, none⟩) m c) r, .int .i64 (pM q d r ps at' s)]) ∧ Held shP w' w.heap.size g m c (pL q d r ps at' s) ∧ Since w w' :=
  implInPut q d r _ n cap ps seq s at' gd hseq ha hss w (fun x hx => by cases hx; exact T.lt) T.reads

set_option maxHeartbeats 4000000 in
theorem walk (q0 : Int) (d0 : ByteArray) (r0 : Int) (a0 : Option Addr) (n0 c0 : Nat) (p0 : List (Int × ByteArray)) (b1 : Int) (b2 : ByteArray) (w : World) (x0 : (Lit.int .u32 q0).wf = true) (z0 : d0.size ≤ maxLen) (y0 : (Lit.int .i64 r0).wf = true) (R0 : Rd shP w a0 n0 p0) (u0 : ∀ i, i < n0 → (Lit.int .u32 (pAt p0 i).1).wf = true ∧ (pAt p0 i).2.size ≤ maxLen) (x1 : (Lit.int .u32 b1).wf = true) (z2 : b2.size ≤ maxLen) :
    Calls Try.prog 5 #[inVal q0 d0 (.slice a0 n0 c0) r0, .int .u32 b1, .string b2] w fun e w' => e = .returned (.bool true) ∧ Below w.heap.size w w' := by
  have hz0 : ∀ i, i < n0 → (pAt p0 i).2.size ≤ maxLen := fun i hi => (u0 i hi).2
  have hsz := szIn q0 d0 r0 a0 n0 c0 p0 1048576 (by omega) (by omega) _ (R0.since ((Since.refl w).alloc (.cells #[.int .u32 q0, .string d0, .slice a0 n0 c0, .int .i64 r0] 25))) hz0 z0
  have G := (Since.refl w).alloc (.cells #[.int .u32 q0, .string d0, .slice a0 n0 c0, .int .i64 r0] 25)
  have A := Blk.new w #[.int .u32 q0, .string d0, .slice a0 n0 c0, .int .i64 r0] 25
  unfold inVal at hsz ⊢
  unfold maxLen at z2
  by_cases hb2 : 1048576 < (b2.size : Int)
  · clear hsz hz0
    go_enter Try.func5, Try.ntmps5
    go_wp2
    go_ret
    exact ⟨rfl, G⟩
  have hb2' : b2.size ≤ 1048576 := by omega
  clear hb2
  go_enter Try.func5, Try.ntmps5
  go_wp2_with (go_at_call 8; refine hsz.mono ?_; rintro _ w1 ⟨⟨rr, rfl, hb⟩, k1⟩; replace hb : Hid _ := hb; have z_k1 := k1.le; try simp only [World.size_alloc] at z_k1; replace G := G.trans k1; replace A := A.since k1; have cA0 : World.cell? _ _ = some (.int .u32 q0) := A.cell 0; have cA1 : World.cell? _ _ = some (.string d0) := A.cell 1; have cA2 : World.cell? _ _ = some (.slice a0 n0 c0) := A.cell 2; have cA3 : World.cell? _ _ = some (.int .i64 r0) := A.cell 3)
  · go_ret
    exact ⟨rfl, G⟩
  have hb' := hb.out (by omega)
  have hn : n0 ≤ 1048576 := by omega
  have good : Good q0 d0 r0 n0 p0 := ⟨isWord_wf x0, by omega, by have := bounds_i64 y0; unfold IsInt; omega, hn, fun i hi => ⟨isWord_wf (u0 i hi).1, by have := hb'.2.2 i hi; omega⟩⟩
  clear hb hb' hsz hz0
  obtain ⟨at', ha⟩ := isDist_ex q0 b1
  have hb1 := isWord_wf x1
  obtain ⟨QN, hQN⟩ : ∃ r, Hid (pQ q0 d0 r0 p0 at' b2 = r) := ⟨_, rfl⟩
  obtain ⟨LL, hLL⟩ : ∃ r, Hid (pL q0 d0 r0 p0 at' b2 = r) := ⟨_, rfl⟩
  obtain ⟨DN, hDN⟩ : ∃ r, Hid (pD q0 d0 r0 p0 at' b2 = r) := ⟨_, rfl⟩
  obtain ⟨SN, hSN⟩ : ∃ r, Hid (pM q0 d0 r0 p0 at' b2 = r) := ⟨_, rfl⟩
  have hrl : LL.length ≤ 1048576 := by rw [← hLL.out]; exact pL_len q0 d0 r0 p0 at' b2 (by rw [R0.len]; exact hn)
  refine (toIn q0 d0 r0 a0 n0 c0 p0 hn _ (R0.since G)).mono ?_
  rintro _ w2 ⟨g2, rfl, T2, k2⟩
  unfold inVal
  have z_k2 := k2.le
  try simp only [World.size_alloc] at z_k2
  replace G := G.trans k2
  replace A := A.since k2
  have lo_T2 := T2.low'
  try simp only [World.size_alloc] at lo_T2
  have hi_T2 := T2.lt
  try simp only [World.size_alloc] at hi_T2
  replace cA0 : World.cell? _ _ = some (.int .u32 q0) := A.cell 0
  replace cA1 : World.cell? _ _ = some (.string d0) := A.cell 1
  replace cA2 : World.cell? _ _ = some (.slice a0 n0 c0) := A.cell 2
  replace cA3 : World.cell? _ _ = some (.int .i64 r0) := A.cell 3
  go_wp2_with (fail)
  refine (specInPutR q0 d0 r0 _ n0 n0 p0 b1 b2 at' good hb1 ha hb2' (by simp) _ T2.reads).mono ?_
  rintro _ w3 ⟨a3, m3, c3, rfl, T3, lo_T3, k3⟩
  rw [hLL.out] at T3
  rw [hQN.out, hDN.out, hSN.out]
  unfold inVal
  have z_k3 := k3.le
  try simp only [World.size_alloc] at z_k3
  replace G := G.trans k3
  replace A := A.since k3
  replace T2 := T2.since k3
  try simp only [World.size_alloc] at lo_T3
  replace cA0 : World.cell? _ _ = some (.int .u32 q0) := A.cell 0
  replace cA1 : World.cell? _ _ = some (.string d0) := A.cell 1
  replace cA2 : World.cell? _ _ = some (.slice a0 n0 c0) := A.cell 2
  replace cA3 : World.cell? _ _ = some (.int .i64 r0) := A.cell 3
  have hm3 : m3 ≤ 1048576 := by rw [← T3.len]; exact hrl
  have W := Blk.new w3 #[.int .u32 QN, .string DN, .slice a3 m3 c3, .int .i64 r0] 30
  have k_W := (Since.refl w3).alloc (.cells #[.int .u32 QN, .string DN, .slice a3 m3 c3, .int .i64 r0] 30)
  have z_k_W := k_W.le
  try simp only [World.size_alloc] at z_k_W
  replace G := G.trans k_W
  replace A := A.since k_W
  replace T2 := T2.since k_W
  replace T3 := T3.since k_W
  replace cA0 : World.cell? _ _ = some (.int .u32 q0) := A.cell 0
  replace cA1 : World.cell? _ _ = some (.string d0) := A.cell 1
  replace cA2 : World.cell? _ _ = some (.slice a0 n0 c0) := A.cell 2
  replace cA3 : World.cell? _ _ = some (.int .i64 r0) := A.cell 3
  go_wp2_with (fail)
  refine (toIn q0 d0 r0 a0 n0 c0 p0 hn _ (R0.since G)).mono ?_
  rintro _ w4 ⟨g4, rfl, T4, k4⟩
  unfold inVal
  have z_k4 := k4.le
  try simp only [World.size_alloc] at z_k4
  replace G := G.trans k4
  replace A := A.since k4
  replace W := W.since k4
  replace T2 := T2.since k4
  replace T3 := T3.since k4
  have lo_T4 := T4.low'
  try simp only [World.size_alloc] at lo_T4
  have hi_T4 := T4.lt
  try simp only [World.size_alloc] at hi_T4
  have X := Blk.new w4 #[.int .u32 q0, .string d0, .slice (some ⟨g4, 0, none⟩) n0 n0, .int .i64 r0] 30
  have k_X := (Since.refl w4).alloc (.cells #[.int .u32 q0, .string d0, .slice (some ⟨g4, 0, none⟩) n0 n0, .int .i64 r0] 30)
  have z_k_X := k_X.le
  try simp only [World.size_alloc] at z_k_X
  replace G := G.trans k_X
  replace A := A.since k_X
  replace W := W.since k_X
  replace T2 := T2.since k_X
  replace T4 := T4.since k_X
  replace T3 := T3.since k_X
  replace cA0 : World.cell? _ _ = some (.int .u32 q0) := A.cell 0
  replace cA1 : World.cell? _ _ = some (.string d0) := A.cell 1
  replace cA2 : World.cell? _ _ = some (.slice a0 n0 c0) := A.cell 2
  replace cA3 : World.cell? _ _ = some (.int .i64 r0) := A.cell 3
  have cX0 : World.cell? _ _ = some (.int .u32 q0) := X.cell 0
  have cX1 : World.cell? _ _ = some (.string d0) := X.cell 1
  have cX2 : World.cell? _ _ = some (.slice (some ⟨g4, 0, none⟩) n0 n0) := X.cell 2
  have cX3 : World.cell? _ _ = some (.int .i64 r0) := X.cell 3
  go_wp2_with (fail)
  refine (implInPutR q0 d0 r0 _ _ n0 n0 p0 b1 b2 at' good hb1 ha hb2' _ T4).mono ?_
  rintro _ w5 ⟨g5, m5, c5, rfl, T5, k5⟩
  rw [hLL.out] at T5
  rw [hQN.out, hDN.out, hSN.out]
  unfold inVal
  obtain rfl : m5 = m3 := T5.1.symm.trans T3.len
  have z_k5 := k5.le
  try simp only [World.size_alloc] at z_k5
  replace G := G.trans k5
  replace A := A.since k5
  replace W := W.since k5
  replace X := X.since k5
  replace T2 := T2.since k5
  replace T4 := T4.since k5
  replace T3 := T3.since k5
  have lo_T5 := T5.low'
  try simp only [World.size_alloc] at lo_T5
  have hi_T5 := T5.lt
  try simp only [World.size_alloc] at hi_T5
  have Y := Blk.new w5 #[.int .u32 QN, .string DN, .slice (some ⟨g5, 0, none⟩) m5 c5, .int .i64 r0] 30
  have k_Y := (Since.refl w5).alloc (.cells #[.int .u32 QN, .string DN, .slice (some ⟨g5, 0, none⟩) m5 c5, .int .i64 r0] 30)
  have z_k_Y := k_Y.le
  try simp only [World.size_alloc] at z_k_Y
  replace G := G.trans k_Y
  replace A := A.since k_Y
  replace W := W.since k_Y
  replace X := X.since k_Y
  replace T2 := T2.since k_Y
  replace T4 := T4.since k_Y
  replace T5 := T5.since k_Y
  replace T3 := T3.since k_Y
  replace cA0 : World.cell? _ _ = some (.int .u32 q0) := A.cell 0
  replace cA1 : World.cell? _ _ = some (.string d0) := A.cell 1
  replace cA2 : World.cell? _ _ = some (.slice a0 n0 c0) := A.cell 2
  replace cA3 : World.cell? _ _ = some (.int .i64 r0) := A.cell 3
  replace cX0 : World.cell? _ _ = some (.int .u32 q0) := X.cell 0
  replace cX1 : World.cell? _ _ = some (.string d0) := X.cell 1
  replace cX2 : World.cell? _ _ = some (.slice (some ⟨g4, 0, none⟩) n0 n0) := X.cell 2
  replace cX3 : World.cell? _ _ = some (.int .i64 r0) := X.cell 3
  have cW0 : World.cell? _ _ = some (.int .u32 QN) := W.cell 0
  have cW1 : World.cell? _ _ = some (.string DN) := W.cell 1
  have cW2 : World.cell? _ _ = some (.slice a3 m5 c3) := W.cell 2
  have cW3 : World.cell? _ _ = some (.int .i64 r0) := W.cell 3
  have cY0 : World.cell? _ _ = some (.int .u32 QN) := Y.cell 0
  have cY1 : World.cell? _ _ = some (.string DN) := Y.cell 1
  have cY2 : World.cell? _ _ = some (.slice (some ⟨g5, 0, none⟩) m5 c5) := Y.cell 2
  have cY3 : World.cell? _ _ = some (.int .i64 r0) := Y.cell 3
  go_wp2_with (fail)
  refine (eqIn QN DN r0 _ _ m5 c5 c3 LL hm3 _ T5.reads T3).mono ?_
  rintro _ w6 ⟨rfl, k6⟩
  have z_k6 := k6.le
  try simp only [World.size_alloc] at z_k6
  replace G := G.trans k6
  replace A := A.since k6
  replace W := W.since k6
  replace X := X.since k6
  replace Y := Y.since k6
  replace T2 := T2.since k6
  replace T4 := T4.since k6
  replace T5 := T5.since k6
  replace T3 := T3.since k6
  replace cA0 : World.cell? _ _ = some (.int .u32 q0) := A.cell 0
  replace cA1 : World.cell? _ _ = some (.string d0) := A.cell 1
  replace cA2 : World.cell? _ _ = some (.slice a0 n0 c0) := A.cell 2
  replace cA3 : World.cell? _ _ = some (.int .i64 r0) := A.cell 3
  replace cX0 : World.cell? _ _ = some (.int .u32 q0) := X.cell 0
  replace cX1 : World.cell? _ _ = some (.string d0) := X.cell 1
  replace cX2 : World.cell? _ _ = some (.slice (some ⟨g4, 0, none⟩) n0 n0) := X.cell 2
  replace cX3 : World.cell? _ _ = some (.int .i64 r0) := X.cell 3
  replace cW0 : World.cell? _ _ = some (.int .u32 QN) := W.cell 0
  replace cW1 : World.cell? _ _ = some (.string DN) := W.cell 1
  replace cW2 : World.cell? _ _ = some (.slice a3 m5 c3) := W.cell 2
  replace cW3 : World.cell? _ _ = some (.int .i64 r0) := W.cell 3
  replace cY0 : World.cell? _ _ = some (.int .u32 QN) := Y.cell 0
  replace cY1 : World.cell? _ _ = some (.string DN) := Y.cell 1
  replace cY2 : World.cell? _ _ = some (.slice (some ⟨g5, 0, none⟩) m5 c5) := Y.cell 2
  replace cY3 : World.cell? _ _ = some (.int .i64 r0) := Y.cell 3
  go_wp2_with (fail)
  refine wp_region_each (wb := w6) (fun i x v => match i with
      | 0 => v = .agg #[.int .u32 q0, .string d0, .slice (some ⟨g4, 0, none⟩) n0 n0, .int .i64 r0]
      | 1 => v = .agg #[.int .u32 q0, .string d0, .slice a0 n0 c0, .int .i64 r0]
      | 2 => ∃ g, v = .agg #[.int .u32 q0, .string d0, .slice (some ⟨g, 0, none⟩) n0 n0, .int .i64 r0] ∧ Held shP x 0 g n0 n0 p0
      | 3 => v = .bool true
      | 4 => v = .bool false
      | _ => True) (fun v => { tmps := #[Value.agg #[Value.int IntKind.u32 q0, Value.string d0, Value.slice a0 n0 c0, Value.int IntKind.i64 r0], Value.int IntKind.u32 b1, Value.string b2, Value.pointer (some ⟨w.heap.size, 0, none⟩), undef, undef, Value.bool false, Value.int IntKind.i64 rr, Value.pointer (some ⟨w3.heap.size, 0, none⟩), Value.int IntKind.i64 SN, Value.pointer (some ⟨w4.heap.size, 0, none⟩), Value.pointer (some ⟨w5.heap.size, 0, none⟩), Value.int IntKind.i64 SN, undef, undef, undef, undef, undef, Value.string b2, Value.int IntKind.i64 (b2.size : Int), Value.bool (decide (1048576 < (b2.size : Int))), Value.agg #[Value.int IntKind.u32 q0, Value.string d0, Value.slice a0 n0 c0, Value.int IntKind.i64 r0], Value.int IntKind.i64 1048576, Value.int IntKind.i64 rr, Value.int IntKind.i64 rr, Value.bool (decide (rr < 0)), Value.tuple #[Value.agg #[Value.int IntKind.u32 QN, Value.string DN, Value.slice a3 m5 c3, Value.int IntKind.i64 r0], Value.int IntKind.i64 SN], Value.agg #[Value.int IntKind.u32 q0, Value.string d0, Value.slice a0 n0 c0, Value.int IntKind.i64 r0], Value.agg #[Value.int IntKind.u32 q0, Value.string d0, Value.slice (some ⟨g2, 0, none⟩) n0 n0, Value.int IntKind.i64 r0], Value.int IntKind.u32 b1, Value.string b2, Value.tuple #[Value.agg #[Value.int IntKind.u32 QN, Value.string DN, Value.slice a3 m5 c3, Value.int IntKind.i64 r0], Value.int IntKind.i64 SN], Value.agg #[Value.int IntKind.u32 QN, Value.string DN, Value.slice a3 m5 c3, Value.int IntKind.i64 r0], Value.int IntKind.i64 SN, Value.agg #[Value.int IntKind.u32 q0, Value.string d0, Value.slice a0 n0 c0, Value.int IntKind.i64 r0], Value.agg #[Value.int IntKind.u32 q0, Value.string d0, Value.slice (some ⟨g4, 0, none⟩) n0 n0, Value.int IntKind.i64 r0], Value.tuple #[Value.agg #[Value.int IntKind.u32 QN, Value.string DN, Value.slice (some ⟨g5, 0, none⟩) m5 c5, Value.int IntKind.i64 r0], Value.int IntKind.i64 SN], Value.agg #[Value.int IntKind.u32 q0, Value.string d0, Value.slice (some ⟨g4, 0, none⟩) n0 n0, Value.int IntKind.i64 r0], Value.int IntKind.u32 b1, Value.string b2, Value.tuple #[Value.agg #[Value.int IntKind.u32 QN, Value.string DN, Value.slice (some ⟨g5, 0, none⟩) m5 c5, Value.int IntKind.i64 r0], Value.int IntKind.i64 SN], Value.agg #[Value.int IntKind.u32 QN, Value.string DN, Value.slice (some ⟨g5, 0, none⟩) m5 c5, Value.int IntKind.i64 r0], Value.int IntKind.i64 SN, Value.agg #[Value.int IntKind.u32 QN, Value.string DN, Value.slice (some ⟨g5, 0, none⟩) m5 c5, Value.int IntKind.i64 r0], Value.agg #[Value.int IntKind.u32 QN, Value.string DN, Value.slice a3 m5 c3, Value.int IntKind.i64 r0], Value.bool true, Value.bool false, Value.bool false, Value.int IntKind.i64 SN, Value.int IntKind.i64 SN, Value.bool false, Value.bool false, v 0, v 1, v 2, v 3, v 4, undef, undef, undef, undef, undef, undef, undef, undef, undef, undef, undef, undef, undef, undef, undef, undef, undef, undef, undef, undef, undef, undef, undef, undef, undef, undef, undef, undef, undef, undef, undef, undef, undef, undef, undef, undef, undef, undef, undef, undef, undef, undef, undef, undef, undef, undef, undef, undef, undef, undef, undef, undef], defers := [] }) (by kernel_rfl) (by kernel_rfl) (Since.refl _) ?_ (fun vals => by kernel_rfl) ?_ ?_
  case refine_1 =>
    intro j x x' v h1 h2
    match j, h2 with
    | 2, h2 =>
      obtain ⟨g, e, T⟩ := h2
      exact ⟨g, e, T.since h1⟩
    | 0, h2 | 1, h2 | 3, h2 | 4, h2 => exact h2
    | n + 5, _ => trivial
  case refine_2 =>
    repeat (first | exact eachDoes_nil | refine eachDoes_cons ?_ ?_)
    all_goals intro vals x hx hv
    all_goals simp [Region.binds] at hv
    · simp [does, doesUpon, go_sem, hv, Since.refl]
    · obtain ⟨h0, g, h2, T⟩ := hv
      simp [does, doesUpon, go_sem, h0, h2]
      refine (eqIn q0 d0 r0 _ _ n0 n0 n0 p0 hn _ (T4.since hx).reads T.reads).mono ?_
      rintro _ x' ⟨rfl, h1⟩
      simp [h1]
    · simp [does, doesUpon, go_sem, hv]
      refine (toIn q0 d0 r0 a0 n0 c0 p0 hn _ (R0.since (G.trans hx))).mono ?_
      rintro _ x' ⟨g, rfl, T, h1⟩
      exact ⟨_, rfl, h1, g, rfl, T.raise (Nat.zero_le _)⟩
    · have e0 := (A.since hx).cell 0
      have e1 := (A.since hx).cell 1
      have e2 := (A.since hx).cell 2
      have e3 := (A.since hx).cell 3
      simp at e0 e1 e2 e3
      simp [does, doesUpon, go_sem, e0, e1, e2, e3, Since.refl]
    · have e0 := (X.since hx).cell 0
      have e1 := (X.since hx).cell 1
      have e2 := (X.since hx).cell 2
      have e3 := (X.since hx).cell 3
      simp at e0 e1 e2 e3
      simp [does, doesUpon, go_sem, e0, e1, e2, e3, Since.refl]
  intro vals w7 k7 hv
  have h0 : vals 0 = .agg #[.int .u32 q0, .string d0, .slice (some ⟨g4, 0, none⟩) n0 n0, .int .i64 r0] := hv 0 (by decide)
  have h1 : vals 1 = .agg #[.int .u32 q0, .string d0, .slice a0 n0 c0, .int .i64 r0] := hv 1 (by decide)
  have h3 : vals 3 = .bool true := hv 3 (by decide)
  have h4 : vals 4 = .bool false := hv 4 (by decide)
  have h2 : ∃ g, vals 2 = .agg #[.int .u32 q0, .string d0, .slice (some ⟨g, 0, none⟩) n0 n0, .int .i64 r0] ∧ Held shP w7 0 g n0 n0 p0 := hv 2 (by decide)
  obtain ⟨g9, h2, _⟩ := h2
  clear hv
  simp only [h0, h1, h2, h3, h4]
  clear h0 h1 h2 h3 h4
  have z_k7 := k7.le
  try simp only [World.size_alloc] at z_k7
  replace G := G.trans k7
  replace A := A.since k7
  replace W := W.since k7
  replace X := X.since k7
  replace Y := Y.since k7
  replace T2 := T2.since k7
  replace T4 := T4.since k7
  replace T5 := T5.since k7
  replace T3 := T3.since k7
  replace cA0 : World.cell? _ _ = some (.int .u32 q0) := A.cell 0
  replace cA1 : World.cell? _ _ = some (.string d0) := A.cell 1
  replace cA2 : World.cell? _ _ = some (.slice a0 n0 c0) := A.cell 2
  replace cA3 : World.cell? _ _ = some (.int .i64 r0) := A.cell 3
  replace cX0 : World.cell? _ _ = some (.int .u32 q0) := X.cell 0
  replace cX1 : World.cell? _ _ = some (.string d0) := X.cell 1
  replace cX2 : World.cell? _ _ = some (.slice (some ⟨g4, 0, none⟩) n0 n0) := X.cell 2
  replace cX3 : World.cell? _ _ = some (.int .i64 r0) := X.cell 3
  replace cW0 : World.cell? _ _ = some (.int .u32 QN) := W.cell 0
  replace cW1 : World.cell? _ _ = some (.string DN) := W.cell 1
  replace cW2 : World.cell? _ _ = some (.slice a3 m5 c3) := W.cell 2
  replace cW3 : World.cell? _ _ = some (.int .i64 r0) := W.cell 3
  replace cY0 : World.cell? _ _ = some (.int .u32 QN) := Y.cell 0
  replace cY1 : World.cell? _ _ = some (.string DN) := Y.cell 1
  replace cY2 : World.cell? _ _ = some (.slice (some ⟨g5, 0, none⟩) m5 c5) := Y.cell 2
  replace cY3 : World.cell? _ _ = some (.int .i64 r0) := Y.cell 3
  go_wp2_with (fail)
  refine (markIn q0 d0 r0 _ n0 (.slice (some ⟨g4, 0, none⟩) n0 n0) p0 1 (by omega) (by omega) _ T4).mono ?_
  rintro _ w8 ⟨rfl, t8, ms, hms, U4⟩
  replace t8 : Touch g4 _ _ := touch_grown t8
  replace T4 : Held shP w8 _ g4 n0 n0 ms := U4
  clear U4
  have z_t8 := t8.le
  try simp only [World.size_alloc] at z_t8
  replace G := G.touch t8 (by omega)
  replace A := A.touch t8 (by omega)
  replace W := W.touch t8 (by omega)
  replace X := X.touch t8 (by omega)
  replace Y := Y.touch t8 (by omega)
  replace T3 := T3.touch t8 (fun x e => by have := lo_T3 x e; omega)
  replace T2 := T2.touch t8 (by omega)
  replace T5 := T5.touch t8 (by omega)
  replace cA0 : World.cell? _ _ = some (.int .u32 q0) := A.cell 0
  replace cA1 : World.cell? _ _ = some (.string d0) := A.cell 1
  replace cA2 : World.cell? _ _ = some (.slice a0 n0 c0) := A.cell 2
  replace cA3 : World.cell? _ _ = some (.int .i64 r0) := A.cell 3
  replace cX0 : World.cell? _ _ = some (.int .u32 q0) := X.cell 0
  replace cX1 : World.cell? _ _ = some (.string d0) := X.cell 1
  replace cX2 : World.cell? _ _ = some (.slice (some ⟨g4, 0, none⟩) n0 n0) := X.cell 2
  replace cX3 : World.cell? _ _ = some (.int .i64 r0) := X.cell 3
  replace cW0 : World.cell? _ _ = some (.int .u32 QN) := W.cell 0
  replace cW1 : World.cell? _ _ = some (.string DN) := W.cell 1
  replace cW2 : World.cell? _ _ = some (.slice a3 m5 c3) := W.cell 2
  replace cW3 : World.cell? _ _ = some (.int .i64 r0) := W.cell 3
  replace cY0 : World.cell? _ _ = some (.int .u32 QN) := Y.cell 0
  replace cY1 : World.cell? _ _ = some (.string DN) := Y.cell 1
  replace cY2 : World.cell? _ _ = some (.slice (some ⟨g5, 0, none⟩) m5 c5) := Y.cell 2
  replace cY3 : World.cell? _ _ = some (.int .i64 r0) := Y.cell 3
  have hp1 : ¬ (1 : Int) + 2 * (n0 : Int) < 0 := by omega
  go_wp2_with (fail)
  refine (eqIn QN DN r0 _ _ m5 c5 c3 LL hm3 _ T5.reads T3).mono ?_
  rintro _ w9 ⟨rfl, k9⟩
  have z_k9 := k9.le
  try simp only [World.size_alloc] at z_k9
  replace G := G.trans k9
  replace A := A.since k9
  replace W := W.since k9
  replace X := X.since k9
  replace Y := Y.since k9
  replace T2 := T2.since k9
  replace T4 := T4.since k9
  replace T5 := T5.since k9
  replace T3 := T3.since k9
  replace cA0 : World.cell? _ _ = some (.int .u32 q0) := A.cell 0
  replace cA1 : World.cell? _ _ = some (.string d0) := A.cell 1
  replace cA2 : World.cell? _ _ = some (.slice a0 n0 c0) := A.cell 2
  replace cA3 : World.cell? _ _ = some (.int .i64 r0) := A.cell 3
  replace cX0 : World.cell? _ _ = some (.int .u32 q0) := X.cell 0
  replace cX1 : World.cell? _ _ = some (.string d0) := X.cell 1
  replace cX2 : World.cell? _ _ = some (.slice (some ⟨g4, 0, none⟩) n0 n0) := X.cell 2
  replace cX3 : World.cell? _ _ = some (.int .i64 r0) := X.cell 3
  replace cW0 : World.cell? _ _ = some (.int .u32 QN) := W.cell 0
  replace cW1 : World.cell? _ _ = some (.string DN) := W.cell 1
  replace cW2 : World.cell? _ _ = some (.slice a3 m5 c3) := W.cell 2
  replace cW3 : World.cell? _ _ = some (.int .i64 r0) := W.cell 3
  replace cY0 : World.cell? _ _ = some (.int .u32 QN) := Y.cell 0
  replace cY1 : World.cell? _ _ = some (.string DN) := Y.cell 1
  replace cY2 : World.cell? _ _ = some (.slice (some ⟨g5, 0, none⟩) m5 c5) := Y.cell 2
  replace cY3 : World.cell? _ _ = some (.int .i64 r0) := Y.cell 3
  go_wp2_with (fail)
  refine (markIn QN DN r0 _ m5 (.slice (some ⟨g5, 0, none⟩) m5 c5) LL 1 (by omega) (by omega) _ T5).mono ?_
  rintro _ w10 ⟨rfl, t10, ns, hns, U5⟩
  replace t10 : Touch g5 _ _ := touch_grown t10
  replace T5 : Held shP w10 _ g5 m5 c5 ns := U5
  clear U5
  replace hns : Hid _ := hns
  replace hms : Hid _ := hms
  have z_t10 := t10.le
  try simp only [World.size_alloc] at z_t10
  replace G := G.touch t10 (by omega)
  replace A := A.touch t10 (by omega)
  replace W := W.touch t10 (by omega)
  replace X := X.touch t10 (by omega)
  replace Y := Y.touch t10 (by omega)
  replace T3 := T3.touch t10 (fun x e => by have := lo_T3 x e; omega)
  replace T2 := T2.touch t10 (by omega)
  replace T4 := T4.touch t10 (by omega)
  replace cA0 : World.cell? _ _ = some (.int .u32 q0) := A.cell 0
  replace cA1 : World.cell? _ _ = some (.string d0) := A.cell 1
  replace cA2 : World.cell? _ _ = some (.slice a0 n0 c0) := A.cell 2
  replace cA3 : World.cell? _ _ = some (.int .i64 r0) := A.cell 3
  replace cX0 : World.cell? _ _ = some (.int .u32 q0) := X.cell 0
  replace cX1 : World.cell? _ _ = some (.string d0) := X.cell 1
  replace cX2 : World.cell? _ _ = some (.slice (some ⟨g4, 0, none⟩) n0 n0) := X.cell 2
  replace cX3 : World.cell? _ _ = some (.int .i64 r0) := X.cell 3
  replace cW0 : World.cell? _ _ = some (.int .u32 QN) := W.cell 0
  replace cW1 : World.cell? _ _ = some (.string DN) := W.cell 1
  replace cW2 : World.cell? _ _ = some (.slice a3 m5 c3) := W.cell 2
  replace cW3 : World.cell? _ _ = some (.int .i64 r0) := W.cell 3
  replace cY0 : World.cell? _ _ = some (.int .u32 QN) := Y.cell 0
  replace cY1 : World.cell? _ _ = some (.string DN) := Y.cell 1
  replace cY2 : World.cell? _ _ = some (.slice (some ⟨g5, 0, none⟩) m5 c5) := Y.cell 2
  replace cY3 : World.cell? _ _ = some (.int .i64 r0) := Y.cell 3
  have hp2 : ¬ (1 : Int) + 2 * (m5 : Int) < 0 := by omega
  go_wp2_with (fail)
  refine (heldIn QN DN r0 _ m5 c5 ns 1 (by omega) (by omega) _ T5.reads hns.out).mono ?_
  rintro _ w11 ⟨rfl, k11⟩
  have z_k11 := k11.le
  try simp only [World.size_alloc] at z_k11
  replace G := G.trans k11
  replace A := A.since k11
  replace W := W.since k11
  replace X := X.since k11
  replace Y := Y.since k11
  replace T2 := T2.since k11
  replace T4 := T4.since k11
  replace T5 := T5.since k11
  replace T3 := T3.since k11
  replace cA0 : World.cell? _ _ = some (.int .u32 q0) := A.cell 0
  replace cA1 : World.cell? _ _ = some (.string d0) := A.cell 1
  replace cA2 : World.cell? _ _ = some (.slice a0 n0 c0) := A.cell 2
  replace cA3 : World.cell? _ _ = some (.int .i64 r0) := A.cell 3
  replace cX0 : World.cell? _ _ = some (.int .u32 q0) := X.cell 0
  replace cX1 : World.cell? _ _ = some (.string d0) := X.cell 1
  replace cX2 : World.cell? _ _ = some (.slice (some ⟨g4, 0, none⟩) n0 n0) := X.cell 2
  replace cX3 : World.cell? _ _ = some (.int .i64 r0) := X.cell 3
  replace cW0 : World.cell? _ _ = some (.int .u32 QN) := W.cell 0
  replace cW1 : World.cell? _ _ = some (.string DN) := W.cell 1
  replace cW2 : World.cell? _ _ = some (.slice a3 m5 c3) := W.cell 2
  replace cW3 : World.cell? _ _ = some (.int .i64 r0) := W.cell 3
  replace cY0 : World.cell? _ _ = some (.int .u32 QN) := Y.cell 0
  replace cY1 : World.cell? _ _ = some (.string DN) := Y.cell 1
  replace cY2 : World.cell? _ _ = some (.slice (some ⟨g5, 0, none⟩) m5 c5) := Y.cell 2
  replace cY3 : World.cell? _ _ = some (.int .i64 r0) := Y.cell 3
  go_wp2_with (fail)
  refine (toIn q0 d0 r0 a0 n0 c0 p0 hn _ (R0.since G)).mono ?_
  rintro _ w12 ⟨g12, rfl, T12, k12⟩
  unfold inVal
  have z_k12 := k12.le
  try simp only [World.size_alloc] at z_k12
  replace G := G.trans k12
  replace A := A.since k12
  replace W := W.since k12
  replace X := X.since k12
  replace Y := Y.since k12
  replace T2 := T2.since k12
  replace T4 := T4.since k12
  replace T5 := T5.since k12
  replace T3 := T3.since k12
  have lo_T12 := T12.low'
  try simp only [World.size_alloc] at lo_T12
  have hi_T12 := T12.lt
  try simp only [World.size_alloc] at hi_T12
  replace cA0 : World.cell? _ _ = some (.int .u32 q0) := A.cell 0
  replace cA1 : World.cell? _ _ = some (.string d0) := A.cell 1
  replace cA2 : World.cell? _ _ = some (.slice a0 n0 c0) := A.cell 2
  replace cA3 : World.cell? _ _ = some (.int .i64 r0) := A.cell 3
  replace cX0 : World.cell? _ _ = some (.int .u32 q0) := X.cell 0
  replace cX1 : World.cell? _ _ = some (.string d0) := X.cell 1
  replace cX2 : World.cell? _ _ = some (.slice (some ⟨g4, 0, none⟩) n0 n0) := X.cell 2
  replace cX3 : World.cell? _ _ = some (.int .i64 r0) := X.cell 3
  replace cW0 : World.cell? _ _ = some (.int .u32 QN) := W.cell 0
  replace cW1 : World.cell? _ _ = some (.string DN) := W.cell 1
  replace cW2 : World.cell? _ _ = some (.slice a3 m5 c3) := W.cell 2
  replace cW3 : World.cell? _ _ = some (.int .i64 r0) := W.cell 3
  replace cY0 : World.cell? _ _ = some (.int .u32 QN) := Y.cell 0
  replace cY1 : World.cell? _ _ = some (.string DN) := Y.cell 1
  replace cY2 : World.cell? _ _ = some (.slice (some ⟨g5, 0, none⟩) m5 c5) := Y.cell 2
  replace cY3 : World.cell? _ _ = some (.int .i64 r0) := Y.cell 3
  go_wp2_with (fail)
  refine (implInPutR q0 d0 r0 _ _ n0 n0 p0 b1 b2 at' good hb1 ha hb2' _ T12).mono ?_
  rintro _ w13 ⟨g13, m13, c13, rfl, T13, k13⟩
  rw [hLL.out] at T13
  rw [hQN.out, hDN.out, hSN.out]
  unfold inVal
  obtain rfl : m13 = m5 := T13.1.symm.trans T3.len
  have z_k13 := k13.le
  try simp only [World.size_alloc] at z_k13
  replace G := G.trans k13
  replace A := A.since k13
  replace W := W.since k13
  replace X := X.since k13
  replace Y := Y.since k13
  replace T2 := T2.since k13
  replace T4 := T4.since k13
  replace T5 := T5.since k13
  replace T12 := T12.since k13
  replace T3 := T3.since k13
  have lo_T13 := T13.low'
  try simp only [World.size_alloc] at lo_T13
  have hi_T13 := T13.lt
  try simp only [World.size_alloc] at hi_T13
  have Z := Blk.new w13 #[.int .u32 QN, .string DN, .slice (some ⟨g13, 0, none⟩) m13 c13, .int .i64 r0] 30
  have k_Z := (Since.refl w13).alloc (.cells #[.int .u32 QN, .string DN, .slice (some ⟨g13, 0, none⟩) m13 c13, .int .i64 r0] 30)
  have z_k_Z := k_Z.le
  try simp only [World.size_alloc] at z_k_Z
  replace G := G.trans k_Z
  replace A := A.since k_Z
  replace W := W.since k_Z
  replace X := X.since k_Z
  replace Y := Y.since k_Z
  replace T2 := T2.since k_Z
  replace T4 := T4.since k_Z
  replace T5 := T5.since k_Z
  replace T12 := T12.since k_Z
  replace T13 := T13.since k_Z
  replace T3 := T3.since k_Z
  replace cA0 : World.cell? _ _ = some (.int .u32 q0) := A.cell 0
  replace cA1 : World.cell? _ _ = some (.string d0) := A.cell 1
  replace cA2 : World.cell? _ _ = some (.slice a0 n0 c0) := A.cell 2
  replace cA3 : World.cell? _ _ = some (.int .i64 r0) := A.cell 3
  replace cX0 : World.cell? _ _ = some (.int .u32 q0) := X.cell 0
  replace cX1 : World.cell? _ _ = some (.string d0) := X.cell 1
  replace cX2 : World.cell? _ _ = some (.slice (some ⟨g4, 0, none⟩) n0 n0) := X.cell 2
  replace cX3 : World.cell? _ _ = some (.int .i64 r0) := X.cell 3
  replace cW0 : World.cell? _ _ = some (.int .u32 QN) := W.cell 0
  replace cW1 : World.cell? _ _ = some (.string DN) := W.cell 1
  replace cW2 : World.cell? _ _ = some (.slice a3 m13 c3) := W.cell 2
  replace cW3 : World.cell? _ _ = some (.int .i64 r0) := W.cell 3
  replace cY0 : World.cell? _ _ = some (.int .u32 QN) := Y.cell 0
  replace cY1 : World.cell? _ _ = some (.string DN) := Y.cell 1
  replace cY2 : World.cell? _ _ = some (.slice (some ⟨g5, 0, none⟩) m13 c5) := Y.cell 2
  replace cY3 : World.cell? _ _ = some (.int .i64 r0) := Y.cell 3
  have cZ0 : World.cell? _ _ = some (.int .u32 QN) := Z.cell 0
  have cZ1 : World.cell? _ _ = some (.string DN) := Z.cell 1
  have cZ2 : World.cell? _ _ = some (.slice (some ⟨g13, 0, none⟩) m13 c13) := Z.cell 2
  have cZ3 : World.cell? _ _ = some (.int .i64 r0) := Z.cell 3
  go_wp2_with (fail)
  refine (eqIn QN DN r0 _ _ m13 c13 c3 LL hm3 _ T13.reads T3).mono ?_
  rintro _ w14 ⟨rfl, k14⟩
  have z_k14 := k14.le
  try simp only [World.size_alloc] at z_k14
  replace G := G.trans k14
  replace A := A.since k14
  replace W := W.since k14
  replace X := X.since k14
  replace Y := Y.since k14
  replace Z := Z.since k14
  replace T2 := T2.since k14
  replace T4 := T4.since k14
  replace T5 := T5.since k14
  replace T12 := T12.since k14
  replace T13 := T13.since k14
  replace T3 := T3.since k14
  replace cA0 : World.cell? _ _ = some (.int .u32 q0) := A.cell 0
  replace cA1 : World.cell? _ _ = some (.string d0) := A.cell 1
  replace cA2 : World.cell? _ _ = some (.slice a0 n0 c0) := A.cell 2
  replace cA3 : World.cell? _ _ = some (.int .i64 r0) := A.cell 3
  replace cX0 : World.cell? _ _ = some (.int .u32 q0) := X.cell 0
  replace cX1 : World.cell? _ _ = some (.string d0) := X.cell 1
  replace cX2 : World.cell? _ _ = some (.slice (some ⟨g4, 0, none⟩) n0 n0) := X.cell 2
  replace cX3 : World.cell? _ _ = some (.int .i64 r0) := X.cell 3
  replace cW0 : World.cell? _ _ = some (.int .u32 QN) := W.cell 0
  replace cW1 : World.cell? _ _ = some (.string DN) := W.cell 1
  replace cW2 : World.cell? _ _ = some (.slice a3 m13 c3) := W.cell 2
  replace cW3 : World.cell? _ _ = some (.int .i64 r0) := W.cell 3
  replace cY0 : World.cell? _ _ = some (.int .u32 QN) := Y.cell 0
  replace cY1 : World.cell? _ _ = some (.string DN) := Y.cell 1
  replace cY2 : World.cell? _ _ = some (.slice (some ⟨g5, 0, none⟩) m13 c5) := Y.cell 2
  replace cY3 : World.cell? _ _ = some (.int .i64 r0) := Y.cell 3
  replace cZ0 : World.cell? _ _ = some (.int .u32 QN) := Z.cell 0
  replace cZ1 : World.cell? _ _ = some (.string DN) := Z.cell 1
  replace cZ2 : World.cell? _ _ = some (.slice (some ⟨g13, 0, none⟩) m13 c13) := Z.cell 2
  replace cZ3 : World.cell? _ _ = some (.int .i64 r0) := Z.cell 3
  go_wp2_with (fail)
  refine (heldIn QN DN r0 _ m13 c5 ns 1 (by omega) (by omega) _ T5.reads hns.out).mono ?_
  rintro _ w15 ⟨rfl, k15⟩
  have z_k15 := k15.le
  try simp only [World.size_alloc] at z_k15
  replace G := G.trans k15
  replace A := A.since k15
  replace W := W.since k15
  replace X := X.since k15
  replace Y := Y.since k15
  replace Z := Z.since k15
  replace T2 := T2.since k15
  replace T4 := T4.since k15
  replace T5 := T5.since k15
  replace T12 := T12.since k15
  replace T13 := T13.since k15
  replace T3 := T3.since k15
  replace cA0 : World.cell? _ _ = some (.int .u32 q0) := A.cell 0
  replace cA1 : World.cell? _ _ = some (.string d0) := A.cell 1
  replace cA2 : World.cell? _ _ = some (.slice a0 n0 c0) := A.cell 2
  replace cA3 : World.cell? _ _ = some (.int .i64 r0) := A.cell 3
  replace cX0 : World.cell? _ _ = some (.int .u32 q0) := X.cell 0
  replace cX1 : World.cell? _ _ = some (.string d0) := X.cell 1
  replace cX2 : World.cell? _ _ = some (.slice (some ⟨g4, 0, none⟩) n0 n0) := X.cell 2
  replace cX3 : World.cell? _ _ = some (.int .i64 r0) := X.cell 3
  replace cW0 : World.cell? _ _ = some (.int .u32 QN) := W.cell 0
  replace cW1 : World.cell? _ _ = some (.string DN) := W.cell 1
  replace cW2 : World.cell? _ _ = some (.slice a3 m13 c3) := W.cell 2
  replace cW3 : World.cell? _ _ = some (.int .i64 r0) := W.cell 3
  replace cY0 : World.cell? _ _ = some (.int .u32 QN) := Y.cell 0
  replace cY1 : World.cell? _ _ = some (.string DN) := Y.cell 1
  replace cY2 : World.cell? _ _ = some (.slice (some ⟨g5, 0, none⟩) m13 c5) := Y.cell 2
  replace cY3 : World.cell? _ _ = some (.int .i64 r0) := Y.cell 3
  replace cZ0 : World.cell? _ _ = some (.int .u32 QN) := Z.cell 0
  replace cZ1 : World.cell? _ _ = some (.string DN) := Z.cell 1
  replace cZ2 : World.cell? _ _ = some (.slice (some ⟨g13, 0, none⟩) m13 c13) := Z.cell 2
  replace cZ3 : World.cell? _ _ = some (.int .i64 r0) := Z.cell 3
  go_wp2_with (fail)
  go_ret
  exact ⟨rfl, G⟩

set_option maxRecDepth 100000 in
theorem lifted (os : Os) (started : os.Started) (H : Type) (enc : TypeId × Value → H) :
    ReturnsInHanded {} Try.checked os 5 .any (Rows.fnExactInPutSpec.pre6 enc Try.prog Try.f5 Rows.fnExactInPutRow.domain false) (Rows.fnExactInPutSpec.post enc Try.prog Try.f5 false true false false) := by
  refine returnsInHanded_of_change (C := Try.checked) own started (by kernel_rfl) Try.func5
    (ChangeSpec.witness6 (enc := enc) (C := Try.checked) false ⟨#[], #[.agg #[.int .u32 0, .string ByteArray.empty, .slice none 0 0, .int .i64 0], .int .u32 0, .string ByteArray.empty], []⟩ 8 (by kernel_rfl) (by kernel_rfl) (by kernel_rfl) (by kernel_rfl)) ?_
  intro W base args ds gs before hval0 hW hcnd _
  have hval : ∀ (j : Nat) t v, Try.f5.params[j]? = some t → args[j]? = some v → Value.okWide Try.prog W .any base t v := hval0
  have hW' := hW
  obtain ⟨p, q, hA0, hV, rfl, hfz, hnd⟩ := hW
  have hA : DataW.TrodAll enc Try.prog W 0 (fun _ => true) true Try.f5.params.toList args.toList ds p := hA0
  rw [Try.params5] at hA hval
  obtain ⟨v0, vs0, d0, ds0, p0, q0, hargs, rfl, rfl, h0, r0⟩ := trodAll_cons hA
  obtain ⟨v1, vs1, d1, ds1, p1, q1, rfl, rfl, rfl, h1, r1⟩ := trodAll_cons r0
  obtain ⟨v2, vs2, d2, ds2, p2, q2, rfl, rfl, rfl, h2, r2⟩ := trodAll_cons r1
  obtain ⟨rfl, rfl, rfl⟩ := trodAll_nil r2
  obtain rfl : args = #[v0, v1, v2] := by cases args; simp_all
  obtain ⟨rfl, rfl⟩ := trodVars_none hV
  have e0 := h0
  have lt0 : ∀ x ∈ p0, x.block < W.heap.size := by obtain ⟨m, hm⟩ := e0; exact DataW.trod_lt m _ _ _ hm
  have e1 := h1
  have lt1 : ∀ x ∈ p1, x.block < W.heap.size := by obtain ⟨m, hm⟩ := e1; exact DataW.trod_lt m _ _ _ hm
  have e2 := h2
  have lt2 : ∀ x ∈ p2, x.block < W.heap.size := by obtain ⟨m, hm⟩ := e2; exact DataW.trod_lt m _ _ _ hm
  obtain ⟨qv0, dv0, rv0, av0, nv0, cv0, pv0, rfl, x0, z0, y0, R0, u0⟩ := open_in (hval 0 25 v0 rfl rfl) h0
  obtain ⟨b1, rfl, _, _, x1⟩ := open_int Try.underlying22 (hval 1 22 v1 rfl rfl) h1
  obtain ⟨b2, rfl, _, _, z2⟩ := open_string Try.underlying9 (hval 2 9 v2 rfl rfl) h2
  clear hA0 hval0
  refine (walk qv0 dv0 rv0 av0 nv0 cv0 pv0 b1 b2 W x0 z0 y0 R0 u0 x1 z2).mono fun e W' ⟨he, bel⟩ => ?_
  subst he
  exact ⟨_, rfl, _, _, _, [], _, [], hW', trodAll_mk1 (shut_bool Try.underlying4 _), (trodAll_cons_mk (Below.trod laidOut (by kernel_rfl) (of_decide_eq_true (by kernel_rfl)) e0 bel lt0) (trodAll_cons_mk (Below.trod laidOut (by kernel_rfl) (of_decide_eq_true (by kernel_rfl)) e1 bel lt1) (trodAll_cons_mk (Below.trod laidOut (by kernel_rfl) (of_decide_eq_true (by kernel_rfl)) e2 bel lt2) trodAll_mk0))), rfl, bel.frame _, fun h => by cases h⟩

theorem over : Rows.fnExactInPutRow.holds Try.pinned (OpenSpec.ofChange Rows.fnExactInPutSpec) :=
  OpenClaim.holds_of_wide 5 Try.f5 rfl rfl rfl rfl rfl rfl rfl ⟨rfl, rfl, rfl, rfl, rfl⟩ rfl rfl rfl rfl rfl (by kernel_rfl) Try.func5 (by kernel_rfl)
    (of_decide_eq_true (by kernel_rfl)) (by unfold Func.isWrapper; first | (rw [if_pos (by decide +kernel)]; kernel_rfl) | (rw [if_neg (by decide +kernel)]; exact ⟨rfl, rfl⟩))
    (fun os started H enc _ => lifted os started H enc)

theorem proved : Rows.FnExactInPutSaid := over
end Go.Proofs.Ytpegfiogfcjofab.fnExactInPut

namespace Go.Proofs.Ytpegfiogfcjofab
theorem fnExactInPut_holds : Rows.FnExactInPutSaid := fnExactInPut.proved
#print axioms fnExactInPut_holds
end Go.Proofs.Ytpegfiogfcjofab
