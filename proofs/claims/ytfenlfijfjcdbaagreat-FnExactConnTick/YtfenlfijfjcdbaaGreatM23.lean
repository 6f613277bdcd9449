/-
  Contracts of spec's InHeld and InRoom.
  What InRead answers; contracts of spec's l07Copy and InRead.
-/
import Derived.Test.YtfenlfijfjcdbaaGreatM25
import Derived.Test.YtfenlfijfjcdbaaGreatSpn
import Derived.Test.YtfenlfijfjcdbaaGreatM13
import Derived.Test.YtfenlfijfjcdbaaGreatBytF
namespace Go.Proofs.YtfenlfijfjcdbaaGreat
open Go.ChangeShapes Go.WideShapes Go.ChangeAt Go.RowKit Go.Deep
set_option linter.unusedVariables false
set_option maxRecDepth 10000
set_option maxRecDepth 10000

theorem specInRoom (q : Int) (d : ByteArray) (r : Int) (a : Option Addr) (n cap : Nat) (ps : List (Int × ByteArray)) (g : Good q d r n ps) (w : World) (R : Rd shP w a n ps) :
    Calls Tryz.prog 21 #[inVal q d (.slice a n cap) r] w fun e w' => e = .returned (.int .i64 (inRoomN q d r ps)) ∧ Since w w' := by
  have ho := fun wx Rx => specInOk q d r a n cap ps g wx Rx
  have hd := g.hd
  have G : Since w (w.alloc (.cells #[.int .u32 q, .string d, .slice a n cap, .int .i64 r] 38)) := (Since.refl _).alloc _
  have A := Blk.new w #[.int .u32 q, .string d, .slice a n cap, .int .i64 r] 38
  have ho1 := ho _ (R.since G)
  clear ho
  unfold inRoomN
  cases hk : inOk q d r ps
  · rw [if_neg (by simp)]
    rw [hk] at ho1
    unfold inVal at *
    clear g R
    go_enter Tryz.func21, Tryz.ntmps21
    go_wp2_with (go_at_call 49; refine ho1.mono ?_; rintro _ w1 ⟨rfl, g1⟩)
    go_ret
    exact ⟨rfl, G.trans g1⟩
  · rw [if_pos rfl]
    rw [hk] at ho1
    obtain ⟨⟨h1, h2⟩, h3, _⟩ := inOk_room hk
    have hsub : IntKind.i64.wrap (r - (d.size : Int)) = r - (d.size : Int) := by rw [IntWalk.i64_left]; exact IntWalk.wrap64_in _ ⟨by omega, by omega⟩
    unfold inVal at *
    clear g R
    go_enter Tryz.func21, Tryz.ntmps21
    go_wp2_with (go_at_call 49; refine ho1.mono ?_; rintro _ w1 ⟨rfl, g1⟩; have c1 := (A.since g1).cell 1; have c3 := (A.since g1).cell 3; simp at c1 c3)
    go_ret
    exact ⟨rfl, G.trans g1⟩
end Go.Proofs.YtfenlfijfjcdbaaGreat

namespace Go.Proofs.YtfenlfijfjcdbaaGreat
open Go.ChangeShapes Go.WideShapes Go.ChangeAt Go.RowKit Go.Deep
set_option linter.unusedVariables false
set_option maxRecDepth 10000
set_option maxRecDepth 10000

theorem app_empty {α : Type} {S : Shape α} {sl bytes : Nat} (L : Laid S sl bytes) {ops : Array Oper} {rest : List Oper} {o : Oper} {a : Act} {Q : Exit → Act → World → Prop} {w : World} {B g : Nat} (hgd : o.guard = none) (s x : Operand)
    (ho : o.op = .call { callee := .builtin .append, args := #[s, x], argTypes := #[sl, sl] }) (hs : a.eval s = .slice (some ⟨g, 0, none⟩) 0 0) (T : Held S w B g 0 0 []) {ao : Option Addr} {m c : Nat} {ys : List α} (hx : a.eval x = .slice ao m c) (R : Rd S w ao m ys) (hnil : ao = none → c = 0) (hby : m * bytes ≤ 140737488355328) (hB : B ≤ w.heap.size)
    (k : ∀ g' cap' w', Held S w' B g' m cap' ys → Since w w' → wpList Tryz.prog ops Q rest (a.put o.dst (.slice (some ⟨g', 0, none⟩) m cap')) w') : wpList Tryz.prog ops Q (o :: rest) a w := by
  refine wpList_plain hgd fun K hK' => ?_
  obtain ⟨g', cap', w', hrun, T', S'⟩ := run_append_empty L o.type w T R hnil hby hB
  unfold Oper.wp
  simp [execOp, ho, resolve, invoke, builtin, hs, hx, hrun, Result.andThen]
  exact hK' _ _ (k g' cap' w' T' S')

theorem laidP : Laid shP 36 24 := by
  obtain ⟨ii, hi, hz0, hz1, hz2⟩ := info_parts info_P
  exact ⟨Tryz.underlying36, ii, _, hi, hz0, hz1, hz2, rfl⟩

set_option maxHeartbeats 1000000 in
theorem copyIn (q : Int) (d : ByteArray) (r : Int) (a : Option Addr) (n cap : Nat) (ps : List (Int × ByteArray)) (hn : n ≤ 1048576) (hnil : a = none → cap = 0) (w : World) (R : Rd shP w a n ps) :
    Calls Tryz.prog 47 #[inVal q d (.slice a n cap) r] w fun e w' => ∃ g c, e = .returned (inVal q d (.slice (some ⟨g, 0, none⟩) n c) r) ∧ Held shP w' w.heap.size g n c ps ∧ Since w w' := by
  unfold inVal
  have G : Since w ((w.alloc (.cells #[.int .u32 q, .string d, .slice a n cap, .int .i64 r] 38)).alloc (.cells #[.int .u32 0, .string ⟨#[]⟩, .slice none 0 0, .int .i64 0] 38)) := ((Since.refl _).alloc _).alloc _
  have A := (Blk.new w #[.int .u32 q, .string d, .slice a n cap, .int .i64 r] 38).since ((Since.refl _).alloc (.cells #[.int .u32 0, .string ⟨#[]⟩, .slice none 0 0, .int .i64 0] 38))
  have B := Blk.new (w.alloc (.cells #[.int .u32 q, .string d, .slice a n cap, .int .i64 r] 38)) #[.int .u32 0, .string ⟨#[]⟩, .slice none 0 0, .int .i64 0] 38
  simp only [World.size_alloc] at A B
  have T0 := Held.empty (S := shP) ((w.alloc (.cells #[.int .u32 q, .string d, .slice a n cap, .int .i64 r] 38)).alloc (.cells #[.int .u32 0, .string ⟨#[]⟩, .slice none 0 0, .int .i64 0] 38))
  have G1 := G.alloc (.cells #[] 105)
  have A1 := A.since ((Since.refl _).alloc (.cells #[] 105))
  have R1 := R.since G1
  have c2 := A1.cell 2
  simp at c2
  simp only [World.size_alloc] at T0
  go_enter Tryz.func47, Tryz.ntmps47
  go_wp2_with (at_builtin; refine app_empty laidP rfl _ _ rfl rfl T0 rfl R1 hnil (by omega) (by simp) ?_; intro g c w2 T2 g2; have A2 := A1.since g2; have B2 := (B.since ((Since.refl _).alloc (.cells #[] 105))).since g2; have a0 := A2.cell 0; have a1 := A2.cell 1; have a2 := A2.cell 2; have a3 := A2.cell 3; simp at a0 a1 a2 a3; have b0 := B2.cell 0; have b1 := B2.cell 1; have b2 := B2.cell 2; have b3 := B2.cell 3; simp at b0 b1 b2 b3; have z0 := B2.fz 0; have z1 := B2.fz 1; have z2 := B2.fz 2; have z3 := B2.fz 3; have y2 := A2.fz 2)
  have B3 := B2.other (show w.heap.size + 1 ≠ w.heap.size by omega) 2 (.slice (some ⟨g, 0, none⟩) n c)
  have B4 := (((B3.put 0 (.int .u32 q) (by simp)).put 1 (.string d) (by simp)).put 2 (.slice (some ⟨g, 0, none⟩) n c) (by simp)).put 3 (.int .i64 r) (by simp)
  have k0 := B4.cell 0
  have k1 := B4.cell 1
  have k2 := B4.cell 2
  have k3 := B4.cell 3
  simp at k0 k1 k2 k3
  have hgl := T2.low'
  refine bodyPost_ret (v := .agg #[.int .u32 q, .string d, .slice (some ⟨g, 0, none⟩) n c, .int .i64 r]) ?_ rfl ⟨g, c, rfl, ?_, ?_⟩
  · simp [results, go_sem, k0, k1, k2, k3]
  · exact (((((T2.other (by omega) _ _).other (by omega) _ _).other (by omega) _ _).other (by omega) _ _).other (by omega) _ _).raise (by omega)
  · exact since_put1 (since_put1 (since_put1 (since_put1 (since_put1 (G1.trans g2) (by omega) _ _) (by omega) _ _) (by omega) _ _) (by omega) _ _) (by omega) _ _
end Go.Proofs.YtfenlfijfjcdbaaGreat
