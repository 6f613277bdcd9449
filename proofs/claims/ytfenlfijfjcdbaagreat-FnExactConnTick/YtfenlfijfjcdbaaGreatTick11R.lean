/-
  A list that grows while it is returned: what holds by what is done; and sending behind segments that are there.
-/
import Derived.Test.YtfenlfijfjcdbaaGreatM22
import Derived.Test.YtfenlfijfjcdbaaGreatSend11
import Derived.Test.YtfenlfijfjcdbaaGreatM23
import Derived.Test.YtfenlfijfjcdbaaGreatM12
import Derived.Deep.DeepCutAuto
namespace Go.Proofs.YtfenlfijfjcdbaaGreat
open Go.ChangeShapes Go.WideShapes Go.ChangeAt Go.RowKit
set_option linter.unusedVariables false
set_option maxRecDepth 10000

theorem does_app_empty {α : Type} {S : Shape α} {sl bytes : Nat} (L : Laid S sl bytes) {op : Oper} {a : Act} {w : World} {R : Value → World → Prop} {B g : Nat} (s x : Operand)
    (ho : op.op = .call { callee := .builtin .append, args := #[s, x], argTypes := #[sl, sl] }) (hs : a.eval s = .slice (some ⟨g, 0, none⟩) 0 0) (T : Held S w B g 0 0 []) {ao : Option Addr} {m c : Nat} {ys : List α} (hx : a.eval x = .slice ao m c) (Q : Rd S w ao m ys) (hnil : ao = none → c = 0) (hby : m * bytes ≤ 140737488355328) (hB : B ≤ w.heap.size)
    (k : ∀ g' cap' w', Held S w' B g' m cap' ys → Since w w' → R (.slice (some ⟨g', 0, none⟩) m cap') w') : does Tryz.prog op a w R := by
  obtain ⟨g', cap', w', hrun, T', S'⟩ := run_append_empty L op.type w T Q hnil hby hB
  unfold does
  simp [execOp, ho, resolve, invoke, builtin, hs, hx, hrun, Result.andThen, doesUpon]
  exact k g' cap' w' T' S'

theorem does_app_own {α : Type} {S : Shape α} {sl bytes : Nat} (L : Laid S sl bytes) {op : Oper} {a : Act} {w : World} {R : Value → World → Prop} {B n : Nat} {v : Value} {xs : List α} {ad : Addr} {m c : Nat} {ys : List α} (s x : Operand)
    (ho : op.op = .call { callee := .builtin .append, args := #[s, x], argTypes := #[sl, sl] }) (hs : a.eval s = v) (T : Own S w B v n xs) (hx : a.eval x = .slice (some ad) m c) (Q : Rd S w (some ad) m ys) (hm : 0 < m) (hmax : n + m ≤ maxLen) (hby : (n + m) * bytes ≤ 140737488355328) (hB : B ≤ w.heap.size)
    (k : ∀ g cap w', Held S w' B g (n + m) cap (xs ++ ys) → w.grownBy w' v.ownBlock → (v.ownBlock = some g ∨ g = w.heap.size) → R (.slice (some ⟨g, 0, none⟩) (n + m) cap) w') : does Tryz.prog op a w R := by
  obtain ⟨hu, ii, z, hi, hz0, hz1, hz2, hzs⟩ := L
  obtain ⟨g', cap', w', hrun, hown, hgrow, hat, -⟩ := run_append_lies (P := Tryz.prog) w sl op.type B S.ty ii z S.k bytes hu hi hz0 hz1 hz2 hzs S.pos v n _ T.2 ad m c (S.cells ys) (by rw [S.cells_len, Q.len]) Q.flat (S.cells_one ys) hm hmax hby hB _ rfl
  unfold does
  simp [execOp, ho, resolve, invoke, builtin, hs, hx, hrun, Result.andThen, doesUpon]
  exact k g' cap' w' ⟨by rw [List.length_append, T.1, Q.len], by rw [S.cells_append]; exact hown⟩ hgrow hat

theorem send_len {c : Cn} {ps : List (Int × ByteArray)} {now : Int} (ms : MayS c ps) : (sendV c ps now).2.length ≤ 100003 := by
  have hl := ms.left
  have h1 := pieces_len (ps := ps) (now := now) (leftC c).toNat c []
  have h2 : ∀ p : Cn × List Sg, (fin2 ps now p).2.length ≤ p.2.length + 1 := by
    intro p
    unfold fin2
    split <;> simp
  have h3 : ∀ p : Cn × List Sg, (owe2 ps p).2.length ≤ p.2.length + 1 := by
    intro p
    unfold owe2
    split <;> simp
  have h4 := h2 (piecesC ps now (leftC c).toNat c [])
  rw [sendV_X]
  unfold sendX
  have h5 : _ ≤ (fin2 ps now (piecesC ps now (leftC c).toNat c [])).2.length + 1 := h3 (prbC (fin2 ps now (piecesC ps now (leftC c).toNat c [])).1 now, (fin2 ps now (piecesC ps now (leftC c).toNat c [])).2)
  simp only [List.length_nil] at h1
  omega

theorem does_val {op : Oper} {a : Act} {w : World} {R : Value → World → Prop} (v : Value) (h : (execOp a.eval op).run Tryz.prog w = .ok (.value v) w) (k : R v w) : does Tryz.prog op a w R := by
  unfold does
  rw [h]
  exact k

theorem take_first {c : Cn} (ho : outOk c.oD c.oR = true) (h1 : 1 ≤ c.oD.size) : takeT c.oF c.oD c.oR c.oF 1 (distI c.oF c.oF) = c.oD.extract 0 1 := by
  have e : distI c.oF c.oF = 0 := by unfold distI; omega
  rw [e]
  unfold takeT
  rw [if_pos ⟨ho, ⟨by omega, by omega⟩, by omega, by omega⟩]
  congr 1
  simp
  omega

structure SynI (w : World) (d : Cn) (ps : List (Int × ByteArray)) (g gl n cl : Nat) (xs : List Sg) (s : Sg) (f : Nat → Bool) (vals : Nat → Value) (x : World) : Prop where
  G : Since w x
  A : Blk w.heap.size x (cnCells d)
  Z : Raw (w.heap.size + 1) 37 x
  Z2 : f 6 = true → Blk (w.heap.size + 1) x (cnCells d)
  H : Held shP x w.heap.size g d.pn d.pc ps
  L : f 5 = false → Held shG x w.heap.size gl n cl xs
  v0 : f 0 = true → vals 0 = .agg (cnCells d)
  v1 : f 1 = true → vals 1 = .slice (some ⟨gl, 0, none⟩) n cl
  v2 : f 2 = true → vals 2 = .agg (cnCells d)
  v3 : f 3 = true → vals 3 = .agg (sgCells s)
  v4 : f 4 = true → f 5 = false → ∃ y, vals 4 = .slice (some ⟨y, 0, none⟩) 1 1 ∧ Held shG x w.heap.size y 1 1 [s] ∧ w.heap.size + 1 < y ∧ y ≠ gl
  v4' : f 4 = true → ∃ y, vals 4 = .slice (some ⟨y, 0, none⟩) 1 1
  v5 : f 5 = true → ∃ g1 c1, vals 5 = .slice (some ⟨g1, 0, none⟩) (n + 1) c1 ∧ Held shG x w.heap.size g1 (n + 1) c1 (xs ++ [s]) ∧ w.heap.size + 1 < g1 ∧ g1 ≠ g
  v7 : f 7 = true → f 5 = true ∧ vals 7 = vals 5
  c5 : f 5 = true → f 4 = true

section
variable {w : World} {d : Cn} {ps : List (Int × ByteArray)} {g gl n cl : Nat} {xs : List Sg} {s : Sg} {f : Nat → Bool} {vals : Nat → Value} {x y : World}

theorem Raw.touch {b b' k : Nat} (h : Raw b k x) (q : Touch b' x y) (hne : b ≠ b') : Raw b k y := by
  obtain ⟨cs, e, B⟩ := h
  exact ⟨cs, e, B.touch q hne⟩

theorem SynI.at0 (h : SynI w d ps g gl n cl xs s f vals x) (q : Since x y) : SynI w d ps g gl n cl xs s (andDone f 0) (putVal vals 0 (.agg (cnCells d))) y := by
  refine ⟨h.G.trans q, h.A.since q, h.Z.since q, fun e => (h.Z2 e).since q, h.H.since q, fun e => (h.L e).since q, fun _ => rfl, h.v1, h.v2, h.v3, fun e e' => ?_, h.v4', fun e => ?_, h.v7, h.c5⟩
  · obtain ⟨z, a, b, c⟩ := h.v4 e e'
    exact ⟨z, a, b.since q, c⟩
  · obtain ⟨z, c1, a, b, c⟩ := h.v5 e
    exact ⟨z, c1, a, b.since q, c⟩

theorem SynI.at1 (h : SynI w d ps g gl n cl xs s f vals x) (q : Since x y) : SynI w d ps g gl n cl xs s (andDone f 1) (putVal vals 1 (.slice (some ⟨gl, 0, none⟩) n cl)) y := by
  refine ⟨h.G.trans q, h.A.since q, h.Z.since q, fun e => (h.Z2 e).since q, h.H.since q, fun e => (h.L e).since q, h.v0, fun _ => rfl, h.v2, h.v3, fun e e' => ?_, h.v4', fun e => ?_, h.v7, h.c5⟩
  · obtain ⟨z, a, b, c⟩ := h.v4 e e'
    exact ⟨z, a, b.since q, c⟩
  · obtain ⟨z, c1, a, b, c⟩ := h.v5 e
    exact ⟨z, c1, a, b.since q, c⟩

theorem SynI.at2 (h : SynI w d ps g gl n cl xs s f vals x) (q : Since x y) : SynI w d ps g gl n cl xs s (andDone f 2) (putVal vals 2 (.agg (cnCells d))) y := by
  refine ⟨h.G.trans q, h.A.since q, h.Z.since q, fun e => (h.Z2 e).since q, h.H.since q, fun e => (h.L e).since q, h.v0, h.v1, fun _ => rfl, h.v3, fun e e' => ?_, h.v4', fun e => ?_, h.v7, h.c5⟩
  · obtain ⟨z, a, b, c⟩ := h.v4 e e'
    exact ⟨z, a, b.since q, c⟩
  · obtain ⟨z, c1, a, b, c⟩ := h.v5 e
    exact ⟨z, c1, a, b.since q, c⟩

theorem SynI.at3 (h : SynI w d ps g gl n cl xs s f vals x) (q : Since x y) : SynI w d ps g gl n cl xs s (andDone f 3) (putVal vals 3 (.agg (sgCells s))) y := by
  refine ⟨h.G.trans q, h.A.since q, h.Z.since q, fun e => (h.Z2 e).since q, h.H.since q, fun e => (h.L e).since q, h.v0, h.v1, h.v2, fun _ => rfl, fun e e' => ?_, h.v4', fun e => ?_, h.v7, h.c5⟩
  · obtain ⟨z, a, b, c⟩ := h.v4 e e'
    exact ⟨z, a, b.since q, c⟩
  · obtain ⟨z, c1, a, b, c⟩ := h.v5 e
    exact ⟨z, c1, a, b.since q, c⟩

theorem SynI.at4 (h : SynI w d ps g gl n cl xs s f vals x) (h4 : f 4 = false) : SynI w d ps g gl n cl xs s (andDone f 4) (putVal vals 4 (.slice (some ⟨x.heap.size, 0, none⟩) 1 1)) (x.alloc (.cells (sgCells s) 61)) := by
  have q := (Since.refl x).alloc (.cells (sgCells s) 61)
  have hz : w.heap.size + 1 < x.heap.size := by
    obtain ⟨cs, e, B⟩ := h.Z
    exact B.lt
  have h5 : f 5 = false := by
    cases e : f 5
    · rfl
    · rw [h.c5 e] at h4
      cases h4
  have hgl := (h.L h5).lt
  refine ⟨h.G.trans q, h.A.since q, h.Z.since q, fun e => (h.Z2 e).since q, h.H.since q, fun e => (h.L e).since q, h.v0, h.v1, h.v2, h.v3, fun _ _ => ⟨x.heap.size, rfl, (heldG1 x s).raise h.G.size, hz, by omega⟩, fun _ => ⟨x.heap.size, rfl⟩, fun e => ?_, h.v7, fun _ => rfl⟩
  rw [show andDone f 4 5 = f 5 from rfl, h5] at e
  cases e

theorem SynI.at5 (h : SynI w d ps g gl n cl xs s f vals x) (h5 : f 5 = false) (h4 : f 4 = true) (hgl : w.heap.size + 1 < gl) (hgg : gl ≠ g) {g1 c1 : Nat} (t : Touch gl x y) (O : Held shG y w.heap.size g1 (n + 1) c1 (xs ++ [s])) (ho : gl = g1 ∨ g1 = x.heap.size) (hg : g < x.heap.size) : SynI w d ps g gl n cl xs s (andDone f 5) (putVal vals 5 (.slice (some ⟨g1, 0, none⟩) (n + 1) c1)) y := by
  have hz : w.heap.size + 1 < x.heap.size := by
    obtain ⟨cs, e, B⟩ := h.Z
    exact B.lt
  refine ⟨since_touch h.G t (by omega), h.A.touch t (by omega), h.Z.touch t (by omega), fun e => (h.Z2 e).touch t (by omega), h.H.touch t (by omega), fun e => (by cases e), h.v0, h.v1, h.v2, h.v3, fun e e' => (by cases e'), h.v4', fun _ => ⟨g1, c1, rfl, O, by omega, by omega⟩, fun e => ?_, fun _ => h4⟩
  have e2 := (h.v7 e).1
  rw [h5] at e2
  cases e2

theorem SynI.at6 (h : SynI w d ps g gl n cl xs s f vals x) (hgl : w.heap.size + 1 < gl) (hg : w.heap.size + 1 < g) (t : Touch (w.heap.size + 1) x y) (B : Blk (w.heap.size + 1) y (cnCells d)) : SynI w d ps g gl n cl xs s (andDone f 6) (putVal vals 6 undef) y := by
  refine ⟨since_touch h.G t (by omega), h.A.touch t (by omega), ⟨_, rfl, B⟩, fun _ => B, h.H.touch t (by omega), fun e => (h.L e).touch t (by omega), h.v0, h.v1, h.v2, h.v3, fun e e' => ?_, h.v4', fun e => ?_, h.v7, h.c5⟩
  · obtain ⟨z, a, b, c, c'⟩ := h.v4 e e'
    exact ⟨z, a, b.touch t (by omega), c, c'⟩
  · obtain ⟨z, c1, a, b, c, c'⟩ := h.v5 e
    exact ⟨z, c1, a, b.touch t (by omega), c, c'⟩

theorem SynI.at7 (h : SynI w d ps g gl n cl xs s f vals x) (h5 : f 5 = true) : SynI w d ps g gl n cl xs s (andDone f 7) (putVal vals 7 (vals 5)) x :=
  ⟨h.G, h.A, h.Z, h.Z2, h.H, h.L, h.v0, h.v1, h.v2, h.v3, h.v4, h.v4', h.v5, fun _ => ⟨h5, rfl⟩, h.c5⟩
end
end Go.Proofs.YtfenlfijfjcdbaaGreat
