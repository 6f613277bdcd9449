/-
  The draw of an op and of ops: four numbers each, appended one by one.
  The draw of a net and ops.
-/
import Derived.Test.YthjdcgckonckoaaDrawNet
import Derived.Test.YthjdcgckonckoaaOps
namespace Go.Proofs.Ythjdcgckonckoaa
open Go.ChangeShapes Go.WideShapes Go.ChangeAt Go.RowKit
set_option linter.unusedVariables false

theorem Blk.put {b : Nat} {x : World} {cs : Array Value} (k : Blk b x cs) (i : Nat) (hi : i < cs.size) (v : Value) : Blk b (x.setCell ⟨b, i, none⟩ v) (cs.setIfInBounds i v) := by
  have hlt := k.lt
  refine ⟨by simpa [World.setCell] using hlt, fun j => (World.frozen?_setCell _ _ _ _).trans (k.fz j), fun j => ?_⟩
  by_cases e : j = i
  · subst e
    rw [World.cell?_setCell_same' _ _ _ (by rw [k.cell j]; simp [hi])]
    simp [hi]
  · rw [World.cell?_setCell_other x _ _ v (fun h => e (congrArg Addr.off h).symm), k.cell j, Array.getElem?_setIfInBounds_ne (Ne.symm e)]

theorem pickB {w0 wb : World} {g : Nat} {a : Option Addr} {len cap : Nat} {zs : List Int} (b : Nat) (C : Array Value) (ty : TypeId) (n : Nat) (vs : List Int) (hC : C = (vs.map fun v => Value.int .i64 v).toArray) (hn : vs.length = n) (hpos : 0 < n) (hn2 : n ≤ 1000) (w : World) (hb : w.heap.size = b) (hc : Cur w0 wb g a len cap zs w) :
    Calls Try.prog 36 #[.pointer (some ⟨g, 0, none⟩), .slice (some ⟨b, 0, none⟩) n n] (w.alloc (.cells C ty)) fun e w' => ∃ v : Int, e = .returned (.int .i64 v) ∧ v ∈ vs ∧ Cur w0 wb g a len cap zs w' ∧ Touch g w w' := by
  subst hb
  exact pickT C ty n vs hC hn hpos hn2 w hc

/-- The four cells of an op. -/
def cells4 (k p h t : Int) : Array Value := #[.int .i64 k, .int .i64 p, .int .i64 h, .int .i64 t]

/-- An op under way: the cursor, the answer's variable, the op's. -/
structure OS (w0 wb : World) (g : Nat) (a : Option Addr) (len cap : Nat) (zs : List Int) (kb : Nat) (k p h t : Int) (w : World) : Prop where
  cur : Cur w0 wb g a len cap zs w
  ret : Blk wb.heap.size w (cells4 0 0 0 0)
  op : Blk kb w (cells4 k p h t)
  early : g < wb.heap.size
  late : wb.heap.size < kb

section
variable {w0 wb : World} {g : Nat} {a : Option Addr} {len cap : Nat} {zs : List Int} {kb : Nat} {k p h t : Int} {w w' : World}

theorem OS.draw (o : OS w0 wb g a len cap zs kb k p h t w) (c : Cur w0 wb g a len cap zs w') (u : Touch g w w') : OS w0 wb g a len cap zs kb k p h t w' :=
  ⟨c, o.ret.touch u (by have := o.early; omega), o.op.touch u (by have := o.early; have := o.late; omega), o.early, o.late⟩

theorem OS.put (o : OS w0 wb g a len cap zs kb k p h t w) (i : Nat) (hi : i < 4) (v : Value) : Cur w0 wb g a len cap zs (w.setCell ⟨kb, i, none⟩ v) ∧ Blk wb.heap.size (w.setCell ⟨kb, i, none⟩ v) (cells4 0 0 0 0) ∧ Blk kb (w.setCell ⟨kb, i, none⟩ v) ((cells4 k p h t).setIfInBounds i v) := by
  have he := o.early
  have hl := o.late
  have hlow := o.cur.low
  exact ⟨o.cur.put_new (by omega) (by omega) (by omega) i v, o.ret.other (by omega) i v, o.op.put i (by simpa [cells4] using hi) v⟩

theorem OS.put0 (o : OS w0 wb g a len cap zs kb k p h t w) (v : Int) : OS w0 wb g a len cap zs kb v p h t (w.setCell ⟨kb, 0, none⟩ (.int .i64 v)) := by
  obtain ⟨c, r, b⟩ := o.put 0 (by omega) (.int .i64 v)
  exact ⟨c, r, b, o.early, o.late⟩

theorem OS.k0 (o : OS w0 wb g a len cap zs kb k p h t w) : w.cell? ⟨kb, 0, none⟩ = some (.int .i64 k) := o.op.cell 0

theorem OS.r0 (o : OS w0 wb g a len cap zs kb k p h t w) : w.cell? ⟨wb.heap.size, 0, none⟩ = some (.int .i64 0) := o.ret.cell 0

theorem OS.put1 (o : OS w0 wb g a len cap zs kb k p h t w) (v : Int) : OS w0 wb g a len cap zs kb k v h t (w.setCell ⟨kb, 1, none⟩ (.int .i64 v)) := by
  obtain ⟨c, r, b⟩ := o.put 1 (by omega) (.int .i64 v)
  exact ⟨c, r, b, o.early, o.late⟩

theorem OS.k1 (o : OS w0 wb g a len cap zs kb k p h t w) : w.cell? ⟨kb, 1, none⟩ = some (.int .i64 p) := o.op.cell 1

theorem OS.r1 (o : OS w0 wb g a len cap zs kb k p h t w) : w.cell? ⟨wb.heap.size, 1, none⟩ = some (.int .i64 0) := o.ret.cell 1

theorem OS.put2 (o : OS w0 wb g a len cap zs kb k p h t w) (v : Int) : OS w0 wb g a len cap zs kb k p v t (w.setCell ⟨kb, 2, none⟩ (.int .i64 v)) := by
  obtain ⟨c, r, b⟩ := o.put 2 (by omega) (.int .i64 v)
  exact ⟨c, r, b, o.early, o.late⟩

theorem OS.k2 (o : OS w0 wb g a len cap zs kb k p h t w) : w.cell? ⟨kb, 2, none⟩ = some (.int .i64 h) := o.op.cell 2

theorem OS.r2 (o : OS w0 wb g a len cap zs kb k p h t w) : w.cell? ⟨wb.heap.size, 2, none⟩ = some (.int .i64 0) := o.ret.cell 2

theorem OS.put3 (o : OS w0 wb g a len cap zs kb k p h t w) (v : Int) : OS w0 wb g a len cap zs kb k p h v (w.setCell ⟨kb, 3, none⟩ (.int .i64 v)) := by
  obtain ⟨c, r, b⟩ := o.put 3 (by omega) (.int .i64 v)
  exact ⟨c, r, b, o.early, o.late⟩

theorem OS.k3 (o : OS w0 wb g a len cap zs kb k p h t w) : w.cell? ⟨kb, 3, none⟩ = some (.int .i64 t) := o.op.cell 3

theorem OS.r3 (o : OS w0 wb g a len cap zs kb k p h t w) : w.cell? ⟨wb.heap.size, 3, none⟩ = some (.int .i64 0) := o.ret.cell 3

theorem Cur.put4 {x : World} {b : Nat} (hc : Cur w0 wb g a len cap zs x) (hne : b ≠ g) (h0 : w0.heap.size ≤ b) (h1 : wb.heap.size ≤ b) (v0 v1 v2 v3 : Value) : Cur w0 wb g a len cap zs ((((x.setCell ⟨b, 0, none⟩ v0).setCell ⟨b, 1, none⟩ v1).setCell ⟨b, 2, none⟩ v2).setCell ⟨b, 3, none⟩ v3) := by
  have a0 := hc.put_new hne h0 h1 0 v0
  have a1 := a0.put_new hne h0 h1 1 v1
  have a2 := a1.put_new hne h0 h1 2 v2
  exact a2.put_new hne h0 h1 3 v3

theorem Blk.put4 {x : World} {b : Nat} {c0 c1 c2 c3 : Value} (B : Blk b x #[c0, c1, c2, c3]) (v0 v1 v2 v3 : Value) : Blk b ((((x.setCell ⟨b, 0, none⟩ v0).setCell ⟨b, 1, none⟩ v1).setCell ⟨b, 2, none⟩ v2).setCell ⟨b, 3, none⟩ v3) #[v0, v1, v2, v3] := by
  have a0 := B.put 0 (by simp) v0
  have a1 := a0.put 1 (by simp) v1
  have a2 := a1.put 2 (by simp) v2
  have a3 := a2.put 3 (by simp) v3
  simpa using a3

theorem OS.done (o : OS w0 wb g a len cap zs kb k p h t w) : Cur w0 wb g a len cap zs ((((w.setCell ⟨wb.heap.size, 0, none⟩ (.int .i64 k)).setCell ⟨wb.heap.size, 1, none⟩ (.int .i64 p)).setCell ⟨wb.heap.size, 2, none⟩ (.int .i64 h)).setCell ⟨wb.heap.size, 3, none⟩ (.int .i64 t)) ∧
    Blk wb.heap.size ((((w.setCell ⟨wb.heap.size, 0, none⟩ (.int .i64 k)).setCell ⟨wb.heap.size, 1, none⟩ (.int .i64 p)).setCell ⟨wb.heap.size, 2, none⟩ (.int .i64 h)).setCell ⟨wb.heap.size, 3, none⟩ (.int .i64 t)) (cells4 k p h t) := by
  have he := o.early
  have hlow := o.cur.low
  exact ⟨o.cur.put4 (by omega) (by omega) (by omega) _ _ _ _, Blk.put4 o.ret _ _ _ _⟩
end

set_option maxHeartbeats 1000000 in
set_option maxRecDepth 20000 in
theorem drawOp {w0 wb : World} {g : Nat} {a : Option Addr} {len cap : Nat} {zs : List Int} (w : World) (hc : Cur w0 wb g a len cap zs w) :
    Calls Try.prog 27 #[.pointer (some ⟨g, 0, none⟩)] w fun e w' => ∃ k p h t : Int, e = .returned (.agg #[.int .i64 k, .int .i64 p, .int .i64 h, .int .i64 t]) ∧ Cur w0 w g a len cap zs w' := by
  have he := hc.here
  have hc0 := hc.rebase.alloc (.cells #[.int .i64 0, .int .i64 0, .int .i64 0, .int .i64 0] 34)
  have R : Blk w.heap.size _ (cells4 0 0 0 0) := Blk.new w (cells4 0 0 0 0) 34
  clear hc
  go_enter Try.func27, Try.ntmps27
  go_wp2_with (fail)
  refine (pickB (w.heap.size + 1) _ _ 8 [0, 1, 2, 2, 3, 4, 4, 4] rfl rfl (by omega) (by omega) (w.alloc (.cells #[.int .i64 0, .int .i64 0, .int .i64 0, .int .i64 0] 34)) (by simp) hc0).mono ?_
  rintro _ w1 ⟨k, rfl, _, c1, u1⟩
  replace R := R.touch u1 (by omega)
  clear hc0 u1
  go_wp2_with (fail)
  refine (belowT 30 (by omega) _ c1).mono ?_
  rintro _ w2 ⟨y, rfl, hy0, hy1, c2, u2⟩
  replace R := R.touch u2 (by omega)
  clear c1 u2
  have hwr : IntKind.i64.wrap (y - 5) = y - 5 := by rw [IntWalk.i64_left]; exact IntWalk.wrap64_in _ ⟨by omega, by omega⟩
  have hkb : w.heap.size < w2.heap.size := R.lt
  have O : OS w0 w g a len cap zs w2.heap.size k (y - 5) 0 0 (w2.alloc (.cells #[.int .i64 k, .int .i64 (y - 5), .int .i64 0, .int .i64 0] 34)) := ⟨c2.alloc _, R.since ((Since.refl _).alloc _), Blk.new w2 (cells4 k (y - 5) 0 0) 34, he, hkb⟩
  clear R c2
  by_cases hk2 : k = 2
  · subst hk2
    go_wp2_with (fail)
    refine (belowT 16 (by omega) _ O.cur).mono ?_
    rintro _ w4 ⟨h, rfl, hh0, hh1, c4, u4⟩
    replace O := O.draw c4 u4
    clear c4 u4
    have z2 := O.op.fz 2
    have y2 := O.k2
    replace O := O.put2 h
    go_wp2_with (fail)
    refine (belowT 65535 (by omega) _ O.cur).mono ?_
    rintro _ w5 ⟨t, rfl, ht0, ht1, c5, u5⟩
    replace O := O.draw c5 u5
    clear c5 u5 z2 y2
    have hwt : IntKind.i64.wrap (1 + t) = 1 + t := by rw [IntWalk.i64_left]; exact IntWalk.wrap64_in _ ⟨by omega, by omega⟩
    have z3 := O.op.fz 3
    have y3 := O.k3
    replace O := O.put3 (1 + t)
    have k0 := O.k0
    have k1 := O.k1
    have k2 := O.k2
    have k3 := O.k3
    have g0 := O.op.fz 0
    have g1 := O.op.fz 1
    have g2 := O.op.fz 2
    have g3 := O.op.fz 3
    have r0 := O.r0
    have r1 := O.r1
    have r2 := O.r2
    have r3 := O.r3
    have f0 := O.ret.fz 0
    have f1 := O.ret.fz 1
    have f2 := O.ret.fz 2
    have f3 := O.ret.fz 3
    go_wp2_with (fail)
    refine (onceT 25 _ O.cur).mono ?_
    rintro _ wo ⟨o, rfl, co, uo⟩
    have O8 := O.draw co uo
    clear O co uo k0 k1 k2 k3 g0 g1 g2 g3 r0 r1 r2 r3 f0 f1 f2 f3
    cases o
    · 
      obtain ⟨C, B⟩ := O8.done
      have k0 := O8.k0
      have k1 := O8.k1
      have k2 := O8.k2
      have k3 := O8.k3
      have g0 := O8.op.fz 0
      have g1 := O8.op.fz 1
      have g2 := O8.op.fz 2
      have g3 := O8.op.fz 3
      have r0 := O8.r0
      have r1 := O8.r1
      have r2 := O8.r2
      have r3 := O8.r3
      have f0 := O8.ret.fz 0
      have f1 := O8.ret.fz 1
      have f2 := O8.ret.fz 2
      have f3 := O8.ret.fz 3
      clear O8
      go_wp2
      have b0 := B.cell 0
      have b1 := B.cell 1
      have b2 := B.cell 2
      have b3 := B.cell 3
      refine bodyPost_ret (v := .agg #[.int .i64 2, .int .i64 (y - 5), .int .i64 h, .int .i64 (1 + t)]) ?_ rfl ⟨2, (y - 5), h, (1 + t), rfl, C⟩
      simp only [cells4] at b0 b1 b2 b3
      simp [results, go_sem, b0, b1, b2, b3]
    · go_wp2_with (fail)
      refine (pickB wo.heap.size _ _ 2 [-1, 5] rfl rfl (by omega) (by omega) wo rfl O8.cur).mono ?_
      rintro _ wp ⟨q, rfl, _, cq, uq⟩
      have O9 := O8.draw cq uq
      clear O8 cq uq
      have z0 := O9.op.fz 0
      have z1 := O9.op.fz 1
      have z2 := O9.op.fz 2
      have z3 := O9.op.fz 3
      have y0 := O9.k0
      have y1 := O9.k1
      have y2 := O9.k2
      have y3 := O9.k3
      replace O9 := O9.put0 q
      obtain ⟨C, B⟩ := O9.done
      have k0 := O9.k0
      have k1 := O9.k1
      have k2 := O9.k2
      have k3 := O9.k3
      have g0 := O9.op.fz 0
      have g1 := O9.op.fz 1
      have g2 := O9.op.fz 2
      have g3 := O9.op.fz 3
      have r0 := O9.r0
      have r1 := O9.r1
      have r2 := O9.r2
      have r3 := O9.r3
      have f0 := O9.ret.fz 0
      have f1 := O9.ret.fz 1
      have f2 := O9.ret.fz 2
      have f3 := O9.ret.fz 3
      clear O9
      go_wp2
      have b0 := B.cell 0
      have b1 := B.cell 1
      have b2 := B.cell 2
      have b3 := B.cell 3
      refine bodyPost_ret (v := .agg #[.int .i64 q, .int .i64 (y - 5), .int .i64 h, .int .i64 (1 + t)]) ?_ rfl ⟨q, (y - 5), h, (1 + t), rfl, C⟩
      simp only [cells4] at b0 b1 b2 b3
      simp [results, go_sem, b0, b1, b2, b3]
  · have e2 : (k == 2) = false := by simpa using hk2
    have k0 := O.k0
    have k1 := O.k1
    have k2 := O.k2
    have k3 := O.k3
    have g0 := O.op.fz 0
    have g1 := O.op.fz 1
    have g2 := O.op.fz 2
    have g3 := O.op.fz 3
    have r0 := O.r0
    have r1 := O.r1
    have r2 := O.r2
    have r3 := O.r3
    have f0 := O.ret.fz 0
    have f1 := O.ret.fz 1
    have f2 := O.ret.fz 2
    have f3 := O.ret.fz 3
    go_wp2_with (fail)
    refine (onceT 25 _ O.cur).mono ?_
    rintro _ wo ⟨o, rfl, co, uo⟩
    have O8 := O.draw co uo
    clear O co uo k0 k1 k2 k3 g0 g1 g2 g3 r0 r1 r2 r3 f0 f1 f2 f3
    cases o
    · 
      obtain ⟨C, B⟩ := O8.done
      have k0 := O8.k0
      have k1 := O8.k1
      have k2 := O8.k2
      have k3 := O8.k3
      have g0 := O8.op.fz 0
      have g1 := O8.op.fz 1
      have g2 := O8.op.fz 2
      have g3 := O8.op.fz 3
      have r0 := O8.r0
      have r1 := O8.r1
      have r2 := O8.r2
      have r3 := O8.r3
      have f0 := O8.ret.fz 0
      have f1 := O8.ret.fz 1
      have f2 := O8.ret.fz 2
      have f3 := O8.ret.fz 3
      clear O8
      go_wp2
      have b0 := B.cell 0
      have b1 := B.cell 1
      have b2 := B.cell 2
      have b3 := B.cell 3
      refine bodyPost_ret (v := .agg #[.int .i64 k, .int .i64 (y - 5), .int .i64 0, .int .i64 0]) ?_ rfl ⟨k, (y - 5), 0, 0, rfl, C⟩
      simp only [cells4] at b0 b1 b2 b3
      simp [results, go_sem, b0, b1, b2, b3]
    · go_wp2_with (fail)
      refine (pickB wo.heap.size _ _ 2 [-1, 5] rfl rfl (by omega) (by omega) wo rfl O8.cur).mono ?_
      rintro _ wp ⟨q, rfl, _, cq, uq⟩
      have O9 := O8.draw cq uq
      clear O8 cq uq
      have z0 := O9.op.fz 0
      have z1 := O9.op.fz 1
      have z2 := O9.op.fz 2
      have z3 := O9.op.fz 3
      have y0 := O9.k0
      have y1 := O9.k1
      have y2 := O9.k2
      have y3 := O9.k3
      replace O9 := O9.put0 q
      obtain ⟨C, B⟩ := O9.done
      have k0 := O9.k0
      have k1 := O9.k1
      have k2 := O9.k2
      have k3 := O9.k3
      have g0 := O9.op.fz 0
      have g1 := O9.op.fz 1
      have g2 := O9.op.fz 2
      have g3 := O9.op.fz 3
      have r0 := O9.r0
      have r1 := O9.r1
      have r2 := O9.r2
      have r3 := O9.r3
      have f0 := O9.ret.fz 0
      have f1 := O9.ret.fz 1
      have f2 := O9.ret.fz 2
      have f3 := O9.ret.fz 3
      clear O9
      go_wp2
      have b0 := B.cell 0
      have b1 := B.cell 1
      have b2 := B.cell 2
      have b3 := B.cell 3
      refine bodyPost_ret (v := .agg #[.int .i64 q, .int .i64 (y - 5), .int .i64 0, .int .i64 0]) ?_ rfl ⟨q, (y - 5), 0, 0, rfl, C⟩
      simp only [cells4] at b0 b1 b2 b3
      simp [results, go_sem, b0, b1, b2, b3]

theorem info_netop : (Try.prog.info? 34).map (fun i => (i.zero, i.size, i.bytes)) = some (some (.agg #[.int .i64 0, .int .i64 0, .int .i64 0, .int .i64 0]), 4, 32) := by kernel_rfl

theorem flat_append : ∀ (a b : List Op4), flat (a ++ b) = flat a ++ flat b
  | [], b => rfl
  | o :: r, b => by simp [flat, flat_append r b]

set_option maxHeartbeats 1000000 in
set_option maxRecDepth 20000 in
theorem drawOps {w0 wb : World} {g : Nat} {a : Option Addr} {len cap : Nat} {zs : List Int} (n : Int) (h0 : 0 ≤ n) (hn : n ≤ 2000) (w : World) (hc : Cur w0 wb g a len cap zs w) :
    Calls Try.prog 17 #[.pointer (some ⟨g, 0, none⟩), .int .i64 n] w fun e w' => ∃ (go no co : Nat) (os : List Op4), e = .returned (.slice (some ⟨go, 0, none⟩) no co) ∧ os.length = no ∧ (no : Int) = n ∧ w'.ownsRow w.heap.size 34 4 (.slice (some ⟨go, 0, none⟩) no co) no (flat os) ∧ Cur w0 w g a len cap zs w' := by
  obtain ⟨ii, hi, hz0, hz1, hz2⟩ := info_parts info_netop
  have he := hc.here
  have C0 := hc.rebase.alloc (.cells #[] 34)
  have W0 : (w.alloc (.cells #[] 34)).ownsRow w.heap.size 34 4 (.slice (some ⟨w.heap.size, 0, none⟩) 0 0) 0 [] := World.ownsRow_made w #[] 0 (Nat.le_refl _) (by decide) rfl
  clear hc
  go_enter Try.func17, Try.ntmps17
  go_wp2_with (fail)
  go_loopw [5, 6] (fun v i wr => ∃ (j gr cr : Nat) (os : List Op4), i = .int .i64 j ∧ (j : Int) ≤ n ∧ v = .slice (some ⟨gr, 0, none⟩) j cr ∧ os.length = j ∧ wr.ownsRow w.heap.size 34 4 (.slice (some ⟨gr, 0, none⟩) j cr) j (flat os) ∧ Cur w0 w g a len cap zs wr) (fun _ i _ => n.toNat - (intOf i).toNat)
  case atStart => exact ⟨0, w.heap.size, 0, [], rfl, h0, rfl, rfl, W0, C0⟩
  case round =>
    clear W0 C0
    obtain ⟨j, gr, cr, os, rfl, hj, rfl, hl, W, C⟩ := hrel
    by_cases hlt : (j : Int) < n
    · have hn1 : j + 1 ≤ maxLen := by unfold maxLen; omega
      have hn2 : (j + 1) * 32 ≤ 140737488355328 := by omega
      go_wp2_with (fail)
      refine (drawOp _ C).mono ?_
      rintro _ w2 ⟨k, p, h, t, rfl, c2⟩
      have W2 := owns_touch W c2.touch he
      have C2 := Cur.since C.touch c2
      have C3 := C2.alloc (.cells #[.int .i64 k, .int .i64 p, .int .i64 h, .int .i64 t] 34)
      have W3 := W2.alloc (.cells #[.int .i64 k, .int .i64 p, .int .i64 h, .int .i64 t] 34)
      have hB := W2.lt gr rfl
      have hbase : w.heap.size ≤ (w2.alloc (.cells #[.int .i64 k, .int .i64 p, .int .i64 h, .int .i64 t] 34)).heap.size := by simp; omega
      clear W C c2 C2
      go_wp2_with (at_builtin; refine wpList_append_lies _ rfl _ _ _ rfl w.heap.size 34 ii _ 4 32 Try.underlying27 hi hz0 hz1 hz2 rfl (by omega) (.slice (some ⟨gr, 0, none⟩) j cr) j _ rfl W3 ⟨w2.heap.size, 0, none⟩ 1 1 [.int .i64 k, .int .i64 p, .int .i64 h, .int .i64 t] rfl rfl (World.news_of_block (cs := #[.int .i64 k, .int .i64 p, .int .i64 h, .int .i64 t]) (t := 34) (fr := (0, 0)) (heap_alloc_new w2 _)) (by simp [Value.oneCell']) (by omega) hn1 hn2 hbase (w2.heap.size + 1) (by simp) ?_; intro gg cq w5 hown hgrow hat hlt5)
      have C5 := C3.grown he hgrow (fun q e => by simp only [Value.ownBlock, Option.some.injEq] at e; omega)
      go_roundw
      case rel =>
        refine ⟨j + 1, gg, cq, os ++ [⟨k, p, h, t⟩], by go_num, by omega, rfl, by simp [hl], ?_, C5⟩
        rw [flat_append]
        exact hown
      case measure => simp [intOf]; omega
    · have hjn : (j : Int) = n := by omega
      go_wp2
      go_ret
      exact ⟨gr, j, cr, rfl, os, hl, hjn, W, C⟩
end Go.Proofs.Ythjdcgckonckoaa

namespace Go.Proofs.Ythjdcgckonckoaa
open Go.ChangeShapes Go.WideShapes Go.ChangeAt Go.RowKit
set_option linter.unusedVariables false

theorem Cur.put_any {w0 wb x : World} {g : Nat} {a : Option Addr} {len cap : Nat} {zs : List Int} {b : Nat} (h : Cur w0 wb g a len cap zs x) (hne : b ≠ g) (h0 : w0.heap.size ≤ b) (i : Nat) (v : Value) : Cur w0 (x.setCell ⟨b, i, none⟩ v) g a len cap zs (x.setCell ⟨b, i, none⟩ v) := by
  obtain ⟨j, y, hj, c0, c1, c2, f1, f2⟩ := h.cells
  have hc : ∀ k, (x.setCell ⟨b, i, none⟩ v).cell? ⟨g, k, none⟩ = x.cell? ⟨g, k, none⟩ := fun k => World.cell?_setCell_other x _ _ v (fun e => hne (congrArg Addr.block e))
  refine ⟨h.bytes, h.most, Below.setCell h.bel (p := ⟨b, i, none⟩) h0 v, h.low, by have := h.here; simpa [World.setCell] using this, Touch.refl _ _, j, y, hj, ?_, ?_, ?_, ?_, ?_⟩
  · rw [hc]; exact c0
  · rw [hc]; exact c1
  · rw [hc]; exact c2
  · rw [World.frozen?_setCell]; exact f1
  · rw [World.frozen?_setCell]; exact f2

/-- What is drawn. -/
structure RunDrawn (w w' : World) (ao : Option Addr) (n cp : Nat) (ss : List ByteArray) (go no co : Nat) (os : List Op4) : Prop where
  since : Since w w'
  net : w'.ownsRow w.heap.size 9 1 (.slice ao n cp) n (ss.map Value.string)
  count : ss.length = n
  few : n ≤ 1000
  small : ∀ s ∈ ss, s.size ≤ 2001
  ops : w'.ownsRow w.heap.size 34 4 (.slice (some ⟨go, 0, none⟩) no co) no (flat os)
  olen : os.length = no
  omost : no ≤ 1001

/-- What is carried to the return. -/
structure RS (w w1 : World) (g : Nat) (a : Option Addr) (len cap : Nat) (zs : List Int) (b : Nat) (ao : Option Addr) (n cp : Nat) (ss : List ByteArray) (x : World) : Prop where
  cur : Cur w w1 g a len cap zs x
  ret : Rec1 w.heap.size x (.slice none 0 0)
  here : Rec1 b x (.slice ao n cp)
  net : x.ownsRow w1.heap.size 9 1 (.slice ao n cp) n (ss.map Value.string)
  early : g < w1.heap.size
  first : w.heap.size < w1.heap.size
  other : w.heap.size ≠ g
  late : w1.heap.size ≤ b

section
variable {w w1 : World} {g : Nat} {a : Option Addr} {len cap : Nat} {zs : List Int} {b : Nat} {ao : Option Addr} {n cp : Nat} {ss : List ByteArray} {x y : World}

theorem RS.draw (h : RS w w1 g a len cap zs b ao n cp ss x) (c : Cur w w1 g a len cap zs y) (t : Touch g x y) : RS w w1 g a len cap zs b ao n cp ss y :=
  ⟨c, h.ret.touch t h.other, h.here.touch t (by have := h.early; have := h.late; omega), owns_touch h.net t h.early, h.early, h.first, h.other, h.late⟩

theorem RS.since (h : RS w w1 g a len cap zs b ao n cp ss x) (k : Since x y) : RS w w1 g a len cap zs b ao n cp ss y :=
  ⟨h.cur.moved (g' := g) k, h.ret.since k, h.here.since k, owns_since h.net k, h.early, h.first, h.other, h.late⟩

/-- Behind the store of the net into the answer. -/
theorem RS.told (h : RS w w1 g a len cap zs b ao n cp ss x) : Cur w (x.setCell ⟨w.heap.size, 0, none⟩ (.slice ao n cp)) g a len cap zs (x.setCell ⟨w.heap.size, 0, none⟩ (.slice ao n cp)) ∧ Rec1 w.heap.size (x.setCell ⟨w.heap.size, 0, none⟩ (.slice ao n cp)) (.slice ao n cp) ∧
    Rec1 b (x.setCell ⟨w.heap.size, 0, none⟩ (.slice ao n cp)) (.slice ao n cp) ∧ (x.setCell ⟨w.heap.size, 0, none⟩ (.slice ao n cp)).ownsRow w1.heap.size 9 1 (.slice ao n cp) n (ss.map Value.string) := by
  have h1 := h.first
  have h2 := h.late
  exact ⟨h.cur.put_any h.other (Nat.le_refl _) 0 _, h.ret.put _, h.here.other (by omega) 0 _, owns_touch h.net ((Touch.refl w.heap.size x).put 0 _) h1⟩
end

set_option maxHeartbeats 1000000 in
set_option maxRecDepth 20000 in
theorem drawRun (a : Option Addr) (len cap : Nat) (zs : List Int) (w : World) (hb : Bytes w a len zs) (hm : len ≤ 1048576) :
    Calls Try.prog 5 #[.slice a len cap] w fun e w' => ∃ (ao : Option Addr) (n cp : Nat) (ss : List ByteArray) (go no co : Nat) (os : List Op4), e = .returned (.tuple #[.agg #[.slice ao n cp], .slice (some ⟨go, 0, none⟩) no co]) ∧ RunDrawn w w' ao n cp ss go no co os := by
  have R0 := Rec1.new w (.slice none 0 0) 26
  have S0 := (Since.refl w).alloc (.cells #[.slice none 0 0] 26)
  have hnew := drawNew a len cap zs w hb hm _ S0
  clear hb
  go_enter Try.func5, Try.ntmps5
  go_wp2_with (fail)
  refine hnew.mono ?_
  rintro _ w1 ⟨g, rfl, hg, b1, C1⟩
  clear hnew S0
  replace R0 := R0.since b1
  have hne : w.heap.size ≠ g := by simp only [World.size_alloc] at hg; omega
  go_wp2_with (fail)
  refine (drawNet w1 C1).mono ?_
  rintro _ w2 ⟨ao, n, cp, ss, rfl, D⟩
  have H : RS w w1 g a len cap zs w2.heap.size ao n cp ss (w2.alloc (.cells #[.slice ao n cp] 26)) := ⟨D.cur.alloc _, (R0.touch D.cur.touch hne).since ((Since.refl _).alloc _), Rec1.new w2 _ _, D.row.alloc _, C1.here, R0.lt, hne, D.cur.touch.size⟩
  clear R0 C1 b1
  go_wp2_with (fail)
  refine (size_ a len cap hm 30 (by omega) (by omega) _).mono ?_
  rintro _ _ ⟨z, rfl, hz0, hz1, rfl⟩
  go_wp2_with (fail)
  refine (belowT z hz0 _ H.cur).mono ?_
  rintro _ w4 ⟨k, rfl, hk0, hk1, c4, t4⟩
  replace H := H.draw c4 t4
  clear c4 t4
  go_wp2_with (fail)
  refine (onceT 60 _ H.cur).mono ?_
  rintro _ w5 ⟨o, rfl, c5, t5⟩
  replace H := H.draw c5 t5
  clear c5 t5
  cases o
  · go_wp2_with (fail)
    have H1 := H.since ((Since.refl w5).drew)
    obtain ⟨cT, rT, bT, nT⟩ := H1.told
    have s0 := H1.here.c0
    have f0 := H1.ret.fz 0
    have q0 := H1.ret.c0
    have hsz : w.heap.size < (w5.drew).heap.size := H1.ret.lt
    have hszT : w.heap.size < ((w5.drew).setCell ⟨w.heap.size, 0, none⟩ (.slice ao n cp)).heap.size := rT.lt
    clear H
    go_region_law
      (first
        | (refine step_call 17 Try.func17 (by rfl) (by rfl) _ _ _ _ _ (by rfl) (by rfl) (by rfl) (by rfl) (drawOps k (by omega) (by omega) w5.drew H1.cur) ?_; rintro _ w7 ⟨go, no, co, os, rfl, hol, hno, hops, c7⟩; refine ⟨_, rfl, ?_⟩; have H7 := H1.draw (Cur.since H1.cur.touch c7) c7.touch; have s7 := H7.here.c0; have f7 := H7.ret.fz 0; have q7 := H7.ret.c0; obtain ⟨cE, rE, bE, nE⟩ := H7.told; have hE : RunDrawn w (w7.setCell ⟨w.heap.size, 0, none⟩ (.slice ao n cp)) ao n cp ss go no co os := ⟨cE.bel, owns_low nE (Nat.le_of_lt H7.first), D.count, D.few, D.small, owns_low (owns_touch hops ((Touch.refl w.heap.size w7).put 0 _) hsz) (Nat.le_of_lt hsz), hol, by omega⟩; have e0 := rE.c0)
        | (refine step_call 17 Try.func17 (by rfl) (by rfl) _ _ _ _ _ (by rfl) (by rfl) (by rfl) (by rfl) (drawOps k (by omega) (by omega) ((w5.drew).setCell ⟨w.heap.size, 0, none⟩ (.slice ao n cp)) cT) ?_; rintro _ w7 ⟨go, no, co, os, rfl, hol, hno, hops, c7⟩; refine ⟨_, rfl, ?_⟩; have hE : RunDrawn w w7 ao n cp ss go no co os := ⟨c7.bel, owns_low (owns_touch nT c7.touch H1.early) (Nat.le_of_lt H1.first), D.count, D.few, D.small, owns_low hops (Nat.le_of_lt hszT), hol, by omega⟩; have e0 := (rT.touch c7.touch H1.other).c0))
    all_goals
      go_wp2
      refine bodyPost_ret (v := .tuple #[.agg #[.slice ao n cp], .slice (some ⟨go, 0, none⟩) no co]) ?_ rfl ⟨_, _, _, _, _, _, _, _, rfl, hE⟩
      simp [results, go_sem, e0]
  · go_wp2_with (fail)
    refine (belowT 2 (by omega) _ H.cur).mono ?_
    rintro _ w6 ⟨m, rfl, hm0, hm1, c6, t6⟩
    replace H := H.draw c6 t6
    clear c6 t6
    have hwr : IntKind.i64.wrap (1000 + m) = 1000 + m := by rw [IntWalk.i64_left]; exact IntWalk.wrap64_in _ ⟨by omega, by omega⟩
    go_wp2_with (fail)
    have H1 := H.since ((Since.refl w6).drew)
    obtain ⟨cT, rT, bT, nT⟩ := H1.told
    have s0 := H1.here.c0
    have f0 := H1.ret.fz 0
    have q0 := H1.ret.c0
    have hsz : w.heap.size < (w6.drew).heap.size := H1.ret.lt
    have hszT : w.heap.size < ((w6.drew).setCell ⟨w.heap.size, 0, none⟩ (.slice ao n cp)).heap.size := rT.lt
    clear H
    go_region_law
      (first
        | (refine step_call 17 Try.func17 (by rfl) (by rfl) _ _ _ _ _ (by rfl) (by rfl) (by rfl) (by rfl) (drawOps (1000 + m) (by omega) (by omega) w6.drew H1.cur) ?_; rintro _ w7 ⟨go, no, co, os, rfl, hol, hno, hops, c7⟩; refine ⟨_, rfl, ?_⟩; have H7 := H1.draw (Cur.since H1.cur.touch c7) c7.touch; have s7 := H7.here.c0; have f7 := H7.ret.fz 0; have q7 := H7.ret.c0; obtain ⟨cE, rE, bE, nE⟩ := H7.told; have hE : RunDrawn w (w7.setCell ⟨w.heap.size, 0, none⟩ (.slice ao n cp)) ao n cp ss go no co os := ⟨cE.bel, owns_low nE (Nat.le_of_lt H7.first), D.count, D.few, D.small, owns_low (owns_touch hops ((Touch.refl w.heap.size w7).put 0 _) hsz) (Nat.le_of_lt hsz), hol, by omega⟩; have e0 := rE.c0)
        | (refine step_call 17 Try.func17 (by rfl) (by rfl) _ _ _ _ _ (by rfl) (by rfl) (by rfl) (by rfl) (drawOps (1000 + m) (by omega) (by omega) ((w6.drew).setCell ⟨w.heap.size, 0, none⟩ (.slice ao n cp)) cT) ?_; rintro _ w7 ⟨go, no, co, os, rfl, hol, hno, hops, c7⟩; refine ⟨_, rfl, ?_⟩; have hE : RunDrawn w w7 ao n cp ss go no co os := ⟨c7.bel, owns_low (owns_touch nT c7.touch H1.early) (Nat.le_of_lt H1.first), D.count, D.few, D.small, owns_low hops (Nat.le_of_lt hszT), hol, by omega⟩; have e0 := (rT.touch c7.touch H1.other).c0))
    all_goals
      go_wp2
      refine bodyPost_ret (v := .tuple #[.agg #[.slice ao n cp], .slice (some ⟨go, 0, none⟩) no co]) ?_ rfl ⟨_, _, _, _, _, _, _, _, rfl, hE⟩
      simp [results, go_sem, e0]
end Go.Proofs.Ythjdcgckonckoaa
