/-
  The draw of a clock and ticks.
-/
import Derived.Test.YtgdhdeadbmeejaaDrawClk
import Derived.Deep.RegionLaw
namespace Go.Proofs.Ytgdhdeadbmeejaa
open Go.ChangeShapes Go.WideShapes Go.ChangeAt Go.RowKit Go.Deep
set_option linter.unusedVariables false

/-- A call of a function of one argument at a step of a drawn region, by its contract (for go_region_law). -/
theorem step_call1 {ops : Array Oper} {o : Oper} {a : Act} {w : World} {K : Act → World → Prop} {Q : Exit → Act → World → Prop} {E : Prop} {post : Ending → World → Prop} {fn : Func} (f : FuncId) (hf : Try.prog.funcs[f]? = some fn) (hn : (fn.name == "runtime.NumGoroutine") = false) (hb : fn.body.isNone = false) (x1 : Operand) (ts : Array TypeId) (v1 : Value) (hgd : o.guard = none)
    (ho : o.op = .call { callee := .value (.func f), args := #[x1], argTypes := ts }) (h1 : a.eval x1 = v1) (hc : Calls Try.prog f #[v1] w post) (k : ∀ e w', post e w' → ∃ v, e = .returned v ∧ K (a.put o.dst v) w') :
    if Region.wanted o (yielded ops a.tmps) = true then Oper.wp Try.prog o a w K Q else E := by
  have hw : Region.wanted o (yielded ops a.tmps) = true := by simp [Region.wanted, hgd]
  rw [if_pos hw]
  have hr : (execOp a.eval o).run Try.prog w = .ok (.enter f #[v1]) w := by
    have hn' : fn.name ≠ "runtime.NumGoroutine" := by simpa using hn
    have hb' : fn.body ≠ none := by
      intro e
      rw [e] at hb
      cases hb
    subst h1
    simp [execOp, ho, resolve, invoke, Act.eval, go_sem, callFunc, hf, hn', hb']
  unfold Oper.wp
  rw [hr, Oper.upon_enter]
  refine hc.mono ?_
  intro e w' h
  obtain ⟨v, rfl, hK⟩ := k e w' h
  exact hK

theorem Cur.putA {w0 wb x : World} {g : Nat} {a : Option Addr} {len cap : Nat} {zs : List Int} {b : Nat} (h : Cur w0 wb g a len cap zs x) (hne : b ≠ g) (h0 : w0.heap.size ≤ b) (i : Nat) (v : Value) : Cur w0 (x.setCell ⟨b, i, none⟩ v) g a len cap zs (x.setCell ⟨b, i, none⟩ v) := by
  obtain ⟨j, y, hj, c0, c1, c2, f1, f2⟩ := h.cells
  have hc : ∀ k, (x.setCell ⟨b, i, none⟩ v).cell? ⟨g, k, none⟩ = x.cell? ⟨g, k, none⟩ := fun k => World.cell?_setCell_other x _ _ v (fun e => hne (congrArg Addr.block e))
  refine ⟨h.bytes, h.most, Below.setCell h.bel (p := ⟨b, i, none⟩) h0 v, h.low, by have := h.here; simpa [World.setCell] using this, Touch.refl _ _, j, y, hj, ?_, ?_, ?_, ?_, ?_⟩
  · rw [hc]; exact c0
  · rw [hc]; exact c1
  · rw [hc]; exact c2
  · rw [World.frozen?_setCell]; exact f1
  · rw [World.frozen?_setCell]; exact f2

set_option maxHeartbeats 4000000 in
set_option maxRecDepth 20000 in
theorem drawClkGo (a : Option Addr) (len cap : Nat) (zs : List Int) (w : World) (hb : Bytes w a len zs) (hm : len ≤ 1048576) :
    Calls Try.prog 5 #[.slice a len cap] w fun e w' => ∃ (now : Int) (av : Option Addr) (n cv : Nat) (ts : List (Int × Int)) (t : Int), e = .returned (.tuple #[.agg #[.int .i64 now, .slice av n cv], .int .i64 t]) ∧ Own shT w' w.heap.size (.slice av n cv) n ts ∧ n ≤ 200 ∧ Since w w' := by
  have R0 := Blk.new w #[.int .i64 0, .slice none 0 0] 26
  have S0 := (Since.refl w).alloc (.cells #[.int .i64 0, .slice none 0 0] 26)
  have hnew := drawNew a len cap zs w hb hm _ S0
  clear hb
  go_enter Try.func5, Try.ntmps5
  go_wp2_with (fail)
  refine hnew.mono ?_
  rintro _ w1 ⟨g, rfl, hg, b1, C1⟩
  clear hnew S0
  have hR0 := R0.lt
  replace R0 := R0.since b1
  have hne : w.heap.size ≠ g := by simp only [World.size_alloc] at hg; omega
  have hw1 := b1.size
  simp only [World.size_alloc] at hw1
  go_wp2_with (fail)
  refine (drawClk w1 C1).mono ?_
  rintro _ w2 ⟨now, av, n, cv, ts, rfl, T2, hn, C2⟩
  replace R0 := R0.touch C2.touch hne
  have hw2 := C2.touch.size
  have hc1 := C1.here
  have kz : Since w2 ((w2.alloc (.cells #[.int .i64 now, .slice av n cv] 26)).drew) := ((Since.refl _).alloc _).drew
  have K := (Blk.new w2 #[.int .i64 now, .slice av n cv] 26).since ((Since.refl _).drew)
  have R := R0.since kz
  have T := T2.since kz
  have C := (Cur.rebase C2).moved (g' := g) kz
  clear R0 T2 C2 C1 b1
  go_wp2_with (fail)
  generalize w2.alloc (.cells #[.int .i64 now, .slice av n cv] 26) = Y at *
  have k0 := K.cell 0
  have k1 := K.cell 1
  have r0 := R.cell 0
  have r1 := R.cell 1
  simp at k0 k1 r0 r1
  have f0 := R.fz 0
  have f1 := R.fz 1
  have hTl : ∀ q, (Value.slice av n cv).ownBlock = some q → w1.heap.size ≤ q := fun q e => (T.lt e).1
  have hgl := C.here
  have hgw2 : g < w2.heap.size := by have := hc1; omega
  have hKl := K.lt
  have hRl := R.lt
  have C' := (C.putA (b := w.heap.size) hne (Nat.le_refl _) 0 (.int .i64 now)).putA (b := w.heap.size) hne (Nat.le_refl _) 1 (.slice av n cv)
  have R' := (R.put 0 (.int .i64 now) (by simp)).put 1 (.slice av n cv) (by simp)
  have T' : Own shT _ w1.heap.size (.slice av n cv) n ts := T.touch (((Touch.refl w.heap.size Y.drew).put 0 (.int .i64 now)).put 1 (.slice av n cv)) (fun e => by have := hTl _ e; omega)
  have hfld : ∀ (k i t : Int) (wx : World), (Instr.field 43 (.agg #[.int .i64 k, .int .i64 i, .int .i64 t]) 2).run Try.prog wx = .ok (.int .i64 t) wx := fun _ _ _ _ => by kernel_rfl
  go_region_law
    (first
      | (refine step_call1 17 Try.func17 (by rfl) (by rfl) _ _ _ (by rfl) (by rfl) (by rfl) (drawOp6 Y.drew C) ?_; rintro _ w7 ⟨k, i, t, rfl, c7⟩; refine ⟨_, rfl, ?_⟩; have R7 := R.touch c7.touch hne; have K7 := K.touch c7.touch (by omega); have T7 := T.touch c7.touch (fun e => by have := hTl _ e; omega); have d0 := K7.cell 0; have d1 := K7.cell 1; have s0 := R7.cell 0; have s1 := R7.cell 1; simp at d0 d1 s0 s1; have x0 := R7.fz 0; have x1 := R7.fz 1; have R8 := (R7.put 0 (.int .i64 now) (by simp)).put 1 (.slice av n cv) (by simp); have hE : Own shT _ w.heap.size (.slice av n cv) n ts := (T7.touch (((Touch.refl w.heap.size w7).put 0 (.int .i64 now)).put 1 (.slice av n cv)) (fun e => by have := hTl _ e; omega)).low (by omega); have hS : Since w _ := since_put1 (since_put1 c7.bel (Nat.le_refl _) 0 (.int .i64 now)) (Nat.le_refl _) 1 (.slice av n cv); have e0 := R8.cell 0; have e1 := R8.cell 1; simp at e0 e1)
      | (refine step_call1 17 Try.func17 (by rfl) (by rfl) _ _ _ (by rfl) (by rfl) (by rfl) (drawOp6 ((Y.drew.setCell ⟨w.heap.size, 0, none⟩ (.int .i64 now)).setCell ⟨w.heap.size, 1, none⟩ (.slice av n cv)) C') ?_; rintro _ w7 ⟨k, i, t, rfl, c7⟩; refine ⟨_, rfl, ?_⟩; have R8 := R'.touch c7.touch hne; have hE : Own shT _ w.heap.size (.slice av n cv) n ts := (T'.touch c7.touch (fun e => by have := hTl _ e; omega)).low (by omega); have hS : Since w _ := c7.bel; have e0 := R8.cell 0; have e1 := R8.cell 1; simp at e0 e1))
  all_goals
    go_wp2
    refine bodyPost_ret (v := .tuple #[.agg #[.int .i64 now, .slice av n cv], .int .i64 t]) ?_ rfl ⟨now, av, n, cv, ts, t, rfl, hE, hn, hS⟩
    simp [results, go_sem, e0, e1]
end Go.Proofs.Ytgdhdeadbmeejaa
