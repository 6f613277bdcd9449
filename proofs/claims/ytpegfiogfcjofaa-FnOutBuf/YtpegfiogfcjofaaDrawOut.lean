/-
  The draw of a buffer of bytes to be sent, and of one and a text.
-/
import Derived.Test.YtpegfiogfcjofaaDrawT
import Derived.Test.YtpegfiogfcjofaaOut
import Derived.Test.YtpegfiogfcjofaaTab
import Derived.Deep.RegionLaw
namespace Go.Proofs.Ytpegfiogfcjofaa
open Go.ChangeShapes Go.WideShapes Go.ChangeAt Go.RowKit Go.Deep
set_option linter.unusedVariables false

theorem wordO {w0 wb : World} {g : Nat} {a : Option Addr} {len cap : Nat} {zs : List Int} (w : World) (hc : Cur w0 wb g a len cap zs w) :
    Calls Try.prog 63 #[.pointer (some ⟨g, 0, none⟩)] w fun e w' => ∃ x : Int, e = .returned (.int .u32 x) ∧ IsWord x ∧ Cur w0 wb g a len cap zs w' ∧ Touch g w w' :=
  (drawWord w hc.rebase).mono fun e w' ⟨x, he, hx, h⟩ => ⟨x, he, hx, Cur.since hc.touch h, h.touch⟩

set_option maxHeartbeats 4000000 in
set_option maxRecDepth 20000 in
theorem drawOut {w0 wb : World} {g : Nat} {a : Option Addr} {len cap : Nat} {zs : List Int} (w : World) (hc : Cur w0 wb g a len cap zs w) :
    Calls Try.prog 33 #[.pointer (some ⟨g, 0, none⟩)] w fun e w' => ∃ (f : Int) (d : ByteArray) (r : Int), e = .returned (.agg #[.int .u32 f, .string d, .int .i64 r]) ∧ IsWord f ∧ d.size ≤ 100 ∧ (-1 ≤ r ∧ r ≤ 4097) ∧ Cur w0 w g a len cap zs w' := by
  have he := hc.here
  have hlow := hc.low
  have c0 := hc.rebase.alloc (.cells #[.int .u32 0, .string ⟨#[]⟩, .int .i64 0] 26)
  have R := Blk.new w #[.int .u32 0, .string ⟨#[]⟩, .int .i64 0] 26
  have hle := hc.bel.size
  clear hc
  go_enter Try.func33, Try.ntmps33
  go_wp2_with (fail)
  refine (belowT 60 (by omega) _ c0).mono ?_
  rintro _ w1 ⟨p, rfl, hp0, hp1, c1, u1⟩
  replace R := R.touch u1 (by omega)
  clear c0 u1
  go_wp2_with (fail)
  refine (wordO _ c1).mono ?_
  rintro _ w2 ⟨f, rfl, hf, c2, u2⟩
  replace R := R.touch u2 (by omega)
  clear c1 u2
  go_wp2_with (fail)
  refine (belowT _ (by omega) _ c2).mono ?_
  rintro _ w3 ⟨k, rfl, hk0, hk1, c3, u3⟩
  replace R := R.touch u3 (by omega)
  clear c2 u3
  go_wp2_with (fail)
  refine (textT _ (by omega) (by omega) _ c3).mono ?_
  rintro _ w4 ⟨d, rfl, hd, c4, u4⟩
  replace R := R.touch u4 (by omega)
  clear c3 u4
  have hRl := R.lt
  have hcl := c4.here
  have K := Blk.new w4 #[.int .u32 f, .string d, .int .i64 (1 + p)] 26
  have ka := (Since.refl w4).alloc (.cells #[.int .u32 f, .string d, .int .i64 (1 + p)] 26)
  replace R := R.since ka
  have c5 := c4.alloc (.cells #[.int .u32 f, .string d, .int .i64 (1 + p)] 26)
  clear c4 ka
  go_wp2_with (fail)
  refine (belowT 16 (by omega) _ c5).mono ?_
  rintro _ w6 ⟨s, rfl, hs0, hs1, c6, u6⟩
  replace R := R.touch u6 (by omega)
  replace K := K.touch u6 (by omega)
  clear c5 u6
  have hKl := K.lt
  by_cases h0 : s = 0
  · subst h0
    have k1' := K.cell 1
    simp at k1'
    have z2 := K.cell 2
    simp at z2
    have hw1 : wrap64 (k - 1) = k - 1 := IntWalk.wrap64_in _ ⟨by omega, by omega⟩
    go_wp2_with (fail)
    refine (pickT _ _ 4 [0, -1, 4097, k - 1] rfl rfl (by omega) (by omega) w6 c6).mono ?_
    rintro _ w7 ⟨q, rfl, hq, c7, u7⟩
    have hq1 : -1 ≤ q ∧ q ≤ 4097 := by
      simp at hq
      omega
    replace R := R.touch u7 (by omega)
    replace K := K.touch u7 (by omega)
    clear c6 u7 hq k1' z2
    have z2 := K.cell 2
    simp at z2
    have z3 := K.fz 2
    have K2 := K.put 2 (.int .i64 q) (by simp)
    simp at K2
    replace R := R.other (show w.heap.size ≠ w4.heap.size by omega) 2 (.int .i64 q)
    have c8 := c7.put_new (show w4.heap.size ≠ g by omega) (by omega) (by omega) 2 (.int .i64 q)
    clear K c7
    have k0 := K2.cell 0
    have k1 := K2.cell 1
    have k2 := K2.cell 2
    have r0 := R.cell 0
    have r1 := R.cell 1
    have r2 := R.cell 2
    simp at k0 k1 k2 r0 r1 r2
    have f0 := R.fz 0
    have f1 := R.fz 1
    have f2 := R.fz 2
    have R3 := ((R.put 0 (.int .u32 f) (by simp)).put 1 (.string d) (by simp)).put 2 (.int .i64 q) (by simp)
    have b0 := R3.cell 0
    have b1 := R3.cell 1
    have b2 := R3.cell 2
    simp at b0 b1 b2
    have c9 := ((c8.put_new (show w.heap.size ≠ g by omega) (by omega) (by omega) 0 (.int .u32 f)).put_new (show w.heap.size ≠ g by omega) (by omega) (by omega) 1 (.string d)).put_new (show w.heap.size ≠ g by omega) (by omega) (by omega) 2 (.int .i64 q)
    clear K2 R R3 c8
    go_wp2
    refine bodyPost_ret (v := .agg #[.int .u32 f, .string d, .int .i64 q]) ?_ rfl ⟨f, d, q, rfl, hf, by omega, ⟨by omega, by omega⟩, c9⟩
    simp [results, go_sem, b0, b1, b2]
  have e0 : (s == 0) = false := by simpa using h0
  by_cases h1 : s = 1
  · subst h1
    have z2 := K.cell 2
    simp at z2
    have z3 := K.fz 2
    have c7 := c6
    clear c6
    have K2 := K.put 2 (.int .i64 4096) (by simp)
    simp at K2
    replace R := R.other (show w.heap.size ≠ w4.heap.size by omega) 2 (.int .i64 4096)
    have c8 := c7.put_new (show w4.heap.size ≠ g by omega) (by omega) (by omega) 2 (.int .i64 4096)
    clear K c7
    have k0 := K2.cell 0
    have k1 := K2.cell 1
    have k2 := K2.cell 2
    have r0 := R.cell 0
    have r1 := R.cell 1
    have r2 := R.cell 2
    simp at k0 k1 k2 r0 r1 r2
    have f0 := R.fz 0
    have f1 := R.fz 1
    have f2 := R.fz 2
    have R3 := ((R.put 0 (.int .u32 f) (by simp)).put 1 (.string d) (by simp)).put 2 (.int .i64 4096) (by simp)
    have b0 := R3.cell 0
    have b1 := R3.cell 1
    have b2 := R3.cell 2
    simp at b0 b1 b2
    have c9 := ((c8.put_new (show w.heap.size ≠ g by omega) (by omega) (by omega) 0 (.int .u32 f)).put_new (show w.heap.size ≠ g by omega) (by omega) (by omega) 1 (.string d)).put_new (show w.heap.size ≠ g by omega) (by omega) (by omega) 2 (.int .i64 4096)
    clear K2 R R3 c8
    go_wp2
    refine bodyPost_ret (v := .agg #[.int .u32 f, .string d, .int .i64 4096]) ?_ rfl ⟨f, d, 4096, rfl, hf, by omega, ⟨by omega, by omega⟩, c9⟩
    simp [results, go_sem, b0, b1, b2]
  have e1 : (s == 1) = false := by simpa using h1
  have K2 := K
  have c8 := c6
  clear K c6
  have k0 := K2.cell 0
  have k1 := K2.cell 1
  have k2 := K2.cell 2
  have r0 := R.cell 0
  have r1 := R.cell 1
  have r2 := R.cell 2
  simp at k0 k1 k2 r0 r1 r2
  have f0 := R.fz 0
  have f1 := R.fz 1
  have f2 := R.fz 2
  have R3 := ((R.put 0 (.int .u32 f) (by simp)).put 1 (.string d) (by simp)).put 2 (.int .i64 (1 + p)) (by simp)
  have b0 := R3.cell 0
  have b1 := R3.cell 1
  have b2 := R3.cell 2
  simp at b0 b1 b2
  have c9 := ((c8.put_new (show w.heap.size ≠ g by omega) (by omega) (by omega) 0 (.int .u32 f)).put_new (show w.heap.size ≠ g by omega) (by omega) (by omega) 1 (.string d)).put_new (show w.heap.size ≠ g by omega) (by omega) (by omega) 2 (.int .i64 (1 + p))
  clear K2 R R3 c8
  go_wp2
  refine bodyPost_ret (v := .agg #[.int .u32 f, .string d, .int .i64 (1 + p)]) ?_ rfl ⟨f, d, (1 + p), rfl, hf, by omega, ⟨by omega, by omega⟩, c9⟩
  simp [results, go_sem, b0, b1, b2]

/-- A call of a function at a step of a drawn region, by its contract (for go_region_law). -/
theorem step_callO {ops : Array Oper} {o : Oper} {a : Act} {w : World} {K : Act → World → Prop} {Q : Exit → Act → World → Prop} {E : Prop} {post : Ending → World → Prop} {fn : Func} (f : FuncId) (hf : Try.prog.funcs[f]? = some fn) (hn : (fn.name == "runtime.NumGoroutine") = false) (hb : fn.body.isNone = false) (x1 x2 : Operand) (ts : Array TypeId) (v1 v2 : Value) (hgd : o.guard = none)
    (ho : o.op = .call { callee := .value (.func f), args := #[x1, x2], argTypes := ts }) (h1 : a.eval x1 = v1) (h2 : a.eval x2 = v2) (hc : Calls Try.prog f #[v1, v2] w post) (k : ∀ e w', post e w' → ∃ v, e = .returned v ∧ K (a.put o.dst v) w') :
    if Region.wanted o (yielded ops a.tmps) = true then Oper.wp Try.prog o a w K Q else E := by
  have hw : Region.wanted o (yielded ops a.tmps) = true := by simp [Region.wanted, hgd]
  rw [if_pos hw]
  have hr : (execOp a.eval o).run Try.prog w = .ok (.enter f #[v1, v2]) w := by
    have hn' : fn.name ≠ "runtime.NumGoroutine" := by simpa using hn
    have hb' : fn.body ≠ none := by
      intro e
      rw [e] at hb
      cases hb
    subst h1 h2
    simp [execOp, ho, resolve, invoke, Act.eval, go_sem, callFunc, hf, hn', hb']
  unfold Oper.wp
  rw [hr, Oper.upon_enter]
  refine hc.mono ?_
  intro e w' h
  obtain ⟨v, rfl, hK⟩ := k e w' h
  exact hK

/-- A buffer under way: the cursor, the buffer's variable, the answer's. -/
structure OB (w0 wb : World) (g : Nat) (a : Option Addr) (len cap : Nat) (zs : List Int) (rb kb : Nat) (v0 v1 v2 z0 z1 z2 : Value) (x : World) : Prop where
  cur : Cur w0 wb g a len cap zs x
  here : Blk kb x #[v0, v1, v2]
  ret : Blk rb x #[z0, z1, z2]
  ne1 : kb ≠ g
  ne2 : rb ≠ g
  ne3 : kb ≠ rb
  low0 : w0.heap.size ≤ rb
  low1 : wb.heap.size ≤ rb

theorem OB.draw {w0 wb : World} {g : Nat} {a : Option Addr} {len cap : Nat} {zs : List Int} {rb kb : Nat} {v0 v1 v2 z0 z1 z2 : Value} {x y : World} (h : OB w0 wb g a len cap zs rb kb v0 v1 v2 z0 z1 z2 x) (c : Cur w0 wb g a len cap zs y) (t : Touch g x y) : OB w0 wb g a len cap zs rb kb v0 v1 v2 z0 z1 z2 y :=
  ⟨c, h.here.touch t h.ne1, h.ret.touch t h.ne2, h.ne1, h.ne2, h.ne3, h.low0, h.low1⟩

theorem OB.fill {w0 wb : World} {g : Nat} {a : Option Addr} {len cap : Nat} {zs : List Int} {rb kb : Nat} {v0 v1 v2 z0 z1 z2 : Value} {x : World} (h : OB w0 wb g a len cap zs rb kb v0 v1 v2 z0 z1 z2 x) : OB w0 wb g a len cap zs rb kb v0 v1 v2 v0 v1 v2 (((x.setCell ⟨rb, 0, none⟩ v0).setCell ⟨rb, 1, none⟩ v1).setCell ⟨rb, 2, none⟩ v2) :=
  ⟨((h.cur.put_new h.ne2 h.low0 h.low1 0 _).put_new h.ne2 h.low0 h.low1 1 _).put_new h.ne2 h.low0 h.low1 2 _, ((h.here.other h.ne3 0 _).other h.ne3 1 _).other h.ne3 2 _, by simpa using ((h.ret.put 0 v0 (by simp)).put 1 v1 (by simp)).put 2 v2 (by simp), h.ne1, h.ne2, h.ne3, h.low0, h.low1⟩

set_option maxHeartbeats 4000000 in
set_option maxRecDepth 20000 in
theorem drawOutPut (a : Option Addr) (len cap : Nat) (zs : List Int) (w : World) (hb : Bytes w a len zs) (hm : len ≤ 1048576) :
    Calls Try.prog 10 #[.slice a len cap] w fun e w' => ∃ (f : Int) (d : ByteArray) (r : Int) (s : ByteArray), e = .returned (.tuple #[.agg #[.int .u32 f, .string d, .int .i64 r], .string s]) ∧ IsWord f ∧ d.size ≤ 100 ∧ (-1 ≤ r ∧ r ≤ 4097) ∧ s.size ≤ 100 ∧ Since w w' := by
  have R0 := Blk.new w #[.int .u32 0, .string ⟨#[]⟩, .int .i64 0] 26
  have S0 := (Since.refl w).alloc (.cells #[.int .u32 0, .string ⟨#[]⟩, .int .i64 0] 26)
  have hnew := drawNew a len cap zs w hb hm _ S0
  clear hb
  go_enter Try.func10, Try.ntmps10
  go_wp2_with (fail)
  refine hnew.mono ?_
  rintro _ w1 ⟨g, rfl, hg, b1, C1⟩
  clear hnew S0
  have hR0 := R0.lt
  replace R0 := R0.since b1
  have hne : w.heap.size ≠ g := by simp only [World.size_alloc] at hg; omega
  have hw1 := b1.size
  simp only [World.size_alloc] at hw1
  go_wp2_with (fail)
  refine (drawOut w1 C1).mono ?_
  rintro _ w2 ⟨f, d, r, rfl, hf, hd, hr, C2⟩
  replace R0 := R0.touch C2.touch hne
  have hc2 := C2.here
  have hR2 := R0.lt
  have kz : Since w2 ((w2.alloc (.cells #[.int .u32 f, .string d, .int .i64 r] 26)).drew) := ((Since.refl _).alloc _).drew
  have K := (Blk.new w2 #[.int .u32 f, .string d, .int .i64 r] 26).since ((Since.refl _).drew)
  have R := R0.since kz
  have C : Cur w w g a len cap zs _ := ⟨(C2.moved (g' := g) kz).bytes, C2.most, (C2.moved (g' := g) kz).bel, C2.low, (C2.moved (g' := g) kz).here, Touch.of_below (C2.moved (g' := g) kz).bel (fun k hk _ => hk), (C2.moved (g' := g) kz).cells⟩
  clear R0 C2 C1 b1
  go_wp2_with (fail)
  generalize w2.alloc (.cells #[.int .u32 f, .string d, .int .i64 r] 26) = Y at *
  have H : OB w w g a len cap zs w.heap.size w2.heap.size _ _ _ _ _ _ Y.drew := ⟨C, K, R, by omega, hne, by omega, Nat.le_refl _, Nat.le_refl _⟩
  clear C K R kz
  have kH0 := H.here.cell 0; have kH1 := H.here.cell 1; have kH2 := H.here.cell 2; have rH0 := H.ret.cell 0; have rH1 := H.ret.cell 1; have rH2 := H.ret.cell 2; simp at kH0 kH1 kH2 rH0 rH1 rH2; have fH0 := H.ret.fz 0; have fH1 := H.ret.fz 1; have fH2 := H.ret.fz 2
  have H1 := H.fill
  go_region_law (first | (refine step_callO 35 Try.func35 (by rfl) (by rfl) _ _ _ _ _ (by rfl) (by rfl) (by rfl) (by rfl) (belowT 50 (by omega) _ H.cur) ?_; rintro _ w7 ⟨n, rfl, hn0, hn1, c7, u7⟩; refine ⟨_, rfl, ?_⟩; have HA := H.draw c7 u7; clear c7 u7; have kHA0 := HA.here.cell 0; have kHA1 := HA.here.cell 1; have kHA2 := HA.here.cell 2; have rHA0 := HA.ret.cell 0; have rHA1 := HA.ret.cell 1; have rHA2 := HA.ret.cell 2; simp at kHA0 kHA1 kHA2 rHA0 rHA1 rHA2; have fHA0 := HA.ret.fz 0; have fHA1 := HA.ret.fz 1; have fHA2 := HA.ret.fz 2; have HB := HA.fill) | (refine step_callO 35 Try.func35 (by rfl) (by rfl) _ _ _ _ _ (by rfl) (by rfl) (by rfl) (by rfl) (belowT 50 (by omega) _ H1.cur) ?_; rintro _ w7 ⟨n, rfl, hn0, hn1, c7, u7⟩; refine ⟨_, rfl, ?_⟩; have HC := H1.draw c7 u7; clear c7 u7) | (refine step_callO 34 Try.func34 (by rfl) (by rfl) _ _ _ _ _ (by rfl) (by rfl) (by rfl) (by rfl) (textT n (by omega) (by omega) _ HC.cur) ?_; rintro _ w8 ⟨s, rfl, hs, c7, u7⟩; refine ⟨_, rfl, ?_⟩; have HF := HC.draw c7 u7; clear c7 u7; have e0 := HF.ret.cell 0; have e1 := HF.ret.cell 1; have e2 := HF.ret.cell 2; simp at e0 e1 e2; have hE := HF.cur.bel) | (refine step_callO 34 Try.func34 (by rfl) (by rfl) _ _ _ _ _ (by rfl) (by rfl) (by rfl) (by rfl) (textT n (by omega) (by omega) _ HB.cur) ?_; rintro _ w8 ⟨s, rfl, hs, c7, u7⟩; refine ⟨_, rfl, ?_⟩; have HF := HB.draw c7 u7; clear c7 u7; have e0 := HF.ret.cell 0; have e1 := HF.ret.cell 1; have e2 := HF.ret.cell 2; simp at e0 e1 e2; have hE := HF.cur.bel) | (refine step_callO 34 Try.func34 (by rfl) (by rfl) _ _ _ _ _ (by rfl) (by rfl) (by rfl) (by rfl) (textT n (by omega) (by omega) _ HA.cur) ?_; rintro _ w8 ⟨s, rfl, hs, c7, u7⟩; refine ⟨_, rfl, ?_⟩; have HD := HA.draw c7 u7; clear c7 u7; have kHD0 := HD.here.cell 0; have kHD1 := HD.here.cell 1; have kHD2 := HD.here.cell 2; have rHD0 := HD.ret.cell 0; have rHD1 := HD.ret.cell 1; have rHD2 := HD.ret.cell 2; simp at kHD0 kHD1 kHD2 rHD0 rHD1 rHD2; have fHD0 := HD.ret.fz 0; have fHD1 := HD.ret.fz 1; have fHD2 := HD.ret.fz 2; have HF := HD.fill; have e0 := HF.ret.cell 0; have e1 := HF.ret.cell 1; have e2 := HF.ret.cell 2; simp at e0 e1 e2; have hE := HF.cur.bel))
  all_goals
    go_wp2
    refine bodyPost_ret (v := .tuple #[.agg #[.int .u32 f, .string d, .int .i64 r], .string s]) ?_ rfl ⟨f, d, r, s, rfl, hf, by omega, hr, by omega, hE⟩
    simp [results, go_sem, e0, e1, e2]

end Go.Proofs.Ytpegfiogfcjofaa
