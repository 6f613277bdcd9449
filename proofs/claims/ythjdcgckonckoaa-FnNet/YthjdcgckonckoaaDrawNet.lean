/-
  The draw of a net: texts appended one by one to a list that is nil at first, up to the most at times, a long one at times.
-/
import Derived.Test.YthjdcgckonckoaaM3
import Derived.Test.YthjdcgckonckoaaRowApp
import Derived.Deep.RegionLaw
import Derived.Deep.RegionHeld3
import Derived.Deep.AppendLies
namespace Go.Proofs.Ythjdcgckonckoaa
open Go.ChangeShapes Go.WideShapes Go.ChangeAt Go.RowKit
set_option linter.unusedVariables false

theorem grown_since {w w' : World} (k : Since w w') : w.grownBy w' none := ⟨Below.os k, Below.tape k, Below.output k, Below.size k, fun j hj _ => Below.block k j hj⟩

theorem owns_since {w w' : World} {B K n : Nat} {e : TypeId} {v : Value} {xs : List Value} (h : w.ownsRow B e K v n xs) (k : Since w w') : w'.ownsRow B e K v n xs := h.kept (grown_since k) (by cases hv : v.ownBlock <;> simp)

theorem owns_block {w : World} {B K n : Nat} {e : TypeId} {v : Value} {xs : List Value} (h : w.ownsRow B e K v n xs) (g : Nat) (hg : v.ownBlock = some g) : B ≤ g := (h.lt g hg).1

theorem owns_touch {w w' : World} {B K n g : Nat} {e : TypeId} {v : Value} {xs : List Value} (h : w.ownsRow B e K v n xs) (t : Touch g w w') (hg : g < B) : w'.ownsRow B e K v n xs :=
  h.kept t.grownBy (.inr fun e => by have := owns_block h g e; omega)

theorem Cur.grown {w0 wb w w' : World} {g : Nat} {a : Option Addr} {len cap : Nat} {zs : List Int} {row : Option Nat} (hc : Cur w0 wb g a len cap zs w) (he : g < wb.heap.size) (hg : w.grownBy w' row) (hr : ∀ k, row = some k → wb.heap.size ≤ k) : Cur w0 wb g a len cap zs w' := by
  obtain ⟨i, h, k⟩ := hc.at_
  exact (cur_grown he k hg hr).cur

theorem Rec1.grown {b : Nat} {x x' : World} {c0 : Value} {row : Option Nat} (k : Rec1 b x c0) (hg : x.grownBy x' row) (hne : row ≠ some b) : Rec1 b x' c0 :=
  ⟨Nat.lt_of_lt_of_le k.lt hg.size, fun i => (hg.frozen_far ⟨b, i, none⟩ k.lt (fun e => hne e.symm)).trans (k.fz i), (hg.cell_far ⟨b, 0, none⟩ k.lt (fun e => hne e.symm)).trans k.c0⟩

/-- A call of a function at a step of a drawn region, by its contract (for go_region_law). -/
theorem step_call {ops : Array Oper} {o : Oper} {a : Act} {w : World} {K : Act → World → Prop} {Q : Exit → Act → World → Prop} {E : Prop} {post : Ending → World → Prop} {fn : Func} (f : FuncId) (hf : Try.prog.funcs[f]? = some fn) (hn : (fn.name == "runtime.NumGoroutine") = false) (hb : fn.body.isNone = false) (x1 x2 : Operand) (ts : Array TypeId) (v1 v2 : Value) (hgd : o.guard = none)
    (ho : o.op = .call { callee := .value (.func f), args := #[x1, x2], argTypes := ts }) (h1 : a.eval x1 = v1) (h2 : a.eval x2 = v2) (hc : Calls Try.prog f #[v1, v2] w post) (k : ∀ e w', post e w' → ∃ v, e = .returned v ∧ K (a.put o.dst v) w') :
    if Region.wanted o (yielded ops a.tmps) = true then Oper.wp Try.prog o a w K Q else E := by
  have hw : Region.wanted o (yielded ops a.tmps) = true := by simp [Region.wanted, hgd]
  rw [if_pos hw]
  have hr : (execOp a.eval o).run Try.prog w = .ok (.enter f #[v1, v2]) w := by
    have hn' : fn.name ≠ "runtime.NumGoroutine" := by simpa using hn
    have hb' : fn.body ≠ none := by
      intro e
      rw [e] at hb
      cases hb
    subst h1 h2
    simp [execOp, ho, resolve, invoke, Act.eval, go_sem, callFunc, hf, hn', hb']
  unfold Oper.wp
  rw [hr, Oper.upon_enter]
  refine hc.mono ?_
  intro e w' h
  obtain ⟨v, rfl, hK⟩ := k e w' h
  exact hK

/-- A net under way: the cursor, the answer's variable, the net's, and its row. -/
structure NS (w0 wb : World) (g : Nat) (a : Option Addr) (len cap : Nat) (zs : List Int) (ss : List ByteArray) (ao : Option Addr) (n cp : Nat) (w : World) : Prop where
  cur : Cur w0 wb g a len cap zs w
  ret : Rec1 wb.heap.size w (.slice none 0 0)
  here : Rec1 (wb.heap.size + 1) w (.slice ao n cp)
  row : w.ownsRow (wb.heap.size + 2) 9 1 (.slice ao n cp) n (ss.map Value.string)
  count : ss.length = n
  early : g < wb.heap.size

section
variable {w0 wb : World} {g : Nat} {a : Option Addr} {len cap : Nat} {zs : List Int} {ss : List ByteArray} {ao : Option Addr} {n cp : Nat} {w w' : World}

theorem NS.draw (h : NS w0 wb g a len cap zs ss ao n cp w) (c : Cur w0 wb g a len cap zs w') (t : Touch g w w') : NS w0 wb g a len cap zs ss ao n cp w' :=
  ⟨c, h.ret.touch t (by have := h.early; omega), h.here.touch t (by have := h.early; omega), owns_touch h.row t (by have := h.early; omega), h.count, h.early⟩

theorem NS.since (h : NS w0 wb g a len cap zs ss ao n cp w) (k : Since w w') : NS w0 wb g a len cap zs ss ao n cp w' :=
  ⟨h.cur.moved (g' := g) k, h.ret.since k, h.here.since k, owns_since h.row k, h.count, h.early⟩

/-- Behind an append. -/
theorem NS.grown (h : NS w0 wb g a len cap zs ss ao n cp w) (hg : w.grownBy w' (Value.slice ao n cp).ownBlock) : Cur w0 wb g a len cap zs w' ∧ Rec1 wb.heap.size w' (.slice none 0 0) ∧ Rec1 (wb.heap.size + 1) w' (.slice ao n cp) := by
  have hb := fun k e => owns_block h.row k e
  refine ⟨h.cur.grown h.early hg (fun k e => by have := hb k e; omega), h.ret.grown hg (fun e => by have := hb _ e; omega), h.here.grown hg (fun e => by have := hb _ e; omega)⟩

/-- Behind the store of what was appended. -/
theorem NS.stored (h : NS w0 wb g a len cap zs ss ao n cp w) (hg : w.grownBy w' (Value.slice ao n cp).ownBlock) (s : ByteArray) (gg c2 : Nat) (hown : w'.ownsRow (wb.heap.size + 2) 9 1 (.slice (some ⟨gg, 0, none⟩) (n + 1) c2) (n + 1) (ss.map Value.string ++ [.string s])) :
    NS w0 wb g a len cap zs (ss ++ [s]) (some ⟨gg, 0, none⟩) (n + 1) c2 (w'.setCell ⟨wb.heap.size + 1, 0, none⟩ (.slice (some ⟨gg, 0, none⟩) (n + 1) c2)) := by
  obtain ⟨c, r, k⟩ := h.grown hg
  have he := h.early
  have hlow := h.cur.low
  have hbel := c.touch.size
  have h0 : w0.heap.size ≤ wb.heap.size := by omega
  refine ⟨c.put_new (by omega) (by omega) (by omega) 0 _, r.other (by omega) 0 _, k.put _, ?_, by simp [h.count], he⟩
  have := owns_touch hown ((Touch.refl (wb.heap.size + 1) w').put 0 (.slice (some ⟨gg, 0, none⟩) (n + 1) c2)) (by omega)
  simpa using this
end

/-- What is drawn. -/
structure Net5 (w0 wb : World) (g : Nat) (a : Option Addr) (len cap : Nat) (zs : List Int) (w : World) (ao : Option Addr) (n cp : Nat) (ss : List ByteArray) : Prop where
  cur : Cur w0 wb g a len cap zs w
  row : w.ownsRow wb.heap.size 9 1 (.slice ao n cp) n (ss.map Value.string)
  count : ss.length = n
  few : n ≤ 1000
  small : ∀ s ∈ ss, s.size ≤ 2001

theorem owns_low {w : World} {B B' K n : Nat} {e : TypeId} {v : Value} {xs : List Value} (h : w.ownsRow B e K v n xs) (hB : B' ≤ B) : w.ownsRow B' e K v n xs := by
  refine ⟨h.1, ?_⟩
  rcases h.2 with h1 | ⟨g, cap, cur, h1, h2, h3⟩
  · exact .inl h1
  · exact .inr ⟨g, cap, cur, h1, Nat.le_trans hB h2, h3⟩

theorem NS.done {w0 wb : World} {g : Nat} {a : Option Addr} {len cap : Nat} {zs : List Int} {ss : List ByteArray} {ao : Option Addr} {n cp : Nat} {w : World} (h : NS w0 wb g a len cap zs ss ao n cp w) (hn : n ≤ 1000) (hs : ∀ s ∈ ss, s.size ≤ 2001) :
    Net5 w0 wb g a len cap zs (w.setCell ⟨wb.heap.size, 0, none⟩ (.slice ao n cp)) ao n cp ss := by
  have he := h.early
  have hlow := h.cur.low
  refine ⟨h.cur.put_new (by omega) (by omega) (by omega) 0 _, ?_, h.count, hn, hs⟩
  exact owns_low (owns_touch h.row ((Touch.refl wb.heap.size w).put 0 (.slice ao n cp)) (by omega)) (by omega)

/-- How long the list at a cell is. -/
def lenAt (w : World) (p : Addr) : Nat := match w.cell? p with | some v => lenOf v | none => 0

set_option maxHeartbeats 4000000 in
set_option maxRecDepth 20000 in
theorem drawNet {w0 : World} {g : Nat} {a : Option Addr} {len cap : Nat} {zs : List Int} (w : World) (hc : Cur w0 w g a len cap zs w) :
    Calls Try.prog 13 #[.pointer (some ⟨g, 0, none⟩), .slice a len cap] w fun e w' => ∃ ao n cp ss, e = .returned (.agg #[.slice ao n cp]) ∧ Net5 w0 w g a len cap zs w' ao n cp ss := by
  obtain ⟨ii, hi, hz0, hz1, hz2⟩ := info_parts info_str
  have hmost := hc.most
  have hsize := fun wx => size_ a len cap hmost 9 (by omega) (by omega) wx
  have hearly := hc.here
  have N0 : NS w0 w g a len cap zs [] none 0 0 ((w.alloc (.cells #[.slice none 0 0] 26)).alloc (.cells #[.slice none 0 0] 26)) := ⟨(hc.alloc _).alloc _, (Rec1.new w _ _).since ((Since.refl _).alloc _), by simpa using Rec1.new (w.alloc (.cells #[.slice none 0 0] 26)) (.slice none 0 0) 26, ⟨by simp, .inl ⟨rfl, rfl⟩⟩, rfl, hc.here⟩
  clear hc
  go_enter Try.func13, Try.ntmps13
  go_wp2_with (first | (go_at_call 15; refine (hsize _).mono ?_; rintro _ _ ⟨z, rfl, hzp, hzm, rfl⟩) | (go_at_call 14; refine (belowT z hzp _ N0.cur).mono ?_; rintro _ w1 ⟨k, rfl, hk0, hk1, c1, t1⟩; replace N0 := N0.draw c1 t1))
  go_loopw [7] (fun i wr => ∃ (j : Nat) (ss : List ByteArray) (ao : Option Addr) (cp : Nat), i = .int .i64 j ∧ (j : Int) ≤ k ∧ (∀ s ∈ ss, s.size ≤ 30) ∧ NS w0 w g a len cap zs ss ao j cp wr) (fun i _ => k.toNat - (intOf i).toNat)
  case atStart => exact ⟨0, [], none, 0, rfl, hk0, by simp, N0⟩
  case round =>
    clear N0 c1 t1 hsize
    obtain ⟨j, ss, ao, cp, rfl, hj, hsm, N⟩ := hrel
    by_cases hlt : (j : Int) < k
    · go_wp2_with (fail)
      have N1 := N.since ((Since.refl wr).drew)
      have s0 := N.here.c0
      have s1 := N1.here.c0
      have hn1 : j + 1 ≤ maxLen := by unfold maxLen; omega
      have hn2 : (j + 1) * 16 ≤ 140737488355328 := by omega
      go_region_law
        (first
          | (refine step_call 14 Try.func14 (by rfl) (by rfl) _ _ _ _ _ (by rfl) (by rfl) (by rfl) (by rfl) (belowT 30 (by omega) _ N1.cur) ?_; rintro _ w2 ⟨r, rfl, hr0, hr1, c2, t2⟩; refine ⟨_, rfl, ?_⟩; have N2 := N1.draw c2 t2; have s2 := N2.here.c0)
          | (refine step_call 25 Try.func25 (by rfl) (by rfl) _ _ _ _ _ (by rfl) (by rfl) (by rfl) (by rfl) (textT r hr0 (by omega) _ N2.cur) ?_; rintro _ w3 ⟨s, rfl, hs, c3, t3⟩; refine ⟨_, rfl, ?_⟩; have N3 := N2.draw c3 t3; have s3 := N3.here.c0; have N4 := N3.since ((Since.refl w3).alloc (.cells #[.string s] 9)); have s4 := N4.here.c0; have hbase : w.heap.size + 2 ≤ (w3.alloc (.cells #[.string s] 9)).heap.size := N4.here.lt)
          | (refine step_append_lies _ (by rfl) _ _ _ (by rfl) (w.heap.size + 2) 9 ii _ 1 16 Try.underlying24 hi hz0 hz1 hz2 rfl (by omega) (.slice ao j cp) j _ (by rfl) N4.row ⟨w3.heap.size, 0, none⟩ 1 1 [.string s] (by rfl) (by rfl) (World.news_of_block (cs := #[.string s]) (t := 9) (fr := (0, 0)) (heap_alloc_new w3 _)) (by simp [Value.oneCell']) (by omega) hn1 hn2 hbase (w3.heap.size + 1) (by simp) ?_; intro gg cq w5 hown hgrow hat hlt5; obtain ⟨c5, r5, k5⟩ := N4.grown hgrow; have s5 := k5.c0; have f5 := k5.fz 0))
      all_goals
        have N6 := N4.stored hgrow s gg cq hown
        clear N N1 N2 N3 N4 hown hgrow c2 t2 c3 t3 c5 r5 k5
        go_wp2
        go_roundw
        case rel =>
          refine ⟨j + 1, ss ++ [s], _, _, by go_num, by omega, ?_, N6⟩
          intro x hx
          rcases List.mem_append.1 hx with h | h
          · exact hsm x h
          · rw [List.mem_singleton.1 h]
            omega
        case measure => simp [intOf]; omega
    · have hjk : (j : Int) = k := by omega
      go_wp2_with (fail)
      refine (belowT 30 (by omega) _ N.cur).mono ?_
      rintro _ w2 ⟨r, rfl, hr0, hr1, c2, t2⟩
      replace N := N.draw c2 t2
      clear c2 t2
      by_cases h0 : r = 0
      · subst h0
        have hj9 : j ≤ 9 := by omega
        clear hlt hjk
        go_wp2_with (fail)
        go_loopw [37] (fun _ wr => ∃ (n : Nat) (ts : List ByteArray) (au : Option Addr) (cu : Nat), n ≤ 201 ∧ (∀ s ∈ ts, s.size ≤ 30) ∧ NS w0 w g a len cap zs ts au n cu wr) (fun _ wr => 201 - lenAt wr ⟨w.heap.size + 1, 0, none⟩)
        case atStart => exact ⟨j, ss, ao, cp, by omega, hsm, N⟩
        case round =>
          clear N hsm
          obtain ⟨n, ts, au, cu, hn, hsm, N⟩ := hrel
          have N1 := N.since ((Since.refl wr).drew)
          have s0 := N.here.c0
          have s1 := N1.here.c0
          have hn1 : n + 1 ≤ maxLen := by unfold maxLen; omega
          have hn2 : (n + 1) * 16 ≤ 140737488355328 := by omega
          go_wp2_with (fail)
          go_region_held3 (fun x => x.cell? ⟨w.heap.size + 1, 0, none⟩ = some (.slice au n cu)) (first | assumption | go_keep)
            (first | (go_at_call 14; refine (belowT 2 ?h0 _ N1.cur).mono ?_; (case h0 => omega); rintro _ w3 ⟨r, rfl, hx0, hx1, c3, t3⟩; have N2 := N1.draw c3 t3; have s2 := N2.here.c0; have hwr : IntKind.i64.wrap (200 + r) = 200 + r := (by rw [IntWalk.i64_left]; exact IntWalk.wrap64_in _ ⟨by omega, by omega⟩)))
          have m0 : lenAt wr ⟨w.heap.size + 1, 0, none⟩ = n := by unfold lenAt; rw [s0]; rfl
          clear N N1 c3 t3
          by_cases hlt2 : (n : Int) < 200 + r
          · have N4 := N2.since ((Since.refl w3).alloc (.cells #[.string ⟨#[102]⟩] 9))
            have s4 := N4.here.c0
            have hbase : w.heap.size + 2 ≤ (w3.alloc (.cells #[.string ⟨#[102]⟩] 9)).heap.size := N4.here.lt
            go_wp2_with (at_builtin; refine wpList_append_lies _ rfl _ _ _ rfl (w.heap.size + 2) 9 ii _ 1 16 Try.underlying24 hi hz0 hz1 hz2 rfl (by omega) (.slice au n cu) n _ rfl N4.row ⟨w3.heap.size, 0, none⟩ 1 1 [.string ⟨#[102]⟩] rfl rfl (World.news_of_block (cs := #[.string ⟨#[102]⟩]) (t := 9) (fr := (0, 0)) (heap_alloc_new w3 _)) (by simp [Value.oneCell']) (by omega) hn1 hn2 hbase (w3.heap.size + 1) (by simp) ?_; intro gg cq w5 hown hgrow hat hlt5; obtain ⟨c5, r5, k5⟩ := N4.grown hgrow; have s5 := k5.c0; have f5 := k5.fz 0)
            have N6 := N4.stored hgrow _ gg cq hown
            go_roundw
            case rel =>
              refine ⟨n + 1, ts ++ [⟨#[102]⟩], _, _, by omega, ?_, N6⟩
              intro x hx
              rcases List.mem_append.1 hx with h | h
              · exact hsm x h
              · rw [List.mem_singleton.1 h]
                decide
            case measure =>
              have m1 := N6.here.c0
              rw [m0]
              unfold lenAt
              rw [m1]
              simp only [lenOf]
              omega
          · have q0 := N2.here.c0
            have q1 := N2.ret.c0
            have q2 := N2.ret.fz 0
            have D := N2.done (by omega) (fun s hs => Nat.le_trans (hsm s hs) (by omega))
            have F := N2.ret.put (.slice au n cu)
            clear N2
            go_wp2
            refine bodyPost_ret (v := .agg #[.slice au n cu]) ?_ rfl ⟨_, _, _, rfl, _, D⟩
            simp [results, go_sem, F.c0]
      have e0 : (r == 0) = false := by simpa using h0
      have q0 := N.here.c0
      have q1 := N.ret.c0
      have q2 := N.ret.fz 0
      by_cases h1 : r = 1
      · subst h1
        go_wp2_with (fail)
        have N1 := N.since ((Since.refl w2).drew)
        have s0 := N.here.c0
        have s1 := N1.here.c0
        have hn1 : j + 1 ≤ maxLen := by unfold maxLen; omega
        have hn2 : (j + 1) * 16 ≤ 140737488355328 := by omega
        go_region_law
          (first
            | (refine step_call 14 Try.func14 (by rfl) (by rfl) _ _ _ _ _ (by rfl) (by rfl) (by rfl) (by rfl) (belowT 2 (by omega) _ N1.cur) ?_; rintro _ w3 ⟨r, rfl, hx0, hx1, c3, t3⟩; refine ⟨_, rfl, ?_⟩; have N2 := N1.draw c3 t3; have s2 := N2.here.c0; have hwr : IntKind.i64.wrap (2000 + r) = 2000 + r := (by rw [IntWalk.i64_left]; exact IntWalk.wrap64_in _ ⟨by omega, by omega⟩))
            | (refine step_call 25 Try.func25 (by rfl) (by rfl) _ _ _ _ _ (by rfl) (by rfl) (by rfl) (by rfl) (textT (2000 + r) (by omega) (by omega) _ N2.cur) ?_; rintro _ w4 ⟨s, rfl, hs, c4, t4⟩; refine ⟨_, rfl, ?_⟩; have N3 := N2.draw c4 t4; have s3 := N3.here.c0; have N4 := N3.since ((Since.refl w4).alloc (.cells #[.string s] 9)); have s4 := N4.here.c0; have hbase : w.heap.size + 2 ≤ (w4.alloc (.cells #[.string s] 9)).heap.size := N4.here.lt)
            | (refine step_append_lies _ (by rfl) _ _ _ (by rfl) (w.heap.size + 2) 9 ii _ 1 16 Try.underlying24 hi hz0 hz1 hz2 rfl (by omega) (.slice ao j cp) j _ (by rfl) N4.row ⟨w4.heap.size, 0, none⟩ 1 1 [.string s] (by rfl) (by rfl) (World.news_of_block (cs := #[.string s]) (t := 9) (fr := (0, 0)) (heap_alloc_new w4 _)) (by simp [Value.oneCell']) (by omega) hn1 hn2 hbase (w4.heap.size + 1) (by simp) ?_; intro gg cq w5 hown hgrow hat hlt5; obtain ⟨c5, r5, k5⟩ := N4.grown hgrow; have s5 := k5.c0; have f5 := k5.fz 0))
        all_goals
          have N6 := N4.stored hgrow s gg cq hown
          have p0 := N6.here.c0
          have p1 := N6.ret.c0
          have p2 := N6.ret.fz 0
          have D := N6.done (by omega) (fun x hx => by
            rcases List.mem_append.1 hx with h | h
            · exact Nat.le_trans (hsm x h) (by omega)
            · rw [List.mem_singleton.1 h]
              omega)
          have F := N6.ret.put (.slice (some ⟨gg, 0, none⟩) (j + 1) cq)
          clear N N1 N2 N3 N4 N6 hown hgrow c3 t3 c4 t4 c5 r5 k5
          go_wp2
          refine bodyPost_ret (v := .agg #[.slice (some ⟨gg, 0, none⟩) (j + 1) cq]) ?_ rfl ⟨_, _, _, _, rfl, D⟩
          simp [results, go_sem, F.c0]
      · have e1 : (r == 1) = false := by simpa using h1
        have D := N.done (by omega) (fun s hs => Nat.le_trans (hsm s hs) (by omega))
        have F := N.ret.put (.slice ao j cp)
        clear N
        go_wp2
        refine bodyPost_ret (v := .agg #[.slice ao j cp]) ?_ rfl ⟨ao, j, cp, ss, rfl, D⟩
        simp [results, go_sem, F.c0]
end Go.Proofs.Ythjdcgckonckoaa
