/-
  What a segment must be, and what it tells of the other end.
-/
import Derived.Test.YtjilpicpfddbfabDoorAsFit
import Derived.Test.YtjilpicpfddbfabDoorPart
import Derived.Test.YtjilpicpfddbfabDoorSegTab
import Derived.Test.YtjilpicpfddbfabDoorM1
import Derived.Deep.DeepCutAuto
namespace Go.Proofs.YtjilpicpfddbfabDoor
open Go.ChangeShapes Go.WideShapes Go.ChangeAt Go.RowKit
set_option linter.unusedVariables false
set_option maxRecDepth 10000

theorem touch_of {b : Nat} {w x : World} (h : Since w x) : Touch b w x := Touch.of_below h fun k hk _ => hk

/-- What is given where a segment is as it must be, and where not. -/
def FitV (ok : Bool) (v : Value) : Prop := (ok = true → v = .nilIface) ∧ (ok = false → ∃ t, v = .iface 75 (.agg (mfCells t false false false)))

theorem fit_no (t : ByteArray) : FitV false (.iface 75 (.agg (mfCells t false false false))) := ⟨fun h => (by cases h), fun _ => ⟨t, rfl⟩⟩

theorem fit_yes : FitV true .nilIface := ⟨fun _ => rfl, fun h => (by cases h)⟩

/-- Whether a segment is well formed. -/
def formOk (s : Sg) : Bool := decide (0 ≤ s.fl ∧ s.fl ≤ 31) && (decide (0 ≤ s.wn ∧ s.wn ≤ 65535) && decide ((s.d.size : Int) ≤ 536))

set_option maxRecDepth 20000 in
set_option maxHeartbeats 4000000 in
theorem formed (s : Sg) (hd : s.d.size ≤ 1048576) (w : World) :
    Calls Tryd.prog 41 #[.agg (sgCells s)] w fun e w' => (∃ v, e = .returned v ∧ FitV (formOk s) v) ∧ Since w w' := by
  have A := Blk.new w (sgCells s) 28
  have G := (Since.refl w).alloc (.cells (sgCells s) 28)
  obtain ⟨k, hk⟩ : ∃ k, k = formOk s := ⟨_, rfl⟩
  rw [← hk]
  unfold formOk at hk
  go_enter Tryd.func41, Tryd.ntmps41
  go_upto_region 1 with (fail)
  generalize w.alloc (.cells (sgCells s) 28) = w1 at A G ⊢
  have f4 : w1.cell? ⟨w.heap.size, 4, none⟩ = some (.int .i64 s.fl) := A.cell 4
  have f5 : w1.cell? ⟨w.heap.size, 5, none⟩ = some (.int .i64 s.wn) := A.cell 5
  have f7 : w1.cell? ⟨w.heap.size, 7, none⟩ = some (.string s.d) := A.cell 7
  go_wp2_with (fail)
  refine (isWithin s.fl 31 _).mono ?_
  generalize decide (0 ≤ s.fl ∧ s.fl ≤ 31) = k0 at hk ⊢
  rintro _ _ ⟨rfl, rfl⟩
  cases k0
  · go_wp2_with (fail)
    go_ret
    exact ⟨⟨_, rfl, by rw [hk]; exact fit_no _⟩, G⟩
  go_wp2_with (fail)
  refine (isHalf s.wn _).mono ?_
  generalize decide (0 ≤ s.wn ∧ s.wn ≤ 65535) = k1 at hk ⊢
  rintro _ _ ⟨rfl, rfl⟩
  cases k1
  · go_wp2_with (fail)
    go_ret
    exact ⟨⟨_, rfl, by rw [hk]; exact fit_no _⟩, G⟩
  simp only [Bool.true_and] at hk
  by_cases h3 : (s.d.size : Int) ≤ 536
  · have h3' : ¬ (536 : Int) < (s.d.size : Int) := by omega
    go_wp2_with (fail)
    go_ret
    exact ⟨⟨_, rfl, by rw [hk, decide_eq_true (by omega)]; exact fit_yes⟩, G⟩
  · have h3' : (536 : Int) < (s.d.size : Int) := by omega
    go_wp2_with (fail)
    go_ret
    exact ⟨⟨_, rfl, by rw [hk, decide_eq_false (by omega)]; exact fit_no _⟩, G⟩

/-- Whether a segment asks, and nothing else. -/
def askOk (s : Sg) : Bool := decide (s.fl = 2 ∧ s.d = ByteArray.empty) && formOk s

set_option maxRecDepth 20000 in
set_option maxHeartbeats 4000000 in
theorem asking (s : Sg) (hd : s.d.size ≤ 1048576) (w : World) :
    Calls Tryd.prog 21 #[.agg (sgCells s)] w fun e w' => (∃ v, e = .returned v ∧ FitV (askOk s) v) ∧ Since w w' := by
  have A := Blk.new w (sgCells s) 28
  have G := (Since.refl w).alloc (.cells (sgCells s) 28)
  have hF := fun wx => formed s hd wx
  obtain ⟨k, hk⟩ : ∃ k, Hid (k = askOk s) := ⟨_, rfl⟩
  rw [← hk.out]
  go_enter Tryd.func21, Tryd.ntmps21
  go_upto_region 1 with (fail)
  generalize w.alloc (.cells (sgCells s) 28) = w1 at A G ⊢
  have f4 : w1.cell? ⟨w.heap.size, 4, none⟩ = some (.int .i64 s.fl) := A.cell 4
  have f7 : w1.cell? ⟨w.heap.size, 7, none⟩ = some (.string s.d) := A.cell 7
  by_cases h1 : s.fl = 2
  · have h1' : (s.fl != 2) = false := by simp [h1]
    by_cases h2 : s.d = ByteArray.empty
    · replace hk : Hid (k = formOk s) := by
        have := hk.out
        unfold askOk at this
        rwa [show decide (s.fl = 2 ∧ s.d = ByteArray.empty) = true by simp [h1, h2], Bool.true_and] at this
      have f7' : w1.cell? ⟨w.heap.size, 7, none⟩ = some (.string ⟨#[]⟩) := by rw [f7, h2]; rfl
      clear f7
      rw [h1] at f4
      go_upto_region 3 with (fail)
      refine wp_region_lit ?_
      refine load_big seg_big rfl A rfl _ rfl rfl ?_
      refine call_step rfl 41 #[.agg (sgCells s)] (by kernel_rfl) (hF _) ?_
      rintro _ w2 ⟨⟨v, rfl, hv⟩, g2⟩
      refine ⟨_, rfl, ?_⟩
      go_wp2_with (fail)
      go_ret
      exact ⟨⟨_, rfl, by rw [hk.out]; exact hv⟩, G.trans g2⟩
    · replace hk : Hid (k = false) := by
        have := hk.out
        unfold askOk at this
        rwa [show decide (s.fl = 2 ∧ s.d = ByteArray.empty) = false by simp [h2], Bool.false_and] at this
      have h2' := text_empty h2
      clear h2 hF
      rw [h1] at f4
      go_wp2_with (fail)
      go_ret
      exact ⟨⟨_, rfl, by rw [hk.out]; exact fit_no _⟩, G⟩
  · have h1' : (s.fl != 2) = true := by simpa using h1
    replace hk : Hid (k = false) := by
      have := hk.out
      unfold askOk at this
      rwa [show decide (s.fl = 2 ∧ s.d = ByteArray.empty) = false by simp [h1], Bool.false_and] at this
    clear hF h1
    go_wp2_with (fail)
    go_ret
    exact ⟨⟨_, rfl, by rw [hk.out]; exact fit_no _⟩, G⟩

/-- An end that was told a window. -/
def toldC (c : Cn) (s : Sg) : Cn := { c with wnd := s.wn, wsq := s.sq, wak := s.ak }

set_option maxRecDepth 20000 in
set_option maxHeartbeats 8000000 in
theorem implTell (b : Nat) (c : Cn) (s : Sg) (w : World) (B : Blk b w (cnCells c)) :
    Calls Tryd.prog 64 #[.pointer (some ⟨b, 0, none⟩), .agg (sgCells s)] w fun e w' => e = .returned (.tuple #[]) ∧ Touch b w w' ∧ Blk b w' (cnCells (toldC c s)) := by
  have hb := B.lt
  have A := Blk.new w (sgCells s) 28
  have G := (Since.refl w).alloc (.cells (sgCells s) 28)
  replace B := B.since G
  go_enter Tryd.func64, Tryd.ntmps64
  go_upto_region 1 with (fail)
  generalize w.alloc (.cells (sgCells s) 28) = w1 at A B G ⊢
  have f2 : w1.cell? ⟨w.heap.size, 2, none⟩ = some (.int .u32 s.sq) := A.cell 2
  have f3 : w1.cell? ⟨w.heap.size, 3, none⟩ = some (.int .u32 s.ak) := A.cell 3
  have f5 : w1.cell? ⟨w.heap.size, 5, none⟩ = some (.int .i64 s.wn) := A.cell 5
  have c5 : w1.cell? ⟨b, 5, none⟩ = some (.int .i64 c.wnd) := B.cell 5
  have c6 : w1.cell? ⟨b, 6, none⟩ = some (.int .u32 c.wsq) := B.cell 6
  have c7 : w1.cell? ⟨b, 7, none⟩ = some (.int .u32 c.wak) := B.cell 7
  have z5 := B.fz 5
  have z6 := B.fz 6
  have z7 := B.fz 7
  obtain ⟨y1, e1, t1, B1⟩ := put_cn (c' := { c with wnd := s.wn }) B 5 (.int .i64 s.wn) (by decide) rfl
  obtain ⟨y2, e2, t2, B2⟩ := put_cn (c' := { c with wnd := s.wn, wsq := s.sq }) B1 6 (.int .u32 s.sq) (by decide) rfl
  obtain ⟨y3, e3, t3, B3⟩ := put_cn (c' := toldC c s) B2 7 (.int .u32 s.ak) (by decide) rfl
  replace e1 : Hid _ := e1
  replace e2 : Hid _ := e2
  replace e3 : Hid _ := e3
  go_region
  rw [e1.out, e2.out, e3.out]
  refine bodyPost_end (v := .tuple #[]) (results_none rfl _ _ _) rfl ⟨rfl, ?_, B3.since ((Since.refl y3).drew)⟩
  exact (((touch_of G).trans t1).trans (t2.trans t3)).drew

/-- An end that met the other. -/
def metC (c : Cn) (s : Sg) : Cn := { c with iN := (s.sq + 1) % 4294967296, wnd := s.wn, wsq := s.sq, wak := s.ak }

set_option maxRecDepth 20000 in
set_option maxHeartbeats 8000000 in
theorem implMeet (b : Nat) (c : Cn) (s : Sg) (w : World) (B : Blk b w (cnCells c)) :
    Calls Tryd.prog 52 #[.pointer (some ⟨b, 0, none⟩), .agg (sgCells s)] w fun e w' => e = .returned (.tuple #[]) ∧ Touch b w w' ∧ Blk b w' (cnCells (metC c s)) := by
  have hb := B.lt
  have A := Blk.new w (sgCells s) 28
  have G := (Since.refl w).alloc (.cells (sgCells s) 28)
  replace B := B.since G
  go_enter Tryd.func52, Tryd.ntmps52
  go_upto_region 1 with (fail)
  generalize w.alloc (.cells (sgCells s) 28) = w1 at A B G ⊢
  have f2 : w1.cell? ⟨w.heap.size, 2, none⟩ = some (.int .u32 s.sq) := A.cell 2
  have c11 : w1.cell? ⟨b, 11, none⟩ = some (.int .u32 c.iN) := B.cell 11
  have z11 := B.fz 11
  obtain ⟨y1, e1, t1, B1⟩ := put_cn (c' := { c with iN := (s.sq + 1) % 4294967296 }) B 11 (.int .u32 ((s.sq + 1) % 4294967296)) (by decide) rfl
  replace A := A.touch t1 (by omega)
  go_upto_region 2 with (fail)
  refine wp_region_lit ?_
  refine move_step rfl _ rfl ?_
  refine load_big seg_big rfl A rfl _ rfl rfl ?_
  refine call_step rfl 64 #[.pointer (some ⟨b, 0, none⟩), .agg (sgCells s)] (by kernel_rfl) (implTell b _ s _ B1) ?_
  rintro _ w3 ⟨rfl, tx, Bx⟩
  refine ⟨_, rfl, ?_⟩
  go_wp2_with (fail)
  exact bodyPost_end (v := .tuple #[]) (results_none rfl _ _ _) rfl ⟨rfl, ((touch_of G).trans t1).trans tx, Bx⟩

/-- errors.As at what 'formed' or the like gave. -/
theorem as_fit (ok : Bool) (v : Value) (hv : FitV ok v) (tb : Nat) (w : World) (hg : w.cell? ⟨1, 0, none⟩ = some (.iface 112 (.agg #[.pointer (some ⟨2, 57, none⟩)]))) (O : Blk tb w (mfCells ByteArray.empty false false false)) :
    Calls Tryd.prog 50 #[v, .iface 82 (.pointer (some ⟨tb, 0, none⟩))] w fun e w' => e = .returned (.bool (!ok)) ∧ Touch tb w w' ∧ ∃ t, Blk tb w' (mfCells t false false false) := by
  cases ok
  · obtain ⟨t, rfl⟩ := hv.2 rfl
    refine (as_hit tb t false false false _ rfl w hg O).mono ?_
    rintro _ w' ⟨rfl, x, g, t', B⟩
    exact ⟨rfl, (touch_of g).trans t', _, B⟩
  · rw [hv.1 rfl]
    refine (as_nil _ w).mono ?_
    rintro _ w' ⟨rfl, rfl⟩
    exact ⟨rfl, Touch.refl _ _, _, O⟩
end Go.Proofs.YtjilpicpfddbfabDoor
