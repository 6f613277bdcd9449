/-
  What OutDone answers; contract of spec's.
-/
import Derived.Test.YtpegfiogfcjofaaOutSpec
namespace Go.Proofs.Ytpegfiogfcjofaa
open Go.ChangeShapes Go.WideShapes Go.ChangeAt Go.RowKit Go.Deep
set_option linter.unusedVariables false
set_option maxRecDepth 10000

/-- Whether OutDone takes bytes away. -/
def doneOk (d : ByteArray) (r at' : Int) : Prop := outOk d r = true ∧ 0 ≤ at' ∧ at' ≤ d.size

instance (d : ByteArray) (r at' : Int) : Decidable (doneOk d r at') := by unfold doneOk; infer_instance

/-- What OutDone leaves: First, Data and how many. -/
def doneF (f : Int) (d : ByteArray) (r q at' : Int) : Int := if doneOk d r at' then q else f

def doneD (d : ByteArray) (r at' : Int) : ByteArray := if doneOk d r at' then d.extract at'.toNat d.size else d

def doneN (d : ByteArray) (r at' : Int) : Int := if doneOk d r at' then at' else 0

theorem specOutDone (f : Int) (d : ByteArray) (r q at' : Int) (hf : IsWord f) (hq : IsWord q) (ha : IsDist f q at') (hd : d.size ≤ 1048576) (w : World) :
    Calls Try.prog 31 #[outVal f d r, .int .u32 q] w fun e w' => e = .returned (.tuple #[outVal (doneF f d r q at') (doneD d r at') r, .int .i64 (doneN d r at')]) ∧ Since w w' := by
  have hdist := fun wx => specDist f q at' hf hq ha wx
  have ho := fun wx => specOutOk f d r wx
  have i2 := fun wx => specIn at' 0 d.size wx
  obtain ⟨ha1, ha2, _⟩ := ha
  have G : Since w ((w.alloc (.cells #[.int .u32 f, .string d, .int .i64 r] 26)).alloc (.cells #[.int .u32 0, .string ByteArray.empty, .int .i64 0] 26)) := ((Since.refl _).alloc _).alloc _
  have A := (Blk.new w #[.int .u32 f, .string d, .int .i64 r] 26).since ((Since.refl _).alloc (.cells #[.int .u32 0, .string ByteArray.empty, .int .i64 0] 26))
  have B := Blk.new (w.alloc (.cells #[.int .u32 f, .string d, .int .i64 r] 26)) #[.int .u32 0, .string ByteArray.empty, .int .i64 0] 26
  simp only [World.size_alloc] at A B
  unfold outVal at *
  unfold doneF doneD doneN
  cases hk : outOk d r
  · rw [if_neg (by unfold doneOk; simp [hk]), if_neg (by unfold doneOk; simp [hk]), if_neg (by unfold doneOk; simp [hk])]
    rw [hk] at ho
    clear i2
    go_enter Try.func31, Try.ntmps31
    go_wp2_with (first | (go_at_call 57; refine (hdist _).mono ?_; rintro _ _ ⟨rfl, rfl⟩) | (go_at_call 12; refine (ho _).mono ?_; rintro _ w1 ⟨rfl, g1⟩; replace G := G.trans g1; replace A := A.since g1; replace B := B.since g1; have a0 := A.cell 0; have a1 := A.cell 1; have a2 := A.cell 2; have b0 := B.cell 0; have b1 := B.cell 1; have b2 := B.cell 2; simp at a0 a1 a2 b0 b1 b2; have z0 := B.fz 0; have z1 := B.fz 1; have z2 := B.fz 2))
    refine bodyPost_ret (v := .tuple #[.agg #[.int .u32 f, .string d, .int .i64 r], .int .i64 0]) ?_ rfl ⟨rfl, ?_⟩
    · simp [results, go_sem, (stored3 B (.int .u32 f) (.string d) (.int .i64 r)).1, (stored3 B (.int .u32 f) (.string d) (.int .i64 r)).2.1, (stored3 B (.int .u32 f) (.string d) (.int .i64 r)).2.2]
    · exact since_put3 G (by omega) _ _ _
  · rw [hk] at ho
    by_cases c2 : 0 ≤ at' ∧ at' ≤ d.size
    · have hD : doneOk d r at' := ⟨hk, c2⟩
      rw [if_pos hD, if_pos hD, if_pos hD]
      rw [show decide (0 ≤ at' ∧ at' ≤ (d.size : Int)) = true by simp; omega] at i2
      obtain ⟨k, rfl⟩ := Int.eq_ofNat_of_zero_le c2.1
      obtain ⟨c2, c3⟩ := c2
      rw [show ((k : Nat) : Int).toNat = k by omega]
      clear ha1 ha2 c2 hD
      have hfin : ∀ x, Blk (w.heap.size + 1) x #[.int .u32 0, .string ByteArray.empty, .int .i64 0] → Blk (w.heap.size + 1) ((x.setCell ⟨w.heap.size, 0, none⟩ (.int .u32 q)).setCell ⟨w.heap.size, 1, none⟩ (.string (d.extract k d.size))) #[.int .u32 0, .string ByteArray.empty, .int .i64 0] := fun x h => (h.other (by omega) _ _).other (by omega) _ _
      replace hfin : Hid _ := hfin
      go_enter Try.func31, Try.ntmps31
      go_wp2_with (first | (go_at_call 57; refine (hdist _).mono ?_; rintro _ _ ⟨rfl, rfl⟩) | (go_at_call 12; refine (ho _).mono ?_; rintro _ w1 ⟨rfl, g1⟩; replace G := G.trans g1; replace A := A.since g1; replace B := B.since g1; have a0 := A.cell 0; have a1 := A.cell 1; have a2 := A.cell 2; have b0 := B.cell 0; have b1 := B.cell 1; have b2 := B.cell 2; simp at a0 a1 a2 b0 b1 b2; have y0 := A.fz 0; have y1 := A.fz 1; have z0 := B.fz 0; have z1 := B.fz 1; have z2 := B.fz 2) | (go_at_call 40; refine (i2 _).mono ?_; clear i2; rintro _ _ ⟨rfl, rfl⟩))
      refine bodyPost_ret (v := .tuple #[.agg #[.int .u32 q, .string (d.extract k d.size), .int .i64 r], .int .i64 k]) ?_ rfl ⟨rfl, ?_⟩
      · have B1 := hfin.out _ B
        simp [results, go_sem, (stored3 B1 (.int .u32 q) (.string (d.extract k d.size)) (.int .i64 r)).1, (stored3 B1 (.int .u32 q) (.string (d.extract k d.size)) (.int .i64 r)).2.1, (stored3 B1 (.int .u32 q) (.string (d.extract k d.size)) (.int .i64 r)).2.2]
      · exact since_put3 (since_put1 (since_put1 G (by omega) _ _) (by omega) _ _) (by omega) _ _ _
    · have hD : ¬ doneOk d r at' := fun h => c2 h.2
      rw [if_neg hD, if_neg hD, if_neg hD]
      rw [show decide (0 ≤ at' ∧ at' ≤ (d.size : Int)) = false by simp; omega] at i2
      clear c2 hD
      go_enter Try.func31, Try.ntmps31
      go_wp2_with (first | (go_at_call 57; refine (hdist _).mono ?_; rintro _ _ ⟨rfl, rfl⟩) | (go_at_call 12; refine (ho _).mono ?_; rintro _ w1 ⟨rfl, g1⟩; replace G := G.trans g1; replace A := A.since g1; replace B := B.since g1; have a0 := A.cell 0; have a1 := A.cell 1; have a2 := A.cell 2; have b0 := B.cell 0; have b1 := B.cell 1; have b2 := B.cell 2; simp at a0 a1 a2 b0 b1 b2; have z0 := B.fz 0; have z1 := B.fz 1; have z2 := B.fz 2) | (go_at_call 40; refine (i2 _).mono ?_; clear i2; rintro _ _ ⟨rfl, rfl⟩))
      refine bodyPost_ret (v := .tuple #[.agg #[.int .u32 f, .string d, .int .i64 r], .int .i64 0]) ?_ rfl ⟨rfl, ?_⟩
      · simp [results, go_sem, (stored3 B (.int .u32 f) (.string d) (.int .i64 r)).1, (stored3 B (.int .u32 f) (.string d) (.int .i64 r)).2.1, (stored3 B (.int .u32 f) (.string d) (.int .i64 r)).2.2]
      · exact since_put3 G (by omega) _ _ _
end Go.Proofs.Ytpegfiogfcjofaa
