/-
  What OutPut, OutTake and OutDone answer; contracts of spec's.
-/
import Derived.Test.YtpegfiogfcjofaaOut
import Derived.Test.YtpegfiogfcjofaaBytF
import Derived.Test.YtpegfiogfcjofaaTab
import Derived.Laws.Concat
import Derived.RegionTactic
namespace Go.Proofs.Ytpegfiogfcjofaa
open Go.ChangeShapes Go.WideShapes Go.ChangeAt Go.RowKit Go.Deep
set_option linter.unusedVariables false
set_option maxRecDepth 10000

/-- How many bytes OutPut takes. -/
def putN (d : ByteArray) (r : Int) (s : ByteArray) : Nat := if outOk d r then min (r.toNat - d.size) s.size else 0

/-- What OutPut leaves as Data. -/
def putD (d : ByteArray) (r : Int) (s : ByteArray) : ByteArray := if outOk d r then d ++ s.extract 0 (putN d r s) else d

theorem stored3 {b : Nat} {x : World} {c0 c1 c2 : Value} (B : Blk b x #[c0, c1, c2]) (v0 v1 v2 : Value) :
    (((x.setCell ⟨b, 0, none⟩ v0).setCell ⟨b, 1, none⟩ v1).setCell ⟨b, 2, none⟩ v2).cell? ⟨b, 0, none⟩ = some v0 ∧ (((x.setCell ⟨b, 0, none⟩ v0).setCell ⟨b, 1, none⟩ v1).setCell ⟨b, 2, none⟩ v2).cell? ⟨b, 1, none⟩ = some v1 ∧ (((x.setCell ⟨b, 0, none⟩ v0).setCell ⟨b, 1, none⟩ v1).setCell ⟨b, 2, none⟩ v2).cell? ⟨b, 2, none⟩ = some v2 := by
  have k := ((B.put 0 v0 (by simp)).put 1 v1 (by simp)).put 2 v2 (by simp)
  exact ⟨by simpa using k.cell 0, by simpa using k.cell 1, by simpa using k.cell 2⟩

theorem since_put3 {w x : World} {b : Nat} (h : Since w x) (hb : w.heap.size ≤ b) (v0 v1 v2 : Value) : Since w (((x.setCell ⟨b, 0, none⟩ v0).setCell ⟨b, 1, none⟩ v1).setCell ⟨b, 2, none⟩ v2) := since_put1 (since_put1 (since_put1 h hb _ _) hb _ _) hb _ _

theorem specOutPut (f : Int) (d : ByteArray) (r : Int) (s : ByteArray) (hd : d.size ≤ 1048576) (hs : s.size ≤ 1048576) (w : World) :
    Calls Try.prog 28 #[outVal f d r, .string s] w fun e w' => e = .returned (.tuple #[outVal f (putD d r s) r, .int .i64 (putN d r s)]) ∧ Since w w' := by
  have ho := fun wx => specOutOk f d r wx
  have G : Since w ((w.alloc (.cells #[.int .u32 f, .string d, .int .i64 r] 26)).alloc (.cells #[.int .u32 0, .string ByteArray.empty, .int .i64 0] 26)) := ((Since.refl _).alloc _).alloc _
  have A := (Blk.new w #[.int .u32 f, .string d, .int .i64 r] 26).since ((Since.refl _).alloc (.cells #[.int .u32 0, .string ByteArray.empty, .int .i64 0] 26))
  have B := Blk.new (w.alloc (.cells #[.int .u32 f, .string d, .int .i64 r] 26)) #[.int .u32 0, .string ByteArray.empty, .int .i64 0] 26
  simp only [World.size_alloc] at A B
  unfold putD putN
  by_cases hk : outOk d r = true
  · obtain ⟨h1, h2, h3⟩ := (outOk_iff d r).1 hk
    obtain ⟨m, rfl⟩ := Int.eq_ofNat_of_zero_le (show 0 ≤ r by omega)
    rw [if_pos hk, if_pos hk]
    rw [hk] at ho
    obtain ⟨n, hn⟩ : ∃ n, min (((m : Nat) : Int).toNat - d.size) s.size = n := ⟨_, rfl⟩
    rw [hn]
    unfold outVal at *
    have hn1 : n ≤ s.size := by omega
    by_cases hlt : (s.size : Int) < (m : Int) - (d.size : Int)
    · have hns : n = s.size := by omega
      have es : s.extract 0 n = s := by rw [hns]; simp
      rw [es, hns]
      clear hn hk hn1 hns es
      go_enter Try.func28, Try.ntmps28
      go_wp2_with (fail)
      refine (ho _).mono ?_
      rintro _ w1 ⟨rfl, g1⟩
      replace G := G.trans g1
      replace A := A.since g1
      replace B := B.since g1
      have a0 := A.cell 0
      have a1 := A.cell 1
      have a2 := A.cell 2
      have b0 := B.cell 0
      have b1 := B.cell 1
      have b2 := B.cell 2
      simp at a0 a1 a2 b0 b1 b2
      have y1 := A.fz 1
      have z0 := B.fz 0
      have z1 := B.fz 1
      have z2 := B.fz 2
      have hadd := run_string_add_sum (P := Try.prog) w1.drew d (s) (by omega)
      have A1 := A.put 1 (.string (d ++ s)) (by simp)
      have B1 := B.other (show w.heap.size + 1 ≠ w.heap.size by omega) 1 (.string (d ++ s))
      go_wp2
      go_region
      go_wp2
      refine bodyPost_ret (v := .tuple #[.agg #[.int .u32 f, .string (d ++ s), .int .i64 m], .int .i64 s.size]) ?_ rfl ⟨rfl, ?_⟩
      · simp [results, go_sem, (stored3 B1 (.int .u32 f) (.string (d ++ s)) (.int .i64 m)).1, (stored3 B1 (.int .u32 f) (.string (d ++ s)) (.int .i64 m)).2.1, (stored3 B1 (.int .u32 f) (.string (d ++ s)) (.int .i64 m)).2.2]
      · exact (since_put3 (since_put1 G (by omega) _ _) (by omega) _ _ _).drew
    · have hmn : (m : Int) - (d.size : Int) = (n : Int) := by omega
      clear hn hk
      go_enter Try.func28, Try.ntmps28
      go_wp2_with (fail)
      refine (ho _).mono ?_
      rintro _ w1 ⟨rfl, g1⟩
      replace G := G.trans g1
      replace A := A.since g1
      replace B := B.since g1
      have a0 := A.cell 0
      have a1 := A.cell 1
      have a2 := A.cell 2
      have b0 := B.cell 0
      have b1 := B.cell 1
      have b2 := B.cell 2
      simp at a0 a1 a2 b0 b1 b2
      have y1 := A.fz 1
      have z0 := B.fz 0
      have z1 := B.fz 1
      have z2 := B.fz 2
      have hadd := run_string_add_sum (P := Try.prog) w1.drew d (s.extract 0 n) (by rw [ByteArray.size_extract]; omega)
      have A1 := A.put 1 (.string (d ++ s.extract 0 n)) (by simp)
      have B1 := B.other (show w.heap.size + 1 ≠ w.heap.size by omega) 1 (.string (d ++ s.extract 0 n))
      go_wp2
      go_region
      go_wp2
      refine bodyPost_ret (v := .tuple #[.agg #[.int .u32 f, .string (d ++ s.extract 0 n), .int .i64 m], .int .i64 n]) ?_ rfl ⟨rfl, ?_⟩
      · simp [results, go_sem, (stored3 B1 (.int .u32 f) (.string (d ++ s.extract 0 n)) (.int .i64 m)).1, (stored3 B1 (.int .u32 f) (.string (d ++ s.extract 0 n)) (.int .i64 m)).2.1, (stored3 B1 (.int .u32 f) (.string (d ++ s.extract 0 n)) (.int .i64 m)).2.2]
      · exact (since_put3 (since_put1 G (by omega) _ _) (by omega) _ _ _).drew
  · have hk' : outOk d r = false := by simpa using hk
    rw [if_neg hk, if_neg hk]
    rw [hk'] at ho
    unfold outVal at *
    clear hk hk'
    go_enter Try.func28, Try.ntmps28
    go_wp2_with (fail)
    refine (ho _).mono ?_
    rintro _ w1 ⟨rfl, g1⟩
    replace G := G.trans g1
    replace A := A.since g1
    replace B := B.since g1
    have a0 := A.cell 0
    have a1 := A.cell 1
    have a2 := A.cell 2
    have b0 := B.cell 0
    have b1 := B.cell 1
    have b2 := B.cell 2
    simp at a0 a1 a2 b0 b1 b2
    have z0 := B.fz 0
    have z1 := B.fz 1
    have z2 := B.fz 2
    go_wp2
    refine bodyPost_ret (v := .tuple #[.agg #[.int .u32 f, .string d, .int .i64 r], .int .i64 0]) ?_ rfl ⟨rfl, ?_⟩
    · simp [results, go_sem, (stored3 B (.int .u32 f) (.string d) (.int .i64 r)).1, (stored3 B (.int .u32 f) (.string d) (.int .i64 r)).2.1, (stored3 B (.int .u32 f) (.string d) (.int .i64 r)).2.2]
    · exact since_put3 G (by omega) _ _ _

/-- What OutTake answers. -/
def takeT (f : Int) (d : ByteArray) (r q n at' : Int) : ByteArray := if outOk d r = true ∧ (0 ≤ n ∧ n ≤ 4096) ∧ (0 ≤ at' ∧ at' ≤ d.size) then d.extract at'.toNat (at'.toNat + min n.toNat (d.size - at'.toNat)) else ⟨#[]⟩

theorem specOutTake (f : Int) (d : ByteArray) (r q n at' : Int) (hf : IsWord f) (hq : IsWord q) (ha : IsDist f q at') (hd : d.size ≤ 1048576) (hn : IsInt n) (w : World) :
    Calls Try.prog 30 #[outVal f d r, .int .u32 q, .int .i64 n] w fun e w' => e = .returned (.string (takeT f d r q n at')) ∧ Since w w' := by
  have hdist := fun wx => specDist f q at' hf hq ha wx
  have ho := fun wx => specOutOk f d r wx
  have i1 := fun wx => specIn n 0 4096 wx
  have i2 := fun wx => specIn at' 0 d.size wx
  obtain ⟨ha1, ha2, _⟩ := ha
  obtain ⟨hn1, hn2⟩ := hn
  have G : Since w (w.alloc (.cells #[.int .u32 f, .string d, .int .i64 r] 26)) := (Since.refl _).alloc _
  have A := Blk.new w #[.int .u32 f, .string d, .int .i64 r] 26
  unfold outVal at *
  unfold takeT
  cases hk : outOk d r
  · rw [if_neg (by simp)]
    rw [hk] at ho
    clear i1 i2
    go_enter Try.func30, Try.ntmps30
    go_wp2_with (first | (go_at_call 57; refine (hdist _).mono ?_; rintro _ _ ⟨rfl, rfl⟩) | (go_at_call 12; refine (ho _).mono ?_; rintro _ w1 ⟨rfl, g1⟩))
    go_ret
    exact ⟨rfl, G.trans g1⟩
  · rw [hk] at ho
    by_cases c1 : 0 ≤ n ∧ n ≤ 4096
    · rw [show decide (0 ≤ n ∧ n ≤ 4096) = true by simp; omega] at i1
      by_cases c2 : 0 ≤ at' ∧ at' ≤ d.size
      · rw [show decide (0 ≤ at' ∧ at' ≤ (d.size : Int)) = true by simp; omega] at i2
        rw [if_pos ⟨rfl, c1, c2⟩]
        obtain ⟨k, rfl⟩ := Int.eq_ofNat_of_zero_le c2.1
        obtain ⟨m, rfl⟩ := Int.eq_ofNat_of_zero_le c1.1
        obtain ⟨c2, c3⟩ := c2
        obtain ⟨c4, c5⟩ := c1
        clear hn1 hn2 ha1 ha2 c2 c4
        obtain ⟨t, ht⟩ : ∃ t, min ((m : Nat) : Int).toNat (d.size - ((k : Nat) : Int).toNat) = t := ⟨_, rfl⟩
        rw [ht]
        have et : ((k : Nat) : Int).toNat = k := by omega
        rw [et]
        by_cases hlt : (d.size : Int) - (k : Int) < (m : Int)
        · have e1 : (d.size : Int) - (k : Int) = (t : Int) := by omega
          have e2 : k + t ≤ d.size := by omega
          clear ht et
          go_enter Try.func30, Try.ntmps30
          go_wp2_with (first | (go_at_call 57; refine (hdist _).mono ?_; rintro _ _ ⟨rfl, rfl⟩) | (go_at_call 12; refine (ho _).mono ?_; rintro _ w1 ⟨rfl, g1⟩; replace A := A.since g1; have a1 := A.cell 1; simp at a1) | (go_at_call 40; refine (i1 _).mono ?_; clear i1; rintro _ _ ⟨rfl, rfl⟩) | (go_at_call 40; refine (i2 _).mono ?_; clear i2; rintro _ _ ⟨rfl, rfl⟩))
          go_ret
          exact ⟨rfl, G.trans g1⟩
        · have e1 : m = t := by omega
          subst e1
          have e2 : k + m ≤ d.size := by omega
          clear ht et
          go_enter Try.func30, Try.ntmps30
          go_wp2_with (first | (go_at_call 57; refine (hdist _).mono ?_; rintro _ _ ⟨rfl, rfl⟩) | (go_at_call 12; refine (ho _).mono ?_; rintro _ w1 ⟨rfl, g1⟩; replace A := A.since g1; have a1 := A.cell 1; simp at a1) | (go_at_call 40; refine (i1 _).mono ?_; clear i1; rintro _ _ ⟨rfl, rfl⟩) | (go_at_call 40; refine (i2 _).mono ?_; clear i2; rintro _ _ ⟨rfl, rfl⟩))
          go_ret
          exact ⟨rfl, G.trans g1⟩
      · rw [show decide (0 ≤ at' ∧ at' ≤ (d.size : Int)) = false by simp; omega] at i2
        rw [if_neg (fun h => c2 h.2.2)]
        clear c2
        go_enter Try.func30, Try.ntmps30
        go_wp2_with (first | (go_at_call 57; refine (hdist _).mono ?_; rintro _ _ ⟨rfl, rfl⟩) | (go_at_call 12; refine (ho _).mono ?_; rintro _ w1 ⟨rfl, g1⟩; replace A := A.since g1; have a1 := A.cell 1; simp at a1) | (go_at_call 40; refine (i1 _).mono ?_; clear i1; rintro _ _ ⟨rfl, rfl⟩) | (go_at_call 40; refine (i2 _).mono ?_; clear i2; rintro _ _ ⟨rfl, rfl⟩))
        go_ret
        exact ⟨rfl, G.trans g1⟩
    · rw [show decide (0 ≤ n ∧ n ≤ 4096) = false by simp; omega] at i1
      rw [if_neg (fun h => c1 h.2.1)]
      clear c1 i2
      go_enter Try.func30, Try.ntmps30
      go_wp2_with (first | (go_at_call 57; refine (hdist _).mono ?_; rintro _ _ ⟨rfl, rfl⟩) | (go_at_call 12; refine (ho _).mono ?_; rintro _ w1 ⟨rfl, g1⟩) | (go_at_call 40; refine (i1 _).mono ?_; rintro _ _ ⟨rfl, rfl⟩))
      go_ret
      exact ⟨rfl, G.trans g1⟩
end Go.Proofs.Ytpegfiogfcjofaa
