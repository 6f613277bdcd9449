/-
  What OutPut, OutTake and OutDone answer; contracts of spec's.
  What OutDone answers; contract of spec's.
-/
import Derived.Test.YtfenlfijfjcdbaaGreatOut
import Derived.Test.YtfenlfijfjcdbaaGreatBytF
import Derived.Test.YtfenlfijfjcdbaaGreatM2
import Derived.Laws.Concat
import Derived.RegionTactic
namespace Go.Proofs.YtfenlfijfjcdbaaGreat
open Go.ChangeShapes Go.WideShapes Go.ChangeAt Go.RowKit Go.Deep
set_option linter.unusedVariables false
set_option maxRecDepth 10000
set_option maxRecDepth 10000

theorem stored3 {b : Nat} {x : World} {c0 c1 c2 : Value} (B : Blk b x #[c0, c1, c2]) (v0 v1 v2 : Value) :
    (((x.setCell ⟨b, 0, none⟩ v0).setCell ⟨b, 1, none⟩ v1).setCell ⟨b, 2, none⟩ v2).cell? ⟨b, 0, none⟩ = some v0 ∧ (((x.setCell ⟨b, 0, none⟩ v0).setCell ⟨b, 1, none⟩ v1).setCell ⟨b, 2, none⟩ v2).cell? ⟨b, 1, none⟩ = some v1 ∧ (((x.setCell ⟨b, 0, none⟩ v0).setCell ⟨b, 1, none⟩ v1).setCell ⟨b, 2, none⟩ v2).cell? ⟨b, 2, none⟩ = some v2 := by
  have k := ((B.put 0 v0 (by simp)).put 1 v1 (by simp)).put 2 v2 (by simp)
  exact ⟨by simpa using k.cell 0, by simpa using k.cell 1, by simpa using k.cell 2⟩

theorem since_put3 {w x : World} {b : Nat} (h : Since w x) (hb : w.heap.size ≤ b) (v0 v1 v2 : Value) : Since w (((x.setCell ⟨b, 0, none⟩ v0).setCell ⟨b, 1, none⟩ v1).setCell ⟨b, 2, none⟩ v2) := since_put1 (since_put1 (since_put1 h hb _ _) hb _ _) hb _ _

def takeT (f : Int) (d : ByteArray) (r q n at' : Int) : ByteArray := if outOk d r = true ∧ (0 ≤ n ∧ n ≤ 4096) ∧ (0 ≤ at' ∧ at' ≤ d.size) then d.extract at'.toNat (at'.toNat + min n.toNat (d.size - at'.toNat)) else ⟨#[]⟩

theorem specOutTake (f : Int) (d : ByteArray) (r q n at' : Int) (hf : IsWord f) (hq : IsWord q) (ha : IsDist f q at') (hd : d.size ≤ 1048576) (hn : IsInt n) (w : World) :
    Calls Tryz.prog 56 #[outVal f d r, .int .u32 q, .int .i64 n] w fun e w' => e = .returned (.string (takeT f d r q n at')) ∧ Since w w' := by
  have hdist := fun wx => specDist f q at' hf hq ha wx
  have ho := fun wx => specOutOk f d r wx
  have i1 := fun wx => specIn n 0 4096 wx
  have i2 := fun wx => specIn at' 0 d.size wx
  obtain ⟨ha1, ha2, _⟩ := ha
  obtain ⟨hn1, hn2⟩ := hn
  have G : Since w (w.alloc (.cells #[.int .u32 f, .string d, .int .i64 r] 35)) := (Since.refl _).alloc _
  have A := Blk.new w #[.int .u32 f, .string d, .int .i64 r] 35
  unfold outVal at *
  unfold takeT
  cases hk : outOk d r
  · rw [if_neg (by simp)]
    rw [hk] at ho
    clear i1 i2
    go_enter Tryz.func56, Tryz.ntmps56
    go_wp2_with (first | (go_at_call 27; refine (hdist _).mono ?_; rintro _ _ ⟨rfl, rfl⟩) | (go_at_call 48; refine (ho _).mono ?_; rintro _ w1 ⟨rfl, g1⟩))
    go_ret
    exact ⟨rfl, G.trans g1⟩
  · rw [hk] at ho
    by_cases c1 : 0 ≤ n ∧ n ≤ 4096
    · rw [show decide (0 ≤ n ∧ n ≤ 4096) = true by simp; omega] at i1
      by_cases c2 : 0 ≤ at' ∧ at' ≤ d.size
      · rw [show decide (0 ≤ at' ∧ at' ≤ (d.size : Int)) = true by simp; omega] at i2
        rw [if_pos ⟨rfl, c1, c2⟩]
        obtain ⟨k, rfl⟩ := Int.eq_ofNat_of_zero_le c2.1
        obtain ⟨m, rfl⟩ := Int.eq_ofNat_of_zero_le c1.1
        obtain ⟨c2, c3⟩ := c2
        obtain ⟨c4, c5⟩ := c1
        clear hn1 hn2 ha1 ha2 c2 c4
        obtain ⟨t, ht⟩ : ∃ t, min ((m : Nat) : Int).toNat (d.size - ((k : Nat) : Int).toNat) = t := ⟨_, rfl⟩
        rw [ht]
        have et : ((k : Nat) : Int).toNat = k := by omega
        rw [et]
        by_cases hlt : (d.size : Int) - (k : Int) < (m : Int)
        · have e1 : (d.size : Int) - (k : Int) = (t : Int) := by omega
          have e2 : k + t ≤ d.size := by omega
          clear ht et
          go_enter Tryz.func56, Tryz.ntmps56
          go_wp2_with (first | (go_at_call 27; refine (hdist _).mono ?_; rintro _ _ ⟨rfl, rfl⟩) | (go_at_call 48; refine (ho _).mono ?_; rintro _ w1 ⟨rfl, g1⟩; replace A := A.since g1; have a1 := A.cell 1; simp at a1) | (go_at_call 18; refine (i1 _).mono ?_; clear i1; rintro _ _ ⟨rfl, rfl⟩) | (go_at_call 18; refine (i2 _).mono ?_; clear i2; rintro _ _ ⟨rfl, rfl⟩))
          go_ret
          exact ⟨rfl, G.trans g1⟩
        · have e1 : m = t := by omega
          subst e1
          have e2 : k + m ≤ d.size := by omega
          clear ht et
          go_enter Tryz.func56, Tryz.ntmps56
          go_wp2_with (first | (go_at_call 27; refine (hdist _).mono ?_; rintro _ _ ⟨rfl, rfl⟩) | (go_at_call 48; refine (ho _).mono ?_; rintro _ w1 ⟨rfl, g1⟩; replace A := A.since g1; have a1 := A.cell 1; simp at a1) | (go_at_call 18; refine (i1 _).mono ?_; clear i1; rintro _ _ ⟨rfl, rfl⟩) | (go_at_call 18; refine (i2 _).mono ?_; clear i2; rintro _ _ ⟨rfl, rfl⟩))
          go_ret
          exact ⟨rfl, G.trans g1⟩
      · rw [show decide (0 ≤ at' ∧ at' ≤ (d.size : Int)) = false by simp; omega] at i2
        rw [if_neg (fun h => c2 h.2.2)]
        clear c2
        go_enter Tryz.func56, Tryz.ntmps56
        go_wp2_with (first | (go_at_call 27; refine (hdist _).mono ?_; rintro _ _ ⟨rfl, rfl⟩) | (go_at_call 48; refine (ho _).mono ?_; rintro _ w1 ⟨rfl, g1⟩; replace A := A.since g1; have a1 := A.cell 1; simp at a1) | (go_at_call 18; refine (i1 _).mono ?_; clear i1; rintro _ _ ⟨rfl, rfl⟩) | (go_at_call 18; refine (i2 _).mono ?_; clear i2; rintro _ _ ⟨rfl, rfl⟩))
        go_ret
        exact ⟨rfl, G.trans g1⟩
    · rw [show decide (0 ≤ n ∧ n ≤ 4096) = false by simp; omega] at i1
      rw [if_neg (fun h => c1 h.2.1)]
      clear c1 i2
      go_enter Tryz.func56, Tryz.ntmps56
      go_wp2_with (first | (go_at_call 27; refine (hdist _).mono ?_; rintro _ _ ⟨rfl, rfl⟩) | (go_at_call 48; refine (ho _).mono ?_; rintro _ w1 ⟨rfl, g1⟩) | (go_at_call 18; refine (i1 _).mono ?_; rintro _ _ ⟨rfl, rfl⟩))
      go_ret
      exact ⟨rfl, G.trans g1⟩
end Go.Proofs.YtfenlfijfjcdbaaGreat

namespace Go.Proofs.YtfenlfijfjcdbaaGreat
open Go.ChangeShapes Go.WideShapes Go.ChangeAt Go.RowKit Go.Deep
set_option linter.unusedVariables false
set_option maxRecDepth 10000
set_option maxRecDepth 10000

def doneOk (d : ByteArray) (r at' : Int) : Prop := outOk d r = true ∧ 0 ≤ at' ∧ at' ≤ d.size

instance (d : ByteArray) (r at' : Int) : Decidable (doneOk d r at') := by unfold doneOk; infer_instance
end Go.Proofs.YtfenlfijfjcdbaaGreat
