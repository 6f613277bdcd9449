/-
  Lists of spans; contracts of impl's spansOf, bytesIn and InHeld.
-/
import Derived.Test.YtfenlfijfjcdbaaGreatInOkI
import Derived.Test.YtfenlfijfjcdbaaGreatM12
namespace Go.Proofs.YtfenlfijfjcdbaaGreat
open Go.ChangeShapes Go.WideShapes Go.ChangeAt Go.RowKit Go.Deep
set_option linter.unusedVariables false
set_option maxRecDepth 10000
set_option maxRecDepth 10000

def shS : Shape (Int × Int) := ⟨115, 2, fun x => [.int .i64 x.1, .int .i64 x.2], fun _ => rfl, fun x v hv => by simp at hv; rcases hv with rfl | rfl <;> rfl, (0, 0), by decide⟩

def sAt (ss : List (Int × Int)) (i : Nat) : Int × Int := ss.getD i (0, 0)

theorem Rd.sp {w : World} {a : Option Addr} {n : Nat} {ss : List (Int × Int)} (h : Rd shS w a n ss) (i : Nat) (hi : i < n) : ∃ x, a = some x ∧ x.block < w.heap.size ∧ w.cell? (x.add (i * 2)) = some (.int .i64 (sAt ss i).1) ∧ w.cell? ⟨(x.add (i * 2)).block, (x.add (i * 2)).off + 1, none⟩ = some (.int .i64 (sAt ss i).2) := by
  obtain ⟨x, e, hb, hc⟩ := h.cell i hi
  refine ⟨x, e, hb, hc 0 (by decide), ?_⟩
  rw [addr_step x (i * 2) 1 (by omega)]
  exact hc 1 (by decide)

def inRoomN (q : Int) (d : ByteArray) (r : Int) (ps : List (Int × ByteArray)) : Int := if inOk q d r ps = true then r - d.size else 0

theorem inOk_room {q : Int} {d : ByteArray} {r : Int} {ps : List (Int × ByteArray)} (h : inOk q d r ps = true) : (1 ≤ r ∧ r ≤ 4096) ∧ (d.size : Int) ≤ r ∧ okB 0 (r - d.size) (spans q ps) = true := by
  simpa [inOk] using h

theorem implInRoom (q : Int) (d : ByteArray) (r : Int) (a : Option Addr) (n cap : Nat) (ps : List (Int × ByteArray)) (g : Good q d r n ps) (w : World) (R : Rd shP w a n ps) :
    Calls Tryz.prog 93 #[inVal q d (.slice a n cap) r] w fun e w' => e = .returned (.int .i64 (inRoomN q d r ps)) ∧ Since w w' := by
  have ho := fun wx Rx => implInOk q d r a n cap ps g wx Rx
  have hd := g.hd
  have G : Since w (w.alloc (.cells #[.int .u32 q, .string d, .slice a n cap, .int .i64 r] 38)) := (Since.refl _).alloc _
  have A := Blk.new w #[.int .u32 q, .string d, .slice a n cap, .int .i64 r] 38
  have ho1 := ho _ (R.since G)
  clear ho
  unfold inRoomN
  cases hk : inOk q d r ps
  · rw [if_neg (by simp)]
    rw [hk] at ho1
    unfold inVal at *
    clear g R
    go_enter Tryz.func93, Tryz.ntmps93
    go_wp2_with (go_at_call 78; refine ho1.mono ?_; rintro _ w1 ⟨rfl, g1⟩)
    go_ret
    exact ⟨rfl, G.trans g1⟩
  · rw [if_pos rfl]
    rw [hk] at ho1
    have hm := fun wx => inRoom q d (.slice a n cap) r hd (by have := (inOk_room hk).1; omega) wx
    unfold inVal at *
    clear g R
    go_enter Tryz.func93, Tryz.ntmps93
    go_wp2_with (first | (go_at_call 78; refine ho1.mono ?_; rintro _ w1 ⟨rfl, g1⟩; have c0 := (A.since g1).cell 0; have c1 := (A.since g1).cell 1; have c2 := (A.since g1).cell 2; have c3 := (A.since g1).cell 3; simp at c0 c1 c2 c3) | (go_at_call 100; refine (hm _).mono ?_; rintro _ w2 ⟨rfl, g2⟩))
    go_ret
    exact ⟨rfl, G.trans (g1.trans g2)⟩
end Go.Proofs.YtfenlfijfjcdbaaGreat
