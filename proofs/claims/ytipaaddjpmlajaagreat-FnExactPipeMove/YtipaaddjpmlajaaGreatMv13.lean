/-
  What a turn makes of a pipe and two ends, as plain functions; reading, writing, closing and copying an end wherever its parts lie.
-/
import Derived.Test.YtipaaddjpmlajaaGreatRead11I
import Derived.Test.YtipaaddjpmlajaaGreatWrite11I
import Derived.Test.YtipaaddjpmlajaaGreatClose11I
import Derived.Test.YtipaaddjpmlajaaGreatLaw11
import Derived.Test.YtipaaddjpmlajaaGreatRelay
import Derived.Test.YtipaaddjpmlajaaGreatM11
import Derived.Test.YtipaaddjpmlajaaGreatVlText
import Derived.Test.YtipaaddjpmlajaaGreatDrawnStore
namespace Go.Proofs.YtipaaddjpmlajaaGreat
open Go.ChangeShapes Go.WideShapes Go.ChangeAt Go.RowKit
set_option linter.unusedVariables false
set_option maxRecDepth 10000

theorem read_at (c : Cn) (ps : List (Int × ByteArray)) (n : Int) (a : Option Addr) (p : Nat) (a' : Option Addr) (p' : Nat) : ({ readC { c with pa := a, pc := p } ps n with pa := a', pc := p' } : Cn) = { readC c ps n with pa := a', pc := p' } := by
  change ({ (if connOk c ps = true then (if owesR c.st (inRoomN c.iN c.iD c.iR ps) (readT c.iN c.iD c.iR ps n) = true then { ({ c with pa := a, pc := p } : Cn) with iD := readD c.iN c.iD c.iR ps n, owe := true } else { ({ c with pa := a, pc := p } : Cn) with iD := readD c.iN c.iD c.iR ps n }) else ({ c with pa := a, pc := p } : Cn)) with pa := a', pc := p' } : Cn) = { (if connOk c ps = true then (if owesR c.st (inRoomN c.iN c.iD c.iR ps) (readT c.iN c.iD c.iR ps n) = true then { c with iD := readD c.iN c.iD c.iR ps n, owe := true } else { c with iD := readD c.iN c.iD c.iR ps n }) else c) with pa := a', pc := p' }
  generalize owesR c.st (inRoomN c.iN c.iD c.iR ps) (readT c.iN c.iD c.iR ps n) = b2
  generalize connOk c ps = b
  cases b <;> cases b2 <;> rfl

theorem write_at (c : Cn) (ps : List (Int × ByteArray)) (s : ByteArray) (a : Option Addr) (p : Nat) (a' : Option Addr) (p' : Nat) : ({ writeC { c with pa := a, pc := p } ps s with pa := a', pc := p' } : Cn) = { writeC c ps s with pa := a', pc := p' } := by
  change ({ (if writeOk c ps = true then { ({ c with pa := a, pc := p } : Cn) with oD := putD c.oD c.oR s } else ({ c with pa := a, pc := p } : Cn)) with pa := a', pc := p' } : Cn) = { (if writeOk c ps = true then { c with oD := putD c.oD c.oR s } else c) with pa := a', pc := p' }
  generalize writeOk c ps = b
  cases b <;> rfl

theorem close_at (c : Cn) (ps : List (Int × ByteArray)) (a : Option Addr) (p : Nat) (a' : Option Addr) (p' : Nat) : ({ closeC { c with pa := a, pc := p } ps with pa := a', pc := p' } : Cn) = { closeC c ps with pa := a', pc := p' } := by
  change ({ (if (connOk c ps && mayW c.st) = true then { ({ c with pa := a, pc := p } : Cn) with fin := true } else ({ c with pa := a, pc := p } : Cn)) with pa := a', pc := p' } : Cn) = { (if (connOk c ps && mayW c.st) = true then { c with fin := true } else c) with pa := a', pc := p' }
  generalize (connOk c ps && mayW c.st) = b
  cases b <;> rfl

theorem read_pn (c : Cn) (ps : List (Int × ByteArray)) (n : Int) : (readC c ps n).pn = c.pn := by
  unfold readC
  repeat' split
  all_goals rfl

theorem write_pn (c : Cn) (ps : List (Int × ByteArray)) (s : ByteArray) : (writeC c ps s).pn = c.pn := by
  unfold writeC
  split
  all_goals rfl

theorem close_pn (c : Cn) (ps : List (Int × ByteArray)) : (closeC c ps).pn = c.pn := by
  unfold closeC
  split
  all_goals rfl

theorem readT_size (q : Int) (d : ByteArray) (r : Int) (ps : List (Int × ByteArray)) (n : Int) : ((readT q d r ps n).size : Int) ≤ 4096 := by
  unfold readT
  split
  · rename_i h
    unfold readN
    rw [if_pos h]
    simp
    omega
  · show ((0 : Nat) : Int) ≤ 4096
    omega

theorem readS_size (c : Cn) (ps : List (Int × ByteArray)) (n : Int) : ((readS c ps n).size : Int) ≤ 4096 := by
  unfold readS
  split
  · exact readT_size _ _ _ _ _
  · show ((0 : Nat) : Int) ≤ 4096
    omega

theorem putD_size {d : ByteArray} {r : Int} {s : ByteArray} (h : d.size ≤ 1048576) : (putD d r s).size ≤ 1048576 := by
  unfold putD
  split
  · rename_i k
    have := (outOk_iff d r).1 k
    unfold putN
    rw [if_pos k]
    simp
    omega
  · exact h

theorem good_write {c : Cn} {ps : List (Int × ByteArray)} (g : GoodC c ps) (s : ByteArray) : GoodC (writeC c ps s) ps := by
  unfold writeC
  split
  · exact ⟨g.w_iss, g.w_una, g.w_nxt, g.w_mx, g.w_wsq, g.w_wak, g.w_oF, g.w_fsq, g.w_cR, g.w_tsq, putD_size g.hod, g.gd⟩
  · exact g

/-- How many bytes are written, as a Nat. -/
def writeM (c : Cn) (ps : List (Int × ByteArray)) (s : ByteArray) : Nat := if writeOk c ps then putN c.oD c.oR s else 0

theorem write_is (c : Cn) (ps : List (Int × ByteArray)) (s : ByteArray) : writeN c ps s = (writeM c ps s : Int) := by
  unfold writeN writeM
  split
  all_goals rfl

theorem writeM_le (c : Cn) (ps : List (Int × ByteArray)) (s : ByteArray) : writeM c ps s ≤ s.size := by
  unfold writeM putN
  repeat' split
  all_goals omega

theorem sRead {c : Cn} {ps : List (Int × ByteArray)} (gc : GoodC c ps) (n : Int) (hn : IsInt n) (q p : Nat) (w : World) (R : Rd shP w (some ⟨q, 0, none⟩) c.pn ps) :
    Calls Tryz.prog 28 #[.agg (cnCells { c with pa := some ⟨q, 0, none⟩, pc := p }), .int .i64 n] w fun e w' => ∃ g cp, e = .returned (.tuple #[.agg (cnCells { readC c ps n with pa := some ⟨g, 0, none⟩, pc := cp }), .string (readS c ps n)]) ∧ Held shP w' w.heap.size g c.pn cp ps ∧ Since w w' := by
  refine (specRead { c with pa := some ⟨q, 0, none⟩, pc := p } ps n (good_at gc _ _) (fun h => by cases h) hn w R).mono ?_
  rintro e w' ⟨g, cp, h, H, k⟩
  exact ⟨g, cp, h.trans (by rw [read_at]; rfl), H, k⟩

theorem iRead {c : Cn} {ps : List (Int × ByteArray)} (gc : GoodC c ps) (n : Int) (hn : IsInt n) (a : Option Addr) (p : Nat) (hnil : a = none → p = 0) (w : World) (R : Rd shP w a c.pn ps) :
    Calls Tryz.prog 98 #[.agg (cnCells { c with pa := a, pc := p }), .int .i64 n] w fun e w' => ∃ g cp, e = .returned (.tuple #[.agg (cnCells { readC c ps n with pa := some ⟨g, 0, none⟩, pc := cp }), .string (readS c ps n)]) ∧ Held shP w' w.heap.size g c.pn cp ps ∧ Since w w' := by
  refine (implRead { c with pa := a, pc := p } ps n hn hnil (good_at gc _ _) w R).mono ?_
  rintro e w' ⟨g, cp, h, H, k⟩
  exact ⟨g, cp, h.trans (by rw [read_at]; rfl), H, k⟩

theorem sWrite {c : Cn} {ps : List (Int × ByteArray)} (gc : GoodC c ps) (s : ByteArray) (hs : s.size ≤ 1048576) (q p : Nat) (w : World) (R : Rd shP w (some ⟨q, 0, none⟩) c.pn ps) :
    Calls Tryz.prog 29 #[.agg (cnCells { c with pa := some ⟨q, 0, none⟩, pc := p }), .string s] w fun e w' => ∃ g cp, e = .returned (.tuple #[.agg (cnCells { writeC c ps s with pa := some ⟨g, 0, none⟩, pc := cp }), .int .i64 (writeM c ps s)]) ∧ Held shP w' w.heap.size g c.pn cp ps ∧ Since w w' := by
  refine (specWrite { c with pa := some ⟨q, 0, none⟩, pc := p } ps s (good_at gc _ _) (fun h => by cases h) hs w R).mono ?_
  rintro e w' ⟨g, cp, h, H, k⟩
  refine ⟨g, cp, h.trans ?_, H, k⟩
  rw [write_at, ← write_is]
  rfl

theorem iWrite {c : Cn} {ps : List (Int × ByteArray)} (gc : GoodC c ps) (s : ByteArray) (hs : s.size ≤ 1048576) (a : Option Addr) (p : Nat) (w : World) (R : Rd shP w a c.pn ps) :
    Calls Tryz.prog 101 #[.agg (cnCells { c with pa := a, pc := p }), .string s] w fun e w' => ∃ g cp, e = .returned (.tuple #[.agg (cnCells { writeC c ps s with pa := some ⟨g, 0, none⟩, pc := cp }), .int .i64 (writeM c ps s)]) ∧ Held shP w' w.heap.size g c.pn cp ps ∧ Since w w' := by
  refine (implWrite { c with pa := a, pc := p } ps s hs (good_at gc _ _) w R).mono ?_
  rintro e w' ⟨g, h, H, k⟩
  refine ⟨g, c.pn, h.trans ?_, H, k⟩
  rw [write_at, ← write_is]
  rfl

theorem sClose {c : Cn} {ps : List (Int × ByteArray)} (gc : GoodC c ps) (q p : Nat) (w : World) (R : Rd shP w (some ⟨q, 0, none⟩) c.pn ps) :
    Calls Tryz.prog 31 #[.agg (cnCells { c with pa := some ⟨q, 0, none⟩, pc := p })] w fun e w' => ∃ g cp, e = .returned (.agg (cnCells { closeC c ps with pa := some ⟨g, 0, none⟩, pc := cp })) ∧ Held shP w' w.heap.size g c.pn cp ps ∧ Since w w' := by
  refine (specClose { c with pa := some ⟨q, 0, none⟩, pc := p } ps (good_at gc _ _) (fun h => by cases h) w R).mono ?_
  rintro e w' ⟨g, cp, h, H, k⟩
  refine ⟨g, cp, h.trans ?_, H, k⟩
  rw [close_at]
  rfl

theorem iClose {c : Cn} {ps : List (Int × ByteArray)} (gc : GoodC c ps) (a : Option Addr) (p : Nat) (w : World) (R : Rd shP w a c.pn ps) :
    Calls Tryz.prog 104 #[.agg (cnCells { c with pa := a, pc := p })] w fun e w' => ∃ g cp, e = .returned (.agg (cnCells { closeC c ps with pa := some ⟨g, 0, none⟩, pc := cp })) ∧ Held shP w' w.heap.size g c.pn cp ps ∧ Since w w' := by
  refine (implClose { c with pa := a, pc := p } ps (good_at gc _ _) w R).mono ?_
  rintro e w' ⟨g, h, H, k⟩
  refine ⟨g, c.pn, h.trans ?_, H, k⟩
  rw [close_at]

theorem sCopy {c : Cn} {ps : List (Int × ByteArray)} (gc : GoodC c ps) (q p : Nat) (w : World) (R : Rd shP w (some ⟨q, 0, none⟩) c.pn ps) :
    Calls Tryz.prog 25 #[.agg (cnCells { c with pa := some ⟨q, 0, none⟩, pc := p })] w fun e w' => ∃ g cp, e = .returned (.agg (cnCells { c with pa := some ⟨g, 0, none⟩, pc := cp })) ∧ Held shP w' w.heap.size g c.pn cp ps ∧ Since w w' :=
  specCopied { c with pa := some ⟨q, 0, none⟩, pc := p } ps (good_at gc _ _) (fun h => by cases h) w R

theorem iFresh {c : Cn} {ps : List (Int × ByteArray)} (gc : GoodC c ps) (q p : Nat) (w : World) (R : Rd shP w (some ⟨q, 0, none⟩) c.pn ps) :
    Calls Tryz.prog 40 #[.agg (cnCells { c with pa := some ⟨q, 0, none⟩, pc := p })] w fun e w' => ∃ g cp, e = .returned (.agg (cnCells { c with pa := some ⟨g, 0, none⟩, pc := cp })) ∧ Held shP w' w.heap.size g c.pn cp ps ∧ Since w w' := by
  refine (implFresh { c with pa := some ⟨q, 0, none⟩, pc := p } ps (good_at gc _ _) w R).mono ?_
  rintro e w' ⟨g, h, H, k⟩
  exact ⟨g, c.pn, h, H, k⟩

theorem iOk {c : Cn} {ps : List (Int × ByteArray)} (gc : GoodC c ps) (q p : Nat) (w : World) (R : Rd shP w (some ⟨q, 0, none⟩) c.pn ps) :
    Calls Tryz.prog 38 #[.agg (cnCells { c with pa := some ⟨q, 0, none⟩, pc := p })] w fun e w' => e = .returned (.bool (connOk c ps)) ∧ Since w w' :=
  implConnOk { c with pa := some ⟨q, 0, none⟩, pc := p } ps (good_at gc _ _) w R

theorem results_3 {fn : Func} {t u v : Tmp} {b b1 b2 : Nat} {w : World} {cs : Array Value} {c c' : Cn} {hs : cs.size = 4} (h : fn.results = #[.cell t 38, .cell u 46, .cell v 46]) (tmps : Array Value) (hp : tmps.getD t undef = .pointer (some ⟨b, 0, none⟩)) (hq : tmps.getD u undef = .pointer (some ⟨b1, 0, none⟩)) (hr : tmps.getD v undef = .pointer (some ⟨b2, 0, none⟩))
    (B : Blk b w cs) (B1 : Blk b1 w (cnCells c)) (B2 : Blk b2 w (cnCells c')) : (results fn tmps).run Tryz.prog w = .ok (.tuple #[.agg cs, .agg (cnCells c), .agg (cnCells c')]) w := by
  have e := var_big pp_big hs B
  have e1 := ret_cn B1
  have e2 := ret_cn B2
  have hp' : tmps[t]?.getD undef = .pointer (some ⟨b, 0, none⟩) := by simpa using hp
  have hq' : tmps[u]?.getD undef = .pointer (some ⟨b1, 0, none⟩) := by simpa using hq
  have hr' : tmps[v]?.getD undef = .pointer (some ⟨b2, 0, none⟩) := by simpa using hr
  simp [results, h, hp', hq', hr', asAddr, e, e1, e2]

theorem results_22 {fn : Func} {u v : Tmp} {b1 b2 : Nat} {w : World} {c c' : Cn} (h : fn.results = #[.cell u 46, .cell v 46]) (tmps : Array Value) (hq : tmps.getD u undef = .pointer (some ⟨b1, 0, none⟩)) (hr : tmps.getD v undef = .pointer (some ⟨b2, 0, none⟩))
    (B1 : Blk b1 w (cnCells c)) (B2 : Blk b2 w (cnCells c')) : (results fn tmps).run Tryz.prog w = .ok (.tuple #[.agg (cnCells c), .agg (cnCells c')]) w := by
  have e1 := ret_cn B1
  have e2 := ret_cn B2
  have hq' : tmps[u]?.getD undef = .pointer (some ⟨b1, 0, none⟩) := by simpa using hq
  have hr' : tmps[v]?.getD undef = .pointer (some ⟨b2, 0, none⟩) := by simpa using hr
  simp [results, h, hq', hr', asAddr, e1, e2]

/-- Whether a turn is made. -/
def mvOk (r : Int) (d : ByteArray) (n : Int) (F : Cn) (ps : List (Int × ByteArray)) (T : Cn) (qs : List (Int × ByteArray)) : Bool := pipeOk r d n && (connOk F ps && connOk T qs)

/-- Whether a text is empty. -/
def emp (s : ByteArray) : Bool := s.toList == []

/-- What the pipe holds once it has read. -/
def gotD (r : Int) (d : ByteArray) (F : Cn) (ps : List (Int × ByteArray)) : ByteArray := d ++ readS F ps (r - d.size)

/-- What it holds then. -/
def leftD (r : Int) (d : ByteArray) (F : Cn) (ps : List (Int × ByteArray)) (T : Cn) (qs : List (Int × ByteArray)) : ByteArray := (gotD r d F ps).extract (writeM T qs (gotD r d F ps)) (gotD r d F ps).size

/-- How many bytes have passed, at most so many. -/
def capP (n : Int) (m : Nat) : Int := if 1000000000 < n + m then 1000000000 else n + m

/-- Whether it has ended. -/
def endE (r : Int) (d : ByteArray) (e : Bool) (F : Cn) (ps : List (Int × ByteArray)) : Bool := if (readC F ps (r - d.size)).gfn && emp (readC F ps (r - d.size)).iD then true else e

/-- The end that is written to, once it may have been closed. -/
def shutT (e : Bool) (d : ByteArray) (T : Cn) (qs : List (Int × ByteArray)) : Cn := if e && emp d then closeC T qs else T

/-- What a turn makes of the pipe, and of the two ends. -/
def mvD (r : Int) (d : ByteArray) (n : Int) (F : Cn) (ps : List (Int × ByteArray)) (T : Cn) (qs : List (Int × ByteArray)) : ByteArray := if mvOk r d n F ps T qs then leftD r d F ps T qs else d

/-- Whether nothing more will come. -/
def mvE (r : Int) (d : ByteArray) (e : Bool) (n : Int) (F : Cn) (ps : List (Int × ByteArray)) (T : Cn) (qs : List (Int × ByteArray)) : Bool := if mvOk r d n F ps T qs then endE r d e F ps else e

/-- How many bytes have passed. -/
def mvN (r : Int) (d : ByteArray) (n : Int) (F : Cn) (ps : List (Int × ByteArray)) (T : Cn) (qs : List (Int × ByteArray)) : Int := if mvOk r d n F ps T qs then capP n (writeM T qs (gotD r d F ps)) else n

/-- The end that is read from. -/
def mvF (r : Int) (d : ByteArray) (n : Int) (F : Cn) (ps : List (Int × ByteArray)) (T : Cn) (qs : List (Int × ByteArray)) : Cn := if mvOk r d n F ps T qs then readC F ps (r - d.size) else F

/-- The end that is written to. -/
def mvT (r : Int) (d : ByteArray) (e : Bool) (n : Int) (F : Cn) (ps : List (Int × ByteArray)) (T : Cn) (qs : List (Int × ByteArray)) : Cn := if mvOk r d n F ps T qs then shutT (endE r d e F ps) (leftD r d F ps T qs) (writeC T qs (gotD r d F ps)) qs else T

theorem gotD_size {r : Int} {d : ByteArray} (F : Cn) (ps : List (Int × ByteArray)) (h : d.size ≤ 1000000) : (gotD r d F ps).size ≤ 1048576 := by
  have := readS_size F ps (r - d.size)
  unfold gotD
  simp
  omega
end Go.Proofs.YtipaaddjpmlajaaGreat
