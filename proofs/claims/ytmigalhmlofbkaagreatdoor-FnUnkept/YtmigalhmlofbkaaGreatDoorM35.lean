/- A part of the proof. -/
import Derived.Test.YtmigalhmlofbkaaGreatDoorArrG
import Derived.ScopeJumps
set_option linter.unusedVariables false
set_option maxRecDepth 10000
namespace Go.Proofs.YtmigalhmlofbkaaGreatDoor
open Go.ChangeShapes Go.WideShapes Go.ChangeAt Go.RowKit Go.Deep
abbrev Came:=Cn×List (Int×ByteArray)×List Sg
def fromD (e:Cn) (s:Sg) (now:Int) (ps:List (Int×ByteArray)):Came:=(endX {takenC e s ps with pn:=(takenP e s ps).length} s now,takenP e s ps,[])
def fromF (e:Cn) (s:Sg) (now:Int) (ps:List (Int×ByteArray)):Came:=if (finDoneX e now).st == 0 then (finDoneX e now,ps,[]) else fromD (finDoneX e now) s now ps
def fromC (e:Cn) (s:Sg) (now:Int) (ps:List (Int×ByteArray)):Came:=
 if !decide (0≤distI e.una s.ak) then fromF e s now ps else if decide (0<distI e.mx s.ak) then ({e with owe:=true},ps,[]) else fromF (toldX (confirmed e s now) s) s now ps
def fromL (e:Cn) (s:Sg) (now:Int) (ps:List (Int×ByteArray)):Came:=if lineB s then fromC e s now ps else (refC e now (lineO e s) false (lineZ e s),ps,[])
def fromW (e:Cn) (s:Sg) (now:Int) (ps:List (Int×ByteArray)):Came:=
 if winB e s ps then fromL e s now ps else (refC e now (!hasF s.fl 4) (!hasF s.fl 4 && decide (e.st=9)) false,ps,[])
def cameI (e:Cn) (s:Sg) (now:Int) (ps:List (Int×ByteArray)):Came:=if e.st == 1 then (answI e s now,ps,answS e s) else fromW e s now ps
structure SameIn (c d:Cn):Prop where
 iN:d.iN=c.iN
 iD:d.iD=c.iD
 iR:d.iR=c.iR
 pa:d.pa=c.pa
 pn:d.pn=c.pn
 pc:d.pc=c.pc
theorem SameIn.refl (c:Cn):SameIn c c:=⟨rfl,rfl,rfl,rfl,rfl,rfl⟩
theorem SameIn.trans {a b c:Cn} (h:SameIn a b) (k:SameIn b c):SameIn a c:=⟨k.iN.trans h.iN,k.iD.trans h.iD,k.iR.trans h.iR,k.pa.trans h.pa,k.pn.trans h.pn,k.pc.trans h.pc⟩
theorem same_conf1 (c:Cn) (s:Sg):SameIn c (conf1 c s):=by
 unfold conf1
 split<;>exact ⟨rfl,rfl,rfl,rfl,rfl,rfl⟩
theorem same_conf3 (c:Cn) (s:Sg) (now:Int):SameIn c (conf3 c s now):=by
 unfold conf3 timedC
 split<;>exact ⟨rfl,rfl,rfl,rfl,rfl,rfl⟩
theorem same_conf5 (c:Cn) (now:Int):SameIn c (conf5 c now):=by
 unfold conf5
 split<;>exact ⟨rfl,rfl,rfl,rfl,rfl,rfl⟩
theorem same_conf7 (c:Cn) (b:Bool):SameIn c (conf7 c b):=by
 unfold conf7
 split<;>exact ⟨rfl,rfl,rfl,rfl,rfl,rfl⟩
theorem same_confN (c:Cn) (s:Sg) (now:Int):SameIn c (confN c s now):=by
 unfold confN
 have h2:SameIn c (conf2 c (uptoC c s)):=⟨rfl,rfl,rfl,rfl,rfl,rfl⟩
 have h3:=h2.trans (same_conf3 _ s now)
 have h4:SameIn c (conf4 (conf3 (conf2 c (uptoC c s)) s now) s):=h3.trans ⟨rfl,rfl,rfl,rfl,rfl,rfl⟩
 have h5:=h4.trans (same_conf5 _ now)
 exact (h5.trans (b:=conf5 (conf4 (conf3 (conf2 c (uptoC c s)) s now) s) now) (c:=conf6 (conf5 (conf4 (conf3 (conf2 c (uptoC c s)) s now) s) now) (distI c.una s.ak) s.ak) ⟨rfl,rfl,rfl,rfl,rfl,rfl⟩).trans (same_conf7 _ _)
theorem same_confD (c:Cn) (s:Sg):SameIn c (confD c s):=by
 unfold confD
 split
 ·unfold dupC
  split<;>exact ⟨rfl,rfl,rfl,rfl,rfl,rfl⟩
 ·exact SameIn.refl c
theorem same_confirmed (c:Cn) (s:Sg) (now:Int):SameIn c (confirmed c s now):=by
 unfold confirmed
 split
 ·exact (same_conf1 c s).trans (same_confN _ s now)
 ·exact (same_conf1 c s).trans (same_confD _ s)
theorem same_told (c:Cn) (s:Sg):SameIn c (toldX c s):=by
 unfold toldX toldC
 split
 ·split<;>exact ⟨rfl,rfl,rfl,rfl,rfl,rfl⟩
 ·exact SameIn.refl c
theorem same_fin (c:Cn) (now:Int):SameIn c (finDoneX c now):=by
 unfold finDoneX restC endC
 split
 ·split
  ·exact ⟨rfl,rfl,rfl,rfl,rfl,rfl⟩
  ·split
   ·exact ⟨rfl,rfl,rfl,rfl,rfl,rfl⟩
   ·split<;>exact ⟨rfl,rfl,rfl,rfl,rfl,rfl⟩
 ·exact SameIn.refl c
theorem same_ref (c:Cn) (now:Int) (a b z:Bool):SameIn c (refC c now a b z):=by
 unfold refC restC endC
 split
 ·exact ⟨rfl,rfl,rfl,rfl,rfl,rfl⟩
 ·split
  ·split<;>exact ⟨rfl,rfl,rfl,rfl,rfl,rfl⟩
  ·exact SameIn.refl c
theorem wd_conf6 {c:Cn} {n a:Int} (h:Wd c):Wd (conf6 c n a):=⟨h.w_iss,h.w_una,h.w_nxt,h.w_mx,h.w_wsq,h.w_wak,h.w_oF,h.w_iN,h.w_fsq,h.w_cR,h.w_tsq,h.hod⟩
theorem wd_conf7 {c:Cn} {b:Bool} (h:Wd c):Wd (conf7 c b):=by
 unfold conf7
 split
 ·exact ⟨h.w_iss,h.w_una,h.w_una,h.w_mx,h.w_wsq,h.w_wak,h.w_oF,h.w_iN,h.w_fsq,h.w_cR,h.w_tsq,h.hod⟩
 ·exact h
theorem wd_confN {c:Cn} {s:Sg} {now:Int} (h:Wd c) (ha:IsWord s.ak):Wd (confN c s now):=by
 unfold confN
 exact wd_conf7 (wd_conf6 (wd_conf5 (wd_conf4 (wd_conf3 (wd_conf2 h (wd_upto h ha))) ha)))
theorem wd_confD {c:Cn} {s:Sg} (h:Wd c):Wd (confD c s):=by
 have hr:IsWord (dupR (okA c (dupN c)) c.cF c.cD c.cR c.mx):=by
  unfold dupR
  split
  ·exact h.w_mx
  ·exact h.w_cR
 unfold confD
 split
 ·unfold dupC dupA
  split
  ·exact ⟨h.w_iss,h.w_una,h.w_una,h.w_mx,h.w_wsq,h.w_wak,h.w_oF,h.w_iN,h.w_fsq,hr,h.w_tsq,h.hod⟩
  ·exact ⟨h.w_iss,h.w_una,h.w_nxt,h.w_mx,h.w_wsq,h.w_wak,h.w_oF,h.w_iN,h.w_fsq,hr,h.w_tsq,h.hod⟩
 ·exact h
theorem wd_confirmed {c:Cn} {s:Sg} {now:Int} (h:Wd c) (ha:IsWord s.ak):Wd (confirmed c s now):=by
 unfold confirmed
 split
 ·exact wd_confN (wd_conf1 h) ha
 ·exact wd_confD (wd_conf1 h)
theorem wd_told {c:Cn} {s:Sg} (h:Wd c) (ha:IsWord s.ak) (hs:IsWord s.sq):Wd (toldX c s):=by
 unfold toldX toldC
 split
 ·split<;>exact ⟨h.w_iss,h.w_una,h.w_nxt,h.w_mx,hs,ha,h.w_oF,h.w_iN,h.w_fsq,h.w_cR,h.w_tsq,h.hod⟩
 ·exact h
theorem wd_fin {c:Cn} {now:Int} (h:Wd c):Wd (finDoneX c now):=by
 unfold finDoneX restC endC
 split
 ·split
  ·exact ⟨h.w_iss,h.w_una,h.w_nxt,h.w_mx,h.w_wsq,h.w_wak,h.w_oF,h.w_iN,h.w_fsq,h.w_cR,h.w_tsq,h.hod⟩
  ·split
   ·exact ⟨h.w_iss,h.w_una,h.w_nxt,h.w_mx,h.w_wsq,h.w_wak,h.w_oF,h.w_iN,h.w_fsq,h.w_cR,h.w_tsq,h.hod⟩
   ·split
    ·exact ⟨h.w_iss,h.w_una,h.w_nxt,h.w_mx,h.w_wsq,h.w_wak,h.w_oF,h.w_iN,h.w_fsq,h.w_cR,h.w_tsq,h.hod⟩
    ·exact h
 ·exact h
theorem line_oz {e:Cn} {s:Sg} (h:lineZ e s=true):lineO e s=false:=by
 unfold lineZ at h
 simp at h
 unfold lineO
 rw [h.1,h.2]
 simp
theorem answ_pa (c:Cn) (s:Sg) (now:Int):(answI c s now).pa=c.pa∧(answI c s now).pn=c.pn∧(answI c s now).pc=c.pc:=by
 have hm:(metX c s now).pa=c.pa∧(metX c s now).pn=c.pn∧(metX c s now).pc=c.pc:=by
  unfold metX timedC opnC synC
  split
  ·split<;>exact ⟨rfl,rfl,rfl⟩
  ·exact ⟨rfl,rfl,rfl⟩
 unfold answI endC
 split
 ·exact ⟨rfl,rfl,rfl⟩
 ·split
  ·split<;>exact ⟨rfl,rfl,rfl⟩
  ·split
   ·exact hm
   ·exact ⟨rfl,rfl,rfl⟩
theorem endX_laid (c:Cn) (s:Sg) (now:Int) (g n cp:Nat):endX (laidC c g n cp) s now=laidC (endX {c with pn:=n} s now) g n cp:=by
 have hf:finInB (laidC c g n cp) s=finInB {c with pn:=n} s:=rfl
 unfold endX
 rw [hf]
 cases finInB {c with pn:=n} s
 ·rfl
 ·simp only [if_true]
  show (if c.st == 3 then _ else if c.st == 4 then _ else if c.st == 5 then _ else _)=laidC (if c.st == 3 then _ else if c.st == 4 then _ else if c.st == 5 then _ else _) g n cp
  cases c.st == 3
  ·cases c.st == 4
   ·cases c.st == 5<;>rfl
   ·rfl
  ·rfl
theorem laid_id {c:Cn} {g n cp:Nat} (h1:c.pa=some ⟨g,0,none⟩) (h2:c.pn=n) (h3:c.pc=cp):laidC c g n cp=c:=by
 unfold laidC
 rw [← h1,← h2,← h3]
end Go.Proofs.YtmigalhmlofbkaaGreatDoor
namespace Go.Proofs.YtmigalhmlofbkaaGreatDoor
def jumpsTo (J:Nat→Act→World→Prop) (Q:Exit→Act→World→Prop):Exit→Act→World→Prop
 | .goto l,a,w=>J l a w
 | e,a,w=>Q e a w
theorem jumps_two {J:Nat→Act→World→Prop} {Q:Exit→Act→World→Prop} {e:Exit} {a:Act} {w:World} (h:jumpsTo J Q e a w):(∃ l,e=.goto l∧J l a w)∨((∀ l,e≠.goto l)∧Q e a w):=by
 cases e
 case goto l=>exact .inl ⟨l,rfl,h⟩
 all_goals exact .inr ⟨(fun l hl=>by cases hl),h⟩
theorem left_scope {P:Program} {s:Machine} {b:Frame} {c:Code} {k:List Item} {cs:List Frame} {e:Exit} {a:Act} {w:World} (h:Arrives P s b (.inScope c :: k) cs e a w) (hn:∀ l,e≠.goto l):Arrives P s b k cs e a w:=by
 cases e
 case goto l=>exact absurd rfl (hn l)
 case normal=>exact Steps.trans h (.one step_inScope)
 case exit id=>exact fun k' hk=>h k' (by simp [exitTo,hk])
 all_goals exact h
theorem wp_scope_many {P:Program} {a:Act} {w:World} {Q:Exit→Act→World→Prop} {c:Code} (J:Nat→Act→World→Prop) (rk:Nat→Nat) (tgt:Nat→Code) (hf:∀ l a w,J l a w→findLabel c l=some (tgt l))
  (first:c.wp P (jumpsTo J Q) a w) (pass:∀ l a w,J l a w→(tgt l).wp P (jumpsTo (fun l' a' w'=>J l' a' w'∧rk l'<rk l) Q) a w):(Code.scope c).wp P Q a w:=by
 intro b k cs
 have land:∀ n l a w,rk l<n→J l a w→∃ e x y,Q e x y∧Arrives P (lone (b.at a (.code (tgt l) :: .inScope c :: k)) cs w) b k cs e x y:=by
  intro n
  induction n with
  | zero=>exact fun l a w h=>absurd h (Nat.not_lt_zero _)
  | succ n ih=>
   intro l a w hr hJ
   obtain ⟨e,x,y,hq,hx⟩:=pass l a w hJ b (.inScope c :: k) cs
   rcases jumps_two hq with ⟨l',rfl,hJ',hlt⟩|⟨hn,hq⟩
   ·obtain ⟨e2,x2,y2,h2,h3⟩:=ih l' x y (by omega) hJ'
    exact ⟨e2,x2,y2,h2,.of_steps (hx _ (by simp [gotoIn,hf l' x y hJ'])) h3⟩
   ·exact ⟨e,x,y,hq,left_scope hx hn⟩
 obtain ⟨e,x,y,hq,hx⟩:=first b (.inScope c :: k) cs
 rcases jumps_two hq with ⟨l,rfl,hJ⟩|⟨hn,hq⟩
 ·obtain ⟨e2,x2,y2,h2,h3⟩:=land (rk l+1) l x y (Nat.lt_succ_self _) hJ
  exact ⟨e2,x2,y2,h2,.of_steps (.head step_scope (hx _ (by simp [gotoIn,hf l x y hJ]))) h3⟩
 ·exact ⟨e,x,y,hq,.of_steps (.one step_scope) (left_scope hx hn)⟩
end Go.Proofs.YtmigalhmlofbkaaGreatDoor
namespace Go.Proofs.YtmigalhmlofbkaaGreatDoor
open Go.ChangeShapes Go.WideShapes Go.ChangeAt Go.RowKit
structure Laid0 (w:World):Prop where
 at0:w.cell? ⟨1,0,none⟩=some (.iface 143 (.agg #[.pointer (some ⟨2,70,none⟩)]))
theorem Laid0.lt {w:World} (h:Laid0 w):1<w.heap.size:=by
 exact World.block_lt_of_cell? w _ h.at0
theorem Laid0.touch {w x:World} {b:Nat} (h:Laid0 w) (t:Touch b w x) (hb:b≠1):Laid0 x:=⟨by
 rw [t.cell (p:=⟨1,0,none⟩) (by simpa using hb.symm) h.lt]
 exact h.at0⟩
theorem Laid0.since {w x:World} (h:Laid0 w) (g:Since w x):Laid0 x:=h.touch (touch_of (b:=w.heap.size) g) (by have:=h.lt;omega)
end Go.Proofs.YtmigalhmlofbkaaGreatDoor
