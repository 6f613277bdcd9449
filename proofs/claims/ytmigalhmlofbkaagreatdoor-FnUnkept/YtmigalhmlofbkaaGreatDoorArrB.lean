/- A part of the proof. -/
import Derived.Test.YtmigalhmlofbkaaGreatDoorArrA
import Derived.Test.YtmigalhmlofbkaaGreatDoorM18
set_option linter.unusedVariables false
set_option maxRecDepth 20000
set_option maxHeartbeats 8000000
namespace Go.Proofs.YtmigalhmlofbkaaGreatDoor
open Go.ChangeShapes Go.WideShapes Go.ChangeAt Go.RowKit Go.Deep
theorem ahead_mod (a b:Int):IsAhead a b ((b - a) % 4294967296):=by unfold IsAhead;omega
def overB (s n l z:Int):Bool:=decide (1≤n∧n≤100000∧1≤z∧z≤2147483647∧((s - l) % 4294967296<z∨(l - s) % 4294967296<n))
def inWinB (s l n:Int):Bool:=decide (0≤n∧n≤2147483647∧(s - l) % 4294967296<n)
def spanSg (s:Sg):Int:=segSpanOf s.fl (s.d.size:Int)
def roomC (c:Cn) (ps:List (Int×ByteArray)):Int:=inRoomN c.iN c.iD c.iR ps
def winB (c:Cn) (s:Sg) (ps:List (Int×ByteArray)):Bool:=
 if decide (0<spanSg s) then overB s.sq (spanSg s) c.iN (roomC c ps) else (s.sq == c.iN) || inWinB s.sq c.iN (roomC c ps)
theorem implInWindowA (g:Nat) (d:Cn) (s:Sg) (now:Int) (sv:Value) (ps:List (Int×ByteArray)) (hf:IsInt s.fl) (hds:s.d.size≤1048576) (w_sq:IsWord s.sq) (w_iN:IsWord d.iN) (gd:Good d.iN d.iD d.iR d.pn ps) (w:World) (A:Blk g w (arrCells d s now sv)) (R:Rd shP w d.pa d.pn ps) :
  Calls Tryz.prog 105 #[.pointer (some ⟨g,0,none⟩)] w fun e w'=>e=.returned (.bool (winB d s ps))∧Since w w':=by
 have hir:=fun wx Rx=>implInRoom d.iN d.iD d.iR d.pa d.pn d.pc ps gd wx Rx
 have hsp:=fun wx=>implSpan s.fr s.tt s.sq s.ak s.fl s.wn s.ms s.d hf hds wx
 obtain ⟨rm,hrm⟩:∃ q,Hid (q=roomC d ps):=⟨_,rfl⟩
 have er:inRoomN d.iN d.iD d.iR ps=rm:=hrm.out.symm
 rw [er] at hir
 clear er
 obtain ⟨sp,hspe⟩:∃ q,Hid (q=spanSg s):=⟨_,rfl⟩
 have es:segSpanOf s.fl (s.d.size:Int)=sp:=hspe.out.symm
 rw [es] at hsp
 clear es
 unfold inVal at hir
 unfold segVal at hsp
 have hov:=fun wx=>implOverlaps s.sq sp d.iN rm _ _ w_sq w_iN (ahead_mod d.iN s.sq) (ahead_mod s.sq d.iN) wx
 obtain ⟨ov,hove⟩:∃ q,Hid (q=overB s.sq sp d.iN rm):=⟨_,rfl⟩
 have eo:decide (1≤sp∧sp≤100000∧1≤rm∧rm≤2147483647∧((s.sq - d.iN) % 4294967296<rm∨(d.iN - s.sq) % 4294967296<sp))=ov:=hove.out.symm
 rw [eo] at hov
 clear eo
 have hin:=fun wx=>implInWindow s.sq d.iN rm _ w_sq w_iN (ahead_mod d.iN s.sq) wx
 obtain ⟨iw,hiwe⟩:∃ q,Hid (q=inWinB s.sq d.iN rm):=⟨_,rfl⟩
 have ei:decide (0≤rm∧rm≤2147483647∧(s.sq - d.iN) % 4294967296<rm)=iw:=hiwe.out.symm
 rw [ei] at hin
 clear ei
 obtain ⟨v,hve⟩:∃ q,Hid (q=winB d s ps):=⟨_,rfl⟩
 rw [← hve.out]
 obtain ⟨b1,hb1⟩:∃ q,Hid (q=decide (0<sp)):=⟨_,rfl⟩
 obtain ⟨b2,hb2⟩:∃ q,Hid (q=(s.sq == d.iN)):=⟨_,rfl⟩
 have hv:Hid (v=if b1 then ov else b2 || iw):=by
  show v=_
  rw [hve.out,hb1.out,hb2.out,hove.out,hiwe.out,hspe.out,hrm.out]
  rfl
 have hA:=A.lt
 have G:=Since.refl w
 go_enter Tryz.func105,Tryz.ntmps105
 go_upto_region 0 with (fail)
 refine vR ?_
 refine vV (bF) ?_
 refine vE #[pX g 0,U,bF,U,U,U,U,U,U,U,U,U,U,U,U,U,U,U,U,U,U,U,U,U,U,U,U,U,U,U,U,U,U,U,U,U,U,U,U,U,U,U,U,U,U,U,U,U,U,U,U] ?_
 go_upto_region 1 with (fail)
 refine wp_region_qs (wb:=w) (by kernel_rfl) (by kernel_rfl) (Since.refl _) ?_
 refine qV (pX g 0) ?_
 refine qV (pX g 0) ?_
 refine qV (pX g 0) ?_
 refine qV (pX g 11) ?_
 refine qV (pX g 11) ?_
 refine qC ⟨g,11,none⟩ (uJ d.iN) (fun y hy=>(A.since hy).cell 11) ?_
 refine qV (pX g 0) ?_
 refine qV (pX g 0) ?_
 refine qV (pX g 0) ?_
 refine qV (pX g 11) ?_
 refine q_part A (by kernel_rfl) pIn_big _ rfl 11 (by kernel_rfl) [.int .u32 d.iN,.string d.iD,.slice d.pa d.pn d.pc,.int .i64 d.iR] rfl (fun j v hj=>by match j,hj with|0,h=>exact h|1,h=>exact h|2,h=>exact h|3,h=>exact h|n+4,h=>exact absurd h (by simp)) ?_
 refine q_call (by kernel_rfl) 47 #[.agg #[.int .u32 d.iN,.string d.iD,.slice d.pa d.pn d.pc,.int .i64 d.iR]] (.int .i64 rm) (fun x=>by kernel_rfl) (fun x hx=>hir x (R.since hx)) ?_
 refine qV (uJ d.iN) ?_
 refine qV (iJ rm) ?_
 refine q_frame (a':={tmps:=#[pX g 0,U,bF,uJ d.iN,iJ rm,U,pX g 0,pX g 0,pX g 0,pX g 11,pX g 11,uJ d.iN,pX g 0,pX g 0,pX g 0,pX g 11,.agg #[uJ d.iN,.string d.iD,.slice d.pa d.pn d.pc,iJ d.iR],iJ rm,U,U,U,U,U,U,U,U,U,U,U,U,U,U,U,U,U,U,U,U,U,U,U,U,U,U,U,U,U,U,U,U,U],defers:=[]}) (by kernel_rfl) ?_
 refine q_nil ?_
 intro qw1 qh2
 replace A:=A.since qh2
 replace R:=R.since qh2
 replace G:=G.trans qh2
 have qh2_s:=qh2.size
 go_upto_region 2 with (fail)
 refine vR ?_
 refine vV (pX g 0) ?_
 refine vV (pX g 0) ?_
 refine vV (pX g 37) ?_
 refine vAS A ?_
 refine vK (hsp _) ?_
 intro qw3 qg4
 replace A:=A.since qg4
 replace R:=R.since qg4
 replace G:=G.trans qg4
 have qg4_s:=qg4.size
 refine vV (iJ sp) ?_
 refine vE #[pX g 0,U,bF,uJ d.iN,iJ rm,iJ sp,pX g 0,pX g 0,pX g 0,pX g 11,pX g 11,uJ d.iN,pX g 0,pX g 0,pX g 0,pX g 11,.agg #[uJ d.iN,.string d.iD,.slice d.pa d.pn d.pc,iJ d.iR],iJ rm,pX g 0,pX g 0,pX g 37,.agg (sgCells s),iJ sp,U,U,U,U,U,U,U,U,U,U,U,U,U,U,U,U,U,U,U,U,U,U,U,U,U,U,U,U] ?_
 generalize (.agg #[.int .u32 d.iN,.string d.iD,.slice d.pa d.pn d.pc,.int .i64 d.iR]:Value)=qz5
 go_upto_region 3 with (fail)
 cases b1
 case true=>
  refine vR ?_
  refine vV (iJ sp) ?_
  refine vV (.bool true) ?_ (hrun:=by rw [show true=decide (0<sp) from hb1.out];kernel_rfl)
  refine vE #[pX g 0,U,bF,uJ d.iN,iJ rm,iJ sp,pX g 0,pX g 0,pX g 0,pX g 11,pX g 11,uJ d.iN,pX g 0,pX g 0,pX g 0,pX g 11,qz5,iJ rm,pX g 0,pX g 0,pX g 37,.agg (sgCells s),iJ sp,iJ sp,bT,U,U,U,U,U,U,U,U,U,U,U,U,U,U,U,U,U,U,U,U,U,U,U,U,U,U] ?_
  go_upto_region 4 with (fail)
  refine vR ?_
  refine vV (pX g 0) ?_
  refine vV (pX g 0) ?_
  refine vV (pX g 37) ?_
  refine vV (pX g 39) ?_
  refine vD (uJ s.sq) (A.cell 39) ?_
  refine vV (iJ sp) ?_
  refine vV (uJ d.iN) ?_
  refine vV (iJ rm) ?_
  refine vC (hov _) ?_
  rintro _ _ ⟨rfl,rfl⟩
  refine ⟨_,rfl,?_⟩
  refine vV (.bool ov) ?_
  refine vE #[pX g 0,U,.bool ov,uJ d.iN,iJ rm,iJ sp,pX g 0,pX g 0,pX g 0,pX g 11,pX g 11,uJ d.iN,pX g 0,pX g 0,pX g 0,pX g 11,qz5,iJ rm,pX g 0,pX g 0,pX g 37,.agg (sgCells s),iJ sp,iJ sp,bT,pX g 0,pX g 0,pX g 37,pX g 39,uJ s.sq,iJ sp,uJ d.iN,iJ rm,.bool ov,U,U,U,U,U,U,U,U,U,U,U,U,U,U,U,U,U] ?_
  go_wp2_with (fail)
  go_ret
  exact ⟨by rw [show v=ov from hv.out];rfl,G⟩
 case false=>
  cases b2
  case true=>
   refine vR ?_
   refine vV (iJ sp) ?_
   refine vV (.bool false) ?_ (hrun:=by rw [show false=decide (0<sp) from hb1.out];kernel_rfl)
   refine vE #[pX g 0,U,bF,uJ d.iN,iJ rm,iJ sp,pX g 0,pX g 0,pX g 0,pX g 11,pX g 11,uJ d.iN,pX g 0,pX g 0,pX g 0,pX g 11,qz5,iJ rm,pX g 0,pX g 0,pX g 37,.agg (sgCells s),iJ sp,iJ sp,bF,U,U,U,U,U,U,U,U,U,U,U,U,U,U,U,U,U,U,U,U,U,U,U,U,U,U] ?_
   go_upto_region 5 with (fail)
   refine vR ?_
   refine vV (pX g 0) ?_
   refine vV (pX g 0) ?_
   refine vV (pX g 37) ?_
   refine vV (pX g 39) ?_
   refine vD (uJ s.sq) (A.cell 39) ?_
   refine vV (uJ d.iN) ?_
   refine vV (.bool true) ?_ (hrun:=by rw [show true=(s.sq == d.iN) from hb2.out];kernel_rfl)
   refine vV (bT) ?_
   refine vS ?_
   refine vS ?_
   refine vS ?_
   refine vS ?_
   refine vS ?_
   refine vS ?_
   refine vS ?_
   refine vS ?_
   refine vV (bT) ?_
   refine vV (bT) ?_
   refine vE #[pX g 0,U,bT,uJ d.iN,iJ rm,iJ sp,pX g 0,pX g 0,pX g 0,pX g 11,pX g 11,uJ d.iN,pX g 0,pX g 0,pX g 0,pX g 11,qz5,iJ rm,pX g 0,pX g 0,pX g 37,.agg (sgCells s),iJ sp,iJ sp,bF,U,U,U,U,U,U,U,U,U,pX g 0,pX g 0,pX g 37,pX g 39,uJ s.sq,uJ d.iN,bT,bT,U,U,U,U,U,U,U,U,bT] ?_
   go_wp2_with (fail)
   go_ret
   exact ⟨by rw [show v=true from hv.out];rfl,G⟩
  case false=>
   refine vR ?_
   refine vV (iJ sp) ?_
   refine vV (.bool false) ?_ (hrun:=by rw [show false=decide (0<sp) from hb1.out];kernel_rfl)
   refine vE #[pX g 0,U,bF,uJ d.iN,iJ rm,iJ sp,pX g 0,pX g 0,pX g 0,pX g 11,pX g 11,uJ d.iN,pX g 0,pX g 0,pX g 0,pX g 11,qz5,iJ rm,pX g 0,pX g 0,pX g 37,.agg (sgCells s),iJ sp,iJ sp,bF,U,U,U,U,U,U,U,U,U,U,U,U,U,U,U,U,U,U,U,U,U,U,U,U,U,U] ?_
   go_upto_region 5 with (fail)
   refine vR ?_
   refine vV (pX g 0) ?_
   refine vV (pX g 0) ?_
   refine vV (pX g 37) ?_
   refine vV (pX g 39) ?_
   refine vD (uJ s.sq) (A.cell 39) ?_
   refine vV (uJ d.iN) ?_
   refine vV (.bool false) ?_ (hrun:=by rw [show false=(s.sq == d.iN) from hb2.out];kernel_rfl)
   refine vV (bF) ?_
   refine vV (pX g 0) ?_
   refine vV (pX g 0) ?_
   refine vV (pX g 37) ?_
   refine vV (pX g 39) ?_
   refine vD (uJ s.sq) (A.cell 39) ?_
   refine vV (uJ d.iN) ?_
   refine vV (iJ rm) ?_
   refine vC (hin _) ?_
   rintro _ _ ⟨rfl,rfl⟩
   refine ⟨_,rfl,?_⟩
   refine vV (.bool iw) ?_
   refine vV (.bool iw) ?_
   refine vE #[pX g 0,U,.bool iw,uJ d.iN,iJ rm,iJ sp,pX g 0,pX g 0,pX g 0,pX g 11,pX g 11,uJ d.iN,pX g 0,pX g 0,pX g 0,pX g 11,qz5,iJ rm,pX g 0,pX g 0,pX g 37,.agg (sgCells s),iJ sp,iJ sp,bF,U,U,U,U,U,U,U,U,U,pX g 0,pX g 0,pX g 37,pX g 39,uJ s.sq,uJ d.iN,bF,bF,pX g 0,pX g 0,pX g 37,pX g 39,uJ s.sq,uJ d.iN,iJ rm,.bool iw,.bool iw] ?_
   go_wp2_with (fail)
   go_ret
   exact ⟨by rw [show v=iw from hv.out];rfl,G⟩
def MisV (ok a b c:Bool) (v:Value):Prop:=(ok=true→v=.nilIface)∧(ok=false→∃ t,v=.iface 75 (.agg (mfCells t a b c)))
theorem mis_yes (a b c:Bool):MisV true a b c .nilIface:=⟨fun _=>rfl,fun h=>by cases h⟩
theorem mis_no (t:ByteArray) (a b c:Bool):MisV false a b c (.iface 75 (.agg (mfCells t a b c))):=⟨fun h=>(by cases h),fun _=>⟨t,rfl⟩⟩
theorem as_mis (ok a b c:Bool) (v:Value) (hv:MisV ok a b c v) (tb:Nat) (old:Array Value) (ho:old.size=4) (w:World) (hg:w.cell? ⟨1,0,none⟩=some (.iface 143 (.agg #[.pointer (some ⟨2,70,none⟩)]))) (O:Blk tb w old) :
  Calls Tryz.prog 30 #[v,.iface 81 (.pointer (some ⟨tb,0,none⟩))] w fun e w'=>e=.returned (.bool (!ok))∧Touch tb w w'∧∃ n,n.size=4∧Blk tb w' n∧(ok=false→∃ t,n=mfCells t a b c):=by
 cases ok
 ·obtain ⟨t,rfl⟩:=hv.2 rfl
  refine (as_hit tb t a b c old ho w hg O).mono ?_
  rintro _ w' ⟨rfl,x,g,t',B⟩
  exact ⟨rfl,(touch_of g).trans t',_,rfl,B,fun _=>⟨t,rfl⟩⟩
 ·rw [hv.1 rfl]
  refine (as_nil _ w).mono ?_
  rintro _ w' ⟨rfl,rfl⟩
  exact ⟨rfl,Touch.refl _ _,_,ho,O,fun h=>by cases h⟩
def txtW:ByteArray:=⟨#[108,105,101,32,105,110,32,116,104,101,32,119,105,110,100,111,119]⟩
theorem implPlaced (g:Nat) (d:Cn) (s:Sg) (now:Int) (sv:Value) (ps:List (Int×ByteArray)) (hf:IsInt s.fl) (hds:s.d.size≤1048576) (w_sq:IsWord s.sq) (w_iN:IsWord d.iN) (gd:Good d.iN d.iD d.iR d.pn ps) (w:World) (A:Blk g w (arrCells d s now sv)) (R:Rd shP w d.pa d.pn ps) :
  Calls Tryz.prog 67 #[.pointer (some ⟨g,0,none⟩)] w fun e w'=>(∃ v,e=.returned v∧MisV (winB d s ps) (!hasF s.fl 4) (!hasF s.fl 4 && decide (d.st=9)) (false) v)∧Since w w':=by
 have hwi:=fun wx Ax Rx=>implInWindowA g d s now sv ps hf hds w_sq w_iN gd wx Ax Rx
 have hh:=fun wx Ax=>implHasA g d s now sv 4 hf (by simp [IsFlag]) wx Ax
 generalize winB d s ps=wv at hwi ⊢
 generalize hasF s.fl 4=f4 at hh ⊢
 obtain ⟨b9,hb9⟩:∃ q,Hid (q=(d.st == 9)):=⟨_,rfl⟩
 rw [show decide (d.st=9)=b9 by rw [hb9.out];rfl]
 have hA:=A.lt
 have G:=Since.refl w
 go_enter Tryz.func67,Tryz.ntmps67
 go_upto_region 1 with (fail)
 cases wv
 case true=>
  refine vR ?_
  refine vV (pX g 0) ?_
  refine vK (hwi _ A R) ?_
  intro qw1 qg2
  replace A:=A.since qg2
  replace R:=R.since qg2
  replace G:=G.trans qg2
  have qg2_s:=qg2.size
  refine vE #[pX g 0,U,.nilIface,pX g 0,bT,U,U,U,U,U,U,U,U,U,U,U,U,U,U,U,U] ?_
  go_wp2_with (fail)
  go_ret
  exact ⟨⟨_,rfl,mis_yes _ _ _⟩,G⟩
 case false=>
  cases f4
  case true=>
   refine vR ?_
   refine vV (pX g 0) ?_
   refine vK (hwi _ A R) ?_
   intro qw1 qg2
   replace A:=A.since qg2
   replace R:=R.since qg2
   replace G:=G.trans qg2
   have qg2_s:=qg2.size
   refine vE #[pX g 0,U,.nilIface,pX g 0,bF,U,U,U,U,U,U,U,U,U,U,U,U,U,U,U,U] ?_
   go_upto_region 3 with (fail)
   refine vR ?_
   refine vV (pX g 0) ?_
   refine vK (hh _ A) ?_
   intro qw3 qg4
   replace A:=A.since qg4
   replace R:=R.since qg4
   replace G:=G.trans qg4
   have qg4_s:=qg4.size
   refine vV (bF) ?_
   refine vV (pX g 0) ?_
   refine vK (hh _ A) ?_
   intro qw5 qg6
   replace A:=A.since qg6
   replace R:=R.since qg6
   replace G:=G.trans qg6
   have qg6_s:=qg6.size
   refine vV (bF) ?_
   refine vV (bF) ?_
   refine vS ?_
   refine vS ?_
   refine vS ?_
   refine vS ?_
   refine vS ?_
   refine vS ?_
   refine vV (bF) ?_
   refine vV (.agg (mfCells txtW false false false)) ?_
   refine vV (.iface 75 (.agg (mfCells txtW false false false))) ?_
   refine vV (.iface 75 (.agg (mfCells txtW false false false))) ?_
   refine vE #[pX g 0,U,.iface 75 (.agg (mfCells txtW false false false)),pX g 0,bF,pX g 0,bT,bF,pX g 0,bT,bF,bF,U,U,U,U,U,U,bF,.agg (mfCells txtW false false false),.iface 75 (.agg (mfCells txtW false false false))] ?_
   go_wp2_with (fail)
   go_ret
   exact ⟨⟨_,rfl,mis_no _ _ _ _⟩,G⟩
  case false=>
   cases b9
   case true=>
    refine vR ?_
    refine vV (pX g 0) ?_
    refine vK (hwi _ A R) ?_
    intro qw1 qg2
    replace A:=A.since qg2
    replace R:=R.since qg2
    replace G:=G.trans qg2
    have qg2_s:=qg2.size
    refine vE #[pX g 0,U,.nilIface,pX g 0,bF,U,U,U,U,U,U,U,U,U,U,U,U,U,U,U,U] ?_
    go_upto_region 3 with (fail)
    refine vR ?_
    refine vV (pX g 0) ?_
    refine vK (hh _ A) ?_
    intro qw3 qg4
    replace A:=A.since qg4
    replace R:=R.since qg4
    replace G:=G.trans qg4
    have qg4_s:=qg4.size
    refine vV (bT) ?_
    refine vV (pX g 0) ?_
    refine vK (hh _ A) ?_
    intro qw5 qg6
    replace A:=A.since qg6
    replace R:=R.since qg6
    replace G:=G.trans qg6
    have qg6_s:=qg6.size
    refine vV (bT) ?_
    refine vV (bT) ?_
    refine vV (pX g 0) ?_
    refine vV (pX g 0) ?_
    refine vV (pX g 0) ?_
    refine vV (pX g 0) ?_
    refine vD (iJ d.st) (A.cell 0) ?_
    refine vV (.bool true) ?_ (hrun:=by rw [show true=(d.st == 9) from hb9.out];kernel_rfl)
    refine vV (bT) ?_
    refine vV (.agg (mfCells txtW true true false)) ?_
    refine vV (.iface 75 (.agg (mfCells txtW true true false))) ?_
    refine vV (.iface 75 (.agg (mfCells txtW true true false))) ?_
    refine vE #[pX g 0,U,.iface 75 (.agg (mfCells txtW true true false)),pX g 0,bF,pX g 0,bF,bT,pX g 0,bF,bT,bT,pX g 0,pX g 0,pX g 0,pX g 0,iJ d.st,bT,bT,.agg (mfCells txtW true true false),.iface 75 (.agg (mfCells txtW true true false))] ?_
    go_wp2_with (fail)
    go_ret
    exact ⟨⟨_,rfl,mis_no _ _ _ _⟩,G⟩
   case false=>
    refine vR ?_
    refine vV (pX g 0) ?_
    refine vK (hwi _ A R) ?_
    intro qw1 qg2
    replace A:=A.since qg2
    replace R:=R.since qg2
    replace G:=G.trans qg2
    have qg2_s:=qg2.size
    refine vE #[pX g 0,U,.nilIface,pX g 0,bF,U,U,U,U,U,U,U,U,U,U,U,U,U,U,U,U] ?_
    go_upto_region 3 with (fail)
    refine vR ?_
    refine vV (pX g 0) ?_
    refine vK (hh _ A) ?_
    intro qw3 qg4
    replace A:=A.since qg4
    replace R:=R.since qg4
    replace G:=G.trans qg4
    have qg4_s:=qg4.size
    refine vV (bT) ?_
    refine vV (pX g 0) ?_
    refine vK (hh _ A) ?_
    intro qw5 qg6
    replace A:=A.since qg6
    replace R:=R.since qg6
    replace G:=G.trans qg6
    have qg6_s:=qg6.size
    refine vV (bT) ?_
    refine vV (bT) ?_
    refine vV (pX g 0) ?_
    refine vV (pX g 0) ?_
    refine vV (pX g 0) ?_
    refine vV (pX g 0) ?_
    refine vD (iJ d.st) (A.cell 0) ?_
    refine vV (.bool false) ?_ (hrun:=by rw [show false=(d.st == 9) from hb9.out];kernel_rfl)
    refine vV (bF) ?_
    refine vV (.agg (mfCells txtW true false false)) ?_
    refine vV (.iface 75 (.agg (mfCells txtW true false false))) ?_
    refine vV (.iface 75 (.agg (mfCells txtW true false false))) ?_
    refine vE #[pX g 0,U,.iface 75 (.agg (mfCells txtW true false false)),pX g 0,bF,pX g 0,bF,bT,pX g 0,bF,bT,bT,pX g 0,pX g 0,pX g 0,pX g 0,iJ d.st,bF,bF,.agg (mfCells txtW true false false),.iface 75 (.agg (mfCells txtW true false false))] ?_
    go_wp2_with (fail)
    go_ret
    exact ⟨⟨_,rfl,mis_no _ _ _ _⟩,G⟩
def lineB (s:Sg):Bool:=!hasF s.fl 4 && (!hasF s.fl 2 && hasF s.fl 16)
def lineO (d:Cn) (s:Sg):Bool:=if hasF s.fl 4 then !decide (s.sq=d.iN) else hasF s.fl 2
def lineZ (d:Cn) (s:Sg):Bool:=hasF s.fl 4 && decide (s.sq=d.iN)
theorem implOfTheLine (g:Nat) (d:Cn) (s:Sg) (now:Int) (sv:Value) (hf:IsInt s.fl) (w:World) (A:Blk g w (arrCells d s now sv)) :
  Calls Tryz.prog 69 #[.pointer (some ⟨g,0,none⟩)] w fun e w'=>(∃ v,e=.returned v∧MisV (lineB s) (lineO d s) (false) (lineZ d s) v)∧Since w w':=by
 have hh4:=fun wx Ax=>implHasA g d s now sv 4 hf (by simp [IsFlag]) wx Ax
 have hh2:=fun wx Ax=>implHasA g d s now sv 2 hf (by simp [IsFlag]) wx Ax
 have hh16:=fun wx Ax=>implHasA g d s now sv 16 hf (by simp [IsFlag]) wx Ax
 unfold lineB lineO lineZ
 generalize hasF s.fl 4=f4 at hh4 ⊢
 generalize hasF s.fl 2=f2 at hh2 ⊢
 generalize hasF s.fl 16=f16 at hh16 ⊢
 obtain ⟨be,hbe⟩:∃ q,Hid (q=(s.sq == d.iN)):=⟨_,rfl⟩
 rw [show decide (s.sq=d.iN)=be by rw [hbe.out];rfl]
 have hA:=A.lt
 have G:=Since.refl w
 go_enter Tryz.func69,Tryz.ntmps69
 go_upto_region 1 with (fail)
 cases f4
 case true=>
  cases be
  case true=>
   refine vR ?_
   refine vV (pX g 0) ?_
   refine vK (hh4 _ A) ?_
   intro qw1 qg2
   replace A:=A.since qg2
   replace G:=G.trans qg2
   have qg2_s:=qg2.size
   refine vV (bT) ?_
   refine vE #[pX g 0,U,.nilIface,U,bT,pX g 0,bT,U,U,U,U,U,U,U,U,U,U,U,U,U,U,U,U,U,U,U,U,U,U,U,U,U,U,U,U] ?_
   go_upto_region 2 with (fail)
   refine wp_region_qs (wb:=qw1) (by kernel_rfl) (by kernel_rfl) (Since.refl _) ?_
   refine qV (pX g 0) ?_
   refine qV (pX g 0) ?_
   refine qV (pX g 37) ?_
   refine qV (pX g 39) ?_
   refine qC ⟨g,39,none⟩ (uJ s.sq) (fun y hy=>(A.since hy).cell 39) ?_
   refine qV (pX g 0) ?_
   refine qV (pX g 0) ?_
   refine qV (pX g 0) ?_
   refine qV (pX g 11) ?_
   refine qV (pX g 11) ?_
   refine qC ⟨g,11,none⟩ (uJ d.iN) (fun y hy=>(A.since hy).cell 11) ?_
   refine q_val (by kernel_rfl) (.bool true) (fun x hx=>by rw [show true=(s.sq == d.iN) from hbe.out];kernel_rfl) ?_
   refine qV (bT) ?_
   refine q_frame (a':={tmps:=#[pX g 0,U,.nilIface,bT,bT,pX g 0,bT,pX g 0,pX g 0,pX g 37,pX g 39,uJ s.sq,pX g 0,pX g 0,pX g 0,pX g 11,pX g 11,uJ d.iN,bT,U,U,U,U,U,U,U,U,U,U,U,U,U,U,U,U],defers:=[]}) (by kernel_rfl) ?_
   refine q_nil ?_
   intro qw3 qh4
   replace A:=A.since qh4
   replace G:=G.trans qh4
   have qh4_s:=qh4.size
   go_upto_region 3 with (fail)
   refine vR ?_
   refine vV (bT) ?_
   refine vV (bF) ?_
   refine vV (bT) ?_
   refine vV (.agg (mfCells (⟨#[110,111,116,32,114,101,115,101,116,32,116,104,101,32,108,105,110,101]⟩:ByteArray) false false true)) ?_
   refine vV (.iface 75 (.agg (mfCells (⟨#[110,111,116,32,114,101,115,101,116,32,116,104,101,32,108,105,110,101]⟩:ByteArray) false false true))) ?_
   refine vV (.iface 75 (.agg (mfCells (⟨#[110,111,116,32,114,101,115,101,116,32,116,104,101,32,108,105,110,101]⟩:ByteArray) false false true))) ?_
   refine vE #[pX g 0,U,.iface 75 (.agg (mfCells (⟨#[110,111,116,32,114,101,115,101,116,32,116,104,101,32,108,105,110,101]⟩:ByteArray) false false true)),bT,bT,pX g 0,bT,pX g 0,pX g 0,pX g 37,pX g 39,uJ s.sq,pX g 0,pX g 0,pX g 0,pX g 11,pX g 11,uJ d.iN,bT,bT,bF,bT,.agg (mfCells (⟨#[110,111,116,32,114,101,115,101,116,32,116,104,101,32,108,105,110,101]⟩:ByteArray) false false true),.iface 75 (.agg (mfCells (⟨#[110,111,116,32,114,101,115,101,116,32,116,104,101,32,108,105,110,101]⟩:ByteArray) false false true)),U,U,U,U,U,U,U,U,U,U,U] ?_
   go_wp2_with (fail)
   go_ret
   exact ⟨⟨_,rfl,mis_no _ _ _ _⟩,G⟩
  case false=>
   refine vR ?_
   refine vV (pX g 0) ?_
   refine vK (hh4 _ A) ?_
   intro qw1 qg2
   replace A:=A.since qg2
   replace G:=G.trans qg2
   have qg2_s:=qg2.size
   refine vV (bT) ?_
   refine vE #[pX g 0,U,.nilIface,U,bT,pX g 0,bT,U,U,U,U,U,U,U,U,U,U,U,U,U,U,U,U,U,U,U,U,U,U,U,U,U,U,U,U] ?_
   go_upto_region 2 with (fail)
   refine wp_region_qs (wb:=qw1) (by kernel_rfl) (by kernel_rfl) (Since.refl _) ?_
   refine qV (pX g 0) ?_
   refine qV (pX g 0) ?_
   refine qV (pX g 37) ?_
   refine qV (pX g 39) ?_
   refine qC ⟨g,39,none⟩ (uJ s.sq) (fun y hy=>(A.since hy).cell 39) ?_
   refine qV (pX g 0) ?_
   refine qV (pX g 0) ?_
   refine qV (pX g 0) ?_
   refine qV (pX g 11) ?_
   refine qV (pX g 11) ?_
   refine qC ⟨g,11,none⟩ (uJ d.iN) (fun y hy=>(A.since hy).cell 11) ?_
   refine q_val (by kernel_rfl) (.bool false) (fun x hx=>by rw [show false=(s.sq == d.iN) from hbe.out];kernel_rfl) ?_
   refine qV (bF) ?_
   refine q_frame (a':={tmps:=#[pX g 0,U,.nilIface,bF,bT,pX g 0,bT,pX g 0,pX g 0,pX g 37,pX g 39,uJ s.sq,pX g 0,pX g 0,pX g 0,pX g 11,pX g 11,uJ d.iN,bF,U,U,U,U,U,U,U,U,U,U,U,U,U,U,U,U],defers:=[]}) (by kernel_rfl) ?_
   refine q_nil ?_
   intro qw3 qh4
   replace A:=A.since qh4
   replace G:=G.trans qh4
   have qh4_s:=qh4.size
   go_upto_region 3 with (fail)
   refine vR ?_
   refine vV (bF) ?_
   refine vV (bT) ?_
   refine vV (bF) ?_
   refine vV (.agg (mfCells (⟨#[110,111,116,32,114,101,115,101,116,32,116,104,101,32,108,105,110,101]⟩:ByteArray) true false false)) ?_
   refine vV (.iface 75 (.agg (mfCells (⟨#[110,111,116,32,114,101,115,101,116,32,116,104,101,32,108,105,110,101]⟩:ByteArray) true false false))) ?_
   refine vV (.iface 75 (.agg (mfCells (⟨#[110,111,116,32,114,101,115,101,116,32,116,104,101,32,108,105,110,101]⟩:ByteArray) true false false))) ?_
   refine vE #[pX g 0,U,.iface 75 (.agg (mfCells (⟨#[110,111,116,32,114,101,115,101,116,32,116,104,101,32,108,105,110,101]⟩:ByteArray) true false false)),bF,bT,pX g 0,bT,pX g 0,pX g 0,pX g 37,pX g 39,uJ s.sq,pX g 0,pX g 0,pX g 0,pX g 11,pX g 11,uJ d.iN,bF,bF,bT,bF,.agg (mfCells (⟨#[110,111,116,32,114,101,115,101,116,32,116,104,101,32,108,105,110,101]⟩:ByteArray) true false false),.iface 75 (.agg (mfCells (⟨#[110,111,116,32,114,101,115,101,116,32,116,104,101,32,108,105,110,101]⟩:ByteArray) true false false)),U,U,U,U,U,U,U,U,U,U,U] ?_
   go_wp2_with (fail)
   go_ret
   exact ⟨⟨_,rfl,mis_no _ _ _ _⟩,G⟩
 case false=>
  cases f2
  case true=>
   refine vR ?_
   refine vV (pX g 0) ?_
   refine vK (hh4 _ A) ?_
   intro qw1 qg2
   replace A:=A.since qg2
   replace G:=G.trans qg2
   have qg2_s:=qg2.size
   refine vV (bF) ?_
   refine vE #[pX g 0,U,.nilIface,U,bF,pX g 0,bF,U,U,U,U,U,U,U,U,U,U,U,U,U,U,U,U,U,U,U,U,U,U,U,U,U,U,U,U] ?_
   go_upto_region 4 with (fail)
   refine vR ?_
   refine vV (pX g 0) ?_
   refine vK (hh2 _ A) ?_
   intro qw3 qg4
   replace A:=A.since qg4
   replace G:=G.trans qg4
   have qg4_s:=qg4.size
   refine vV (bT) ?_
   refine vE #[pX g 0,U,.nilIface,U,bF,pX g 0,bF,U,U,U,U,U,U,U,U,U,U,U,U,U,U,U,U,U,bT,pX g 0,bT,U,U,U,U,U,U,U,U] ?_
   go_upto_region 5 with (fail)
   refine vR ?_
   refine vV (.agg (mfCells (⟨#[110,111,116,32,97,115,107,32,111,110,99,101,32,109,111,114,101]⟩:ByteArray) true false false)) ?_
   refine vV (.iface 75 (.agg (mfCells (⟨#[110,111,116,32,97,115,107,32,111,110,99,101,32,109,111,114,101]⟩:ByteArray) true false false))) ?_
   refine vV (.iface 75 (.agg (mfCells (⟨#[110,111,116,32,97,115,107,32,111,110,99,101,32,109,111,114,101]⟩:ByteArray) true false false))) ?_
   refine vE #[pX g 0,U,.iface 75 (.agg (mfCells (⟨#[110,111,116,32,97,115,107,32,111,110,99,101,32,109,111,114,101]⟩:ByteArray) true false false)),U,bF,pX g 0,bF,U,U,U,U,U,U,U,U,U,U,U,U,U,U,U,U,U,bT,pX g 0,bT,.agg (mfCells (⟨#[110,111,116,32,97,115,107,32,111,110,99,101,32,109,111,114,101]⟩:ByteArray) true false false),.iface 75 (.agg (mfCells (⟨#[110,111,116,32,97,115,107,32,111,110,99,101,32,109,111,114,101]⟩:ByteArray) true false false)),U,U,U,U,U,U] ?_
   go_wp2_with (fail)
   go_ret
   exact ⟨⟨_,rfl,mis_no _ _ _ _⟩,G⟩
  case false=>
   cases f16
   case true=>
    refine vR ?_
    refine vV (pX g 0) ?_
    refine vK (hh4 _ A) ?_
    intro qw1 qg2
    replace A:=A.since qg2
    replace G:=G.trans qg2
    have qg2_s:=qg2.size
    refine vV (bF) ?_
    refine vE #[pX g 0,U,.nilIface,U,bF,pX g 0,bF,U,U,U,U,U,U,U,U,U,U,U,U,U,U,U,U,U,U,U,U,U,U,U,U,U,U,U,U] ?_
    go_upto_region 4 with (fail)
    refine vR ?_
    refine vV (pX g 0) ?_
    refine vK (hh2 _ A) ?_
    intro qw3 qg4
    replace A:=A.since qg4
    replace G:=G.trans qg4
    have qg4_s:=qg4.size
    refine vV (bF) ?_
    refine vE #[pX g 0,U,.nilIface,U,bF,pX g 0,bF,U,U,U,U,U,U,U,U,U,U,U,U,U,U,U,U,U,bF,pX g 0,bF,U,U,U,U,U,U,U,U] ?_
    go_upto_region 6 with (fail)
    refine vR ?_
    refine vV (pX g 0) ?_
    refine vK (hh16 _ A) ?_
    intro qw5 qg6
    replace A:=A.since qg6
    replace G:=G.trans qg6
    have qg6_s:=qg6.size
    refine vV (bF) ?_
    refine vV (bF) ?_
    refine vE #[pX g 0,U,.nilIface,U,bF,pX g 0,bF,U,U,U,U,U,U,U,U,U,U,U,U,U,U,U,U,U,bF,pX g 0,bF,U,U,bF,pX g 0,bT,bF,U,U] ?_
    go_wp2_with (fail)
    go_ret
    exact ⟨⟨_,rfl,mis_yes _ _ _⟩,G⟩
   case false=>
    refine vR ?_
    refine vV (pX g 0) ?_
    refine vK (hh4 _ A) ?_
    intro qw1 qg2
    replace A:=A.since qg2
    replace G:=G.trans qg2
    have qg2_s:=qg2.size
    refine vV (bF) ?_
    refine vE #[pX g 0,U,.nilIface,U,bF,pX g 0,bF,U,U,U,U,U,U,U,U,U,U,U,U,U,U,U,U,U,U,U,U,U,U,U,U,U,U,U,U] ?_
    go_upto_region 4 with (fail)
    refine vR ?_
    refine vV (pX g 0) ?_
    refine vK (hh2 _ A) ?_
    intro qw3 qg4
    replace A:=A.since qg4
    replace G:=G.trans qg4
    have qg4_s:=qg4.size
    refine vV (bF) ?_
    refine vE #[pX g 0,U,.nilIface,U,bF,pX g 0,bF,U,U,U,U,U,U,U,U,U,U,U,U,U,U,U,U,U,bF,pX g 0,bF,U,U,U,U,U,U,U,U] ?_
    go_upto_region 6 with (fail)
    refine vR ?_
    refine vV (pX g 0) ?_
    refine vK (hh16 _ A) ?_
    intro qw5 qg6
    replace A:=A.since qg6
    replace G:=G.trans qg6
    have qg6_s:=qg6.size
    refine vV (bT) ?_
    refine vV (bT) ?_
    refine vE #[pX g 0,U,.nilIface,U,bF,pX g 0,bF,U,U,U,U,U,U,U,U,U,U,U,U,U,U,U,U,U,bF,pX g 0,bF,U,U,bT,pX g 0,bF,bT,U,U] ?_
    go_upto_region 7 with (fail)
    refine vR ?_
    refine vV (.agg (mfCells (⟨#[99,111,110,102,105,114,109]⟩:ByteArray) false false false)) ?_
    refine vV (.iface 75 (.agg (mfCells (⟨#[99,111,110,102,105,114,109]⟩:ByteArray) false false false))) ?_
    refine vV (.iface 75 (.agg (mfCells (⟨#[99,111,110,102,105,114,109]⟩:ByteArray) false false false))) ?_
    refine vE #[pX g 0,U,.iface 75 (.agg (mfCells (⟨#[99,111,110,102,105,114,109]⟩:ByteArray) false false false)),U,bF,pX g 0,bF,U,U,U,U,U,U,U,U,U,U,U,U,U,U,U,U,U,bF,pX g 0,bF,U,U,bT,pX g 0,bF,bT,.agg (mfCells (⟨#[99,111,110,102,105,114,109]⟩:ByteArray) false false false),.iface 75 (.agg (mfCells (⟨#[99,111,110,102,105,114,109]⟩:ByteArray) false false false))] ?_
    go_wp2_with (fail)
    go_ret
    exact ⟨⟨_,rfl,mis_no _ _ _ _⟩,G⟩
def refC (d:Cn) (now:Int) (a b c:Bool):Cn:=if c then endC d 1 else if a then (if b then restC {d with owe:=true} now else {d with owe:=true}) else d
theorem implRefuse (g:Nat) (d:Cn) (s:Sg) (now:Int) (sv:Value) (h0:0≤now) (h1:now≤1000000000) (t:ByteArray) (a b c:Bool) (hb:b=true→a=true) (hc:c=true→a=false) (w:World) (A:Blk g w (arrCells d s now sv)) :
  Calls Tryz.prog 68 #[.pointer (some ⟨g,0,none⟩),.agg (mfCells t a b c)] w fun e w'=>e=.returned (.tuple #[])∧Touch g w w'∧Blk g w' (arrCells (refC d now a b c) s now sv):=by
 have hA:=A.lt
 have G:=Touch.refl g w
 cases c
 case true=>
  rw [hc rfl] at hb ⊢
  cases b
  case true=>exact absurd (hb rfl) (by decide)
  case false=>
   go_enter Tryz.func68,Tryz.ntmps68
   go_upto_region 0 with (fail)
   refine vR ?_
   refine vW (w.alloc (.cells (mfCells t false false true) 75)) (pX w.heap.size 0) ?_
   have qB2:=Blk.new w (mfCells t false false true) 75
   have qg3:=(Since.refl w).alloc (.cells (mfCells t false false true) 75)
   replace A:=A.since qg3
   replace G:=touch_since G qg3
   generalize w.alloc (.cells (mfCells t false false true) 75)=qw1 at A G qB2 qg3 ⊢
   have qB2_l:=qB2.lt
   have qg3_s:=qg3.size
   refine vE #[pX g 0,.agg (mfCells t false false true),U,pX w.heap.size 0,U,U,U,U,U,U,U,U,U,U,U,U,U,U,U,U,U,U,U,U,U,U] ?_
   go_upto_region 1 with (fail)
   refine vR ?_
   refine vV (pX w.heap.size 1) ?_
   refine vD (bF) (qB2.cell 1) ?_
   refine vE #[pX g 0,.agg (mfCells t false false true),U,pX w.heap.size 0,pX w.heap.size 1,bF,U,U,U,U,U,U,U,U,U,U,U,U,U,U,U,U,U,U,U,U] ?_
   go_upto_region 3 with (fail)
   refine vR ?_
   refine vV (pX w.heap.size 2) ?_
   refine vD (bF) (qB2.cell 2) ?_
   refine vE #[pX g 0,.agg (mfCells t false false true),U,pX w.heap.size 0,pX w.heap.size 1,bF,U,U,U,U,pX w.heap.size 2,bF,U,U,U,U,U,U,U,U,U,U,U,U,U,U] ?_
   go_upto_region 5 with (fail)
   refine vR ?_
   refine vV (pX w.heap.size 3) ?_
   refine vD (bT) (qB2.cell 3) ?_
   refine vE #[pX g 0,.agg (mfCells t false false true),U,pX w.heap.size 0,pX w.heap.size 1,bF,U,U,U,U,pX w.heap.size 2,bF,U,U,U,U,U,U,U,U,pX w.heap.size 3,bT,U,U,U,U] ?_
   go_upto_region 6 with (fail)
   refine vR ?_
   refine vV (pX g 0) ?_
   refine vV (pX g 0) ?_
   refine vV (pX g 0) ?_
   refine vC (implFinishA g _ s now sv 1 _ A) ?_
   rintro _ qw4 ⟨rfl,qt5,qB6⟩
   refine ⟨_,rfl,?_⟩
   clear A
   replace qB2:=qB2.touch qt5 (by omega)
   replace G:=touch_new G qt5 (by omega)
   have qt5_s:=qt5.size
   refine vE #[pX g 0,.agg (mfCells t false false true),U,pX w.heap.size 0,pX w.heap.size 1,bF,U,U,U,U,pX w.heap.size 2,bF,U,U,U,U,U,U,U,U,pX w.heap.size 3,bT,pX g 0,pX g 0,pX g 0,.tuple #[]] ?_
   go_wp2_with (fail)
   refine bodyPost_end (v:=.tuple #[]) (results_none rfl _ _ _) rfl ⟨rfl,G,?_⟩
   exact qB6
 case false=>
  cases b
  case true=>
   rw [hb rfl]
   go_enter Tryz.func68,Tryz.ntmps68
   go_upto_region 0 with (fail)
   refine vR ?_
   refine vW (w.alloc (.cells (mfCells t true true false) 75)) (pX w.heap.size 0) ?_
   have qB2:=Blk.new w (mfCells t true true false) 75
   have qg3:=(Since.refl w).alloc (.cells (mfCells t true true false) 75)
   replace A:=A.since qg3
   replace G:=touch_since G qg3
   generalize w.alloc (.cells (mfCells t true true false) 75)=qw1 at A G qB2 qg3 ⊢
   have qB2_l:=qB2.lt
   have qg3_s:=qg3.size
   refine vE #[pX g 0,.agg (mfCells t true true false),U,pX w.heap.size 0,U,U,U,U,U,U,U,U,U,U,U,U,U,U,U,U,U,U,U,U,U,U] ?_
   go_upto_region 1 with (fail)
   refine vR ?_
   refine vV (pX w.heap.size 1) ?_
   refine vD (bT) (qB2.cell 1) ?_
   refine vE #[pX g 0,.agg (mfCells t true true false),U,pX w.heap.size 0,pX w.heap.size 1,bT,U,U,U,U,U,U,U,U,U,U,U,U,U,U,U,U,U,U,U,U] ?_
   go_upto_region 2 with (fail)
   refine vR ?_
   refine vV (pX g 0) ?_
   refine vV (pX g 0) ?_
   refine vV (pX g 0) ?_
   refine vV (pX g 36) ?_
   refine sC (arrCells {d with owe:=true} s now (sv)) A 36 (.bool true) (arr_size _ _ _ _) ?_
   intro qw4 qt5 qB6
   clear A
   replace qB2:=qB2.touch qt5 (by omega)
   replace G:=touch_new G qt5 (by omega)
   have qt5_s:=qt5.size
   refine vE #[pX g 0,.agg (mfCells t true true false),U,pX w.heap.size 0,pX w.heap.size 1,bT,pX g 0,pX g 0,pX g 0,pX g 36,U,U,U,U,U,U,U,U,U,U,U,U,U,U,U,U] ?_
   go_upto_region 3 with (fail)
   refine vR ?_
   refine vV (pX w.heap.size 2) ?_
   refine vD (bT) (qB2.cell 2) ?_
   refine vE #[pX g 0,.agg (mfCells t true true false),U,pX w.heap.size 0,pX w.heap.size 1,bT,pX g 0,pX g 0,pX g 0,pX g 36,pX w.heap.size 2,bT,U,U,U,U,U,U,U,U,U,U,U,U,U,U] ?_
   go_upto_region 4 with (fail)
   refine wp_region_tail (wb:=qw4) 7 (fun i x v=>match i with
     | 0=>v=.pointer (some ⟨g,0,none⟩)
     | 1=>v=.pointer (some ⟨g,0,none⟩)
     | 2=>v=.pointer (some ⟨g,0,none⟩)
     | 3=>v=.pointer (some ⟨g,0,none⟩)
     | 4=>v=.pointer (some ⟨g,0,none⟩)
     | 5=>v=.pointer (some ⟨g,45,none⟩)
     | 6=>v=.int .i64 now
     | _=>True) (fun v=>{tmps:=#[pX g 0,.agg (mfCells t true true false),U,pX w.heap.size 0,pX w.heap.size 1,bT,pX g 0,pX g 0,pX g 0,pX g 36,pX w.heap.size 2,bT,v 0,v 1,v 2,v 3,v 4,v 5,v 6,U,U,U,U,U,U,U],defers:=[]}) (by kernel_rfl) (by kernel_rfl) (by kernel_rfl) (Since.refl _) ?_ (fun vals=>by kernel_rfl) ?_ ?_
   case refine_1=>
    intro j x x' v h1 h2
    match j,h2 with
    | 0,h2|1,h2|2,h2|3,h2|4,h2|5,h2|6,h2=>exact h2
    | n+7,_=>trivial
   case refine_2=>
    repeat (first|exact eachDoes_nil|refine eachDoes_cons ?_ ?_)
    all_goals intro vals x hx hv
    all_goals simp [Region.binds] at hv
    ·have fl0:x.cell? ⟨g,45,none⟩=some (.int .i64 now):=(qB6.since hx).cell 45
     simp [does,doesUpon,go_sem,hv,fl0,Since.refl]
    ·simp [does,doesUpon,go_sem,hv,Since.refl]
    ·simp [does,doesUpon,go_sem,hv,Since.refl]
    ·simp [does,doesUpon,go_sem,Since.refl]
    ·simp [does,doesUpon,go_sem,hv,Since.refl]
    ·simp [does,doesUpon,go_sem,hv,Since.refl]
    ·simp [does,doesUpon,go_sem,Since.refl]
   case refine_3=>
    intro qv9 qw7 qh8 hv
    have hv0:qv9 0=_:=hv 0 (by decide)
    have hv1:qv9 1=_:=hv 1 (by decide)
    have hv2:qv9 2=_:=hv 2 (by decide)
    have hv3:qv9 3=_:=hv 3 (by decide)
    have hv4:qv9 4=_:=hv 4 (by decide)
    have hv5:qv9 5=_:=hv 5 (by decide)
    have hv6:qv9 6=_:=hv 6 (by decide)
    clear hv
    simp only [hv0,hv1,hv2,hv3,hv4,hv5,hv6,List.drop]
    clear hv0 hv1 hv2 hv3 hv4 hv5 hv6
    replace qB6:=qB6.since qh8
    replace qB2:=qB2.since qh8
    replace G:=touch_since G qh8
    have qh8_s:=qh8.size
    refine VL.out ?_
    refine vC (implRestA g _ s now sv now h0 h1 _ qB6) ?_
    rintro _ qw10 ⟨rfl,qt11,qB12⟩
    refine ⟨_,rfl,?_⟩
    clear qB6
    replace qB2:=qB2.touch qt11 (by omega)
    replace G:=touch_new G qt11 (by omega)
    have qt11_s:=qt11.size
    refine vE #[pX g 0,.agg (mfCells t true true false),U,pX w.heap.size 0,pX w.heap.size 1,bT,pX g 0,pX g 0,pX g 0,pX g 36,pX w.heap.size 2,bT,pX g 0,pX g 0,pX g 0,pX g 0,pX g 0,pX g 45,iJ now,.tuple #[],U,U,U,U,U,U] ?_
    go_upto_region 5 with (fail)
    refine vR ?_
    refine vV (pX w.heap.size 3) ?_
    refine vD (bF) (qB2.cell 3) ?_
    refine vE #[pX g 0,.agg (mfCells t true true false),U,pX w.heap.size 0,pX w.heap.size 1,bT,pX g 0,pX g 0,pX g 0,pX g 36,pX w.heap.size 2,bT,pX g 0,pX g 0,pX g 0,pX g 0,pX g 0,pX g 45,iJ now,.tuple #[],pX w.heap.size 3,bF,U,U,U,U] ?_
    go_wp2_with (fail)
    refine bodyPost_end (v:=.tuple #[]) (results_none rfl _ _ _) rfl ⟨rfl,G,?_⟩
    exact qB12
  case false=>
   cases a
   case true=>
    go_enter Tryz.func68,Tryz.ntmps68
    go_upto_region 0 with (fail)
    refine vR ?_
    refine vW (w.alloc (.cells (mfCells t true false false) 75)) (pX w.heap.size 0) ?_
    have qB2:=Blk.new w (mfCells t true false false) 75
    have qg3:=(Since.refl w).alloc (.cells (mfCells t true false false) 75)
    replace A:=A.since qg3
    replace G:=touch_since G qg3
    generalize w.alloc (.cells (mfCells t true false false) 75)=qw1 at A G qB2 qg3 ⊢
    have qB2_l:=qB2.lt
    have qg3_s:=qg3.size
    refine vE #[pX g 0,.agg (mfCells t true false false),U,pX w.heap.size 0,U,U,U,U,U,U,U,U,U,U,U,U,U,U,U,U,U,U,U,U,U,U] ?_
    go_upto_region 1 with (fail)
    refine vR ?_
    refine vV (pX w.heap.size 1) ?_
    refine vD (bT) (qB2.cell 1) ?_
    refine vE #[pX g 0,.agg (mfCells t true false false),U,pX w.heap.size 0,pX w.heap.size 1,bT,U,U,U,U,U,U,U,U,U,U,U,U,U,U,U,U,U,U,U,U] ?_
    go_upto_region 2 with (fail)
    refine vR ?_
    refine vV (pX g 0) ?_
    refine vV (pX g 0) ?_
    refine vV (pX g 0) ?_
    refine vV (pX g 36) ?_
    refine sC (arrCells {d with owe:=true} s now (sv)) A 36 (.bool true) (arr_size _ _ _ _) ?_
    intro qw4 qt5 qB6
    clear A
    replace qB2:=qB2.touch qt5 (by omega)
    replace G:=touch_new G qt5 (by omega)
    have qt5_s:=qt5.size
    refine vE #[pX g 0,.agg (mfCells t true false false),U,pX w.heap.size 0,pX w.heap.size 1,bT,pX g 0,pX g 0,pX g 0,pX g 36,U,U,U,U,U,U,U,U,U,U,U,U,U,U,U,U] ?_
    go_upto_region 3 with (fail)
    refine vR ?_
    refine vV (pX w.heap.size 2) ?_
    refine vD (bF) (qB2.cell 2) ?_
    refine vE #[pX g 0,.agg (mfCells t true false false),U,pX w.heap.size 0,pX w.heap.size 1,bT,pX g 0,pX g 0,pX g 0,pX g 36,pX w.heap.size 2,bF,U,U,U,U,U,U,U,U,U,U,U,U,U,U] ?_
    go_upto_region 5 with (fail)
    refine vR ?_
    refine vV (pX w.heap.size 3) ?_
    refine vD (bF) (qB2.cell 3) ?_
    refine vE #[pX g 0,.agg (mfCells t true false false),U,pX w.heap.size 0,pX w.heap.size 1,bT,pX g 0,pX g 0,pX g 0,pX g 36,pX w.heap.size 2,bF,U,U,U,U,U,U,U,U,pX w.heap.size 3,bF,U,U,U,U] ?_
    go_wp2_with (fail)
    refine bodyPost_end (v:=.tuple #[]) (results_none rfl _ _ _) rfl ⟨rfl,G,?_⟩
    exact qB6
   case false=>
    go_enter Tryz.func68,Tryz.ntmps68
    go_upto_region 0 with (fail)
    refine vR ?_
    refine vW (w.alloc (.cells (mfCells t false false false) 75)) (pX w.heap.size 0) ?_
    have qB2:=Blk.new w (mfCells t false false false) 75
    have qg3:=(Since.refl w).alloc (.cells (mfCells t false false false) 75)
    replace A:=A.since qg3
    replace G:=touch_since G qg3
    generalize w.alloc (.cells (mfCells t false false false) 75)=qw1 at A G qB2 qg3 ⊢
    have qB2_l:=qB2.lt
    have qg3_s:=qg3.size
    refine vE #[pX g 0,.agg (mfCells t false false false),U,pX w.heap.size 0,U,U,U,U,U,U,U,U,U,U,U,U,U,U,U,U,U,U,U,U,U,U] ?_
    go_upto_region 1 with (fail)
    refine vR ?_
    refine vV (pX w.heap.size 1) ?_
    refine vD (bF) (qB2.cell 1) ?_
    refine vE #[pX g 0,.agg (mfCells t false false false),U,pX w.heap.size 0,pX w.heap.size 1,bF,U,U,U,U,U,U,U,U,U,U,U,U,U,U,U,U,U,U,U,U] ?_
    go_upto_region 3 with (fail)
    refine vR ?_
    refine vV (pX w.heap.size 2) ?_
    refine vD (bF) (qB2.cell 2) ?_
    refine vE #[pX g 0,.agg (mfCells t false false false),U,pX w.heap.size 0,pX w.heap.size 1,bF,U,U,U,U,pX w.heap.size 2,bF,U,U,U,U,U,U,U,U,U,U,U,U,U,U] ?_
    go_upto_region 5 with (fail)
    refine vR ?_
    refine vV (pX w.heap.size 3) ?_
    refine vD (bF) (qB2.cell 3) ?_
    refine vE #[pX g 0,.agg (mfCells t false false false),U,pX w.heap.size 0,pX w.heap.size 1,bF,U,U,U,U,pX w.heap.size 2,bF,U,U,U,U,U,U,U,U,pX w.heap.size 3,bF,U,U,U,U] ?_
    go_wp2_with (fail)
    refine bodyPost_end (v:=.tuple #[]) (results_none rfl _ _ _) rfl ⟨rfl,G,?_⟩
    exact A
theorem implIsOld (g:Nat) (d:Cn) (s:Sg) (now:Int) (sv:Value) (w_a:IsWord d.una) (w_b:IsWord s.ak) (w:World) (A:Blk g w (arrCells d s now sv)) :
  Calls Tryz.prog 70 #[.pointer (some ⟨g,0,none⟩)] w fun e w'=>e=.returned (.bool (!decide (0≤distI d.una s.ak)))∧Since w w':=by
 have hc:=fun wx=>implLessEq d.una s.ak _ w_a w_b (distI_is _ _) wx
 generalize decide (0≤distI d.una s.ak)=b at hc ⊢
 have hA:=A.lt
 have G:=Since.refl w
 go_enter Tryz.func70,Tryz.ntmps70
 go_upto_region 0 with (fail)
 refine vR ?_
 refine vV (bF) ?_
 refine vE #[pX g 0,U,bF,U,U,U,U,U,U,U,U,U,U,U,U] ?_
 go_upto_region 1 with (fail)
 cases b
 case true=>
  refine wp_region_qs (wb:=w) (by kernel_rfl) (by kernel_rfl) (Since.refl _) ?_
  refine qV (pX g 0) ?_
  refine qV (pX g 0) ?_
  refine qV (pX g 0) ?_
  refine qV (pX g 2) ?_
  refine qC ⟨g,2,none⟩ (uJ d.una) (fun y hy=>(A.since hy).cell 2) ?_
  refine qV (pX g 0) ?_
  refine qV (pX g 0) ?_
  refine qV (pX g 37) ?_
  refine qV (pX g 40) ?_
  refine qC ⟨g,40,none⟩ (uJ s.ak) (fun y hy=>(A.since hy).cell 40) ?_
  refine q_same (by kernel_rfl) 91 #[.int .u32 d.una,.int .u32 s.ak] (.bool true) (fun x=>by kernel_rfl) (fun x=>hc x) ?_
  refine qV (bF) ?_
  refine qV (bF) ?_
  refine q_frame (a':={tmps:=#[pX g 0,U,bF,pX g 0,pX g 0,pX g 0,pX g 2,uJ d.una,pX g 0,pX g 0,pX g 37,pX g 40,uJ s.ak,bT,bF],defers:=[]}) (by kernel_rfl) ?_
  refine q_nil ?_
  intro qw1 qh2
  replace A:=A.since qh2
  replace G:=G.trans qh2
  have qh2_s:=qh2.size
  go_wp2_with (fail)
  go_ret
  exact ⟨rfl,G⟩
 case false=>
  refine wp_region_qs (wb:=w) (by kernel_rfl) (by kernel_rfl) (Since.refl _) ?_
  refine qV (pX g 0) ?_
  refine qV (pX g 0) ?_
  refine qV (pX g 0) ?_
  refine qV (pX g 2) ?_
  refine qC ⟨g,2,none⟩ (uJ d.una) (fun y hy=>(A.since hy).cell 2) ?_
  refine qV (pX g 0) ?_
  refine qV (pX g 0) ?_
  refine qV (pX g 37) ?_
  refine qV (pX g 40) ?_
  refine qC ⟨g,40,none⟩ (uJ s.ak) (fun y hy=>(A.since hy).cell 40) ?_
  refine q_same (by kernel_rfl) 91 #[.int .u32 d.una,.int .u32 s.ak] (.bool false) (fun x=>by kernel_rfl) (fun x=>hc x) ?_
  refine qV (bT) ?_
  refine qV (bT) ?_
  refine q_frame (a':={tmps:=#[pX g 0,U,bT,pX g 0,pX g 0,pX g 0,pX g 2,uJ d.una,pX g 0,pX g 0,pX g 37,pX g 40,uJ s.ak,bF,bT],defers:=[]}) (by kernel_rfl) ?_
  refine q_nil ?_
  intro qw1 qh2
  replace A:=A.since qh2
  replace G:=G.trans qh2
  have qh2_s:=qh2.size
  go_wp2_with (fail)
  go_ret
  exact ⟨rfl,G⟩
theorem implIsAhead (g:Nat) (d:Cn) (s:Sg) (now:Int) (sv:Value) (w_a:IsWord d.mx) (w_b:IsWord s.ak) (w:World) (A:Blk g w (arrCells d s now sv)) :
  Calls Tryz.prog 71 #[.pointer (some ⟨g,0,none⟩)] w fun e w'=>e=.returned (.bool (decide (0<distI d.mx s.ak)))∧Since w w':=by
 have hc:=fun wx=>implLess d.mx s.ak _ w_a w_b (distI_is _ _) wx
 generalize decide (0<distI d.mx s.ak)=b at hc ⊢
 have hA:=A.lt
 have G:=Since.refl w
 go_enter Tryz.func71,Tryz.ntmps71
 go_upto_region 0 with (fail)
 refine vR ?_
 refine vV (bF) ?_
 refine vE #[pX g 0,U,bF,U,U,U,U,U,U,U,U,U,U,U] ?_
 go_upto_region 1 with (fail)
 cases b
 case true=>
  refine wp_region_qs (wb:=w) (by kernel_rfl) (by kernel_rfl) (Since.refl _) ?_
  refine qV (pX g 0) ?_
  refine qV (pX g 0) ?_
  refine qV (pX g 0) ?_
  refine qV (pX g 4) ?_
  refine qC ⟨g,4,none⟩ (uJ d.mx) (fun y hy=>(A.since hy).cell 4) ?_
  refine qV (pX g 0) ?_
  refine qV (pX g 0) ?_
  refine qV (pX g 37) ?_
  refine qV (pX g 40) ?_
  refine qC ⟨g,40,none⟩ (uJ s.ak) (fun y hy=>(A.since hy).cell 40) ?_
  refine q_same (by kernel_rfl) 107 #[.int .u32 d.mx,.int .u32 s.ak] (.bool true) (fun x=>by kernel_rfl) (fun x=>hc x) ?_
  refine qV (bT) ?_
  refine q_frame (a':={tmps:=#[pX g 0,U,bT,pX g 0,pX g 0,pX g 0,pX g 4,uJ d.mx,pX g 0,pX g 0,pX g 37,pX g 40,uJ s.ak,bT],defers:=[]}) (by kernel_rfl) ?_
  refine q_nil ?_
  intro qw1 qh2
  replace A:=A.since qh2
  replace G:=G.trans qh2
  have qh2_s:=qh2.size
  go_wp2_with (fail)
  go_ret
  exact ⟨rfl,G⟩
 case false=>
  refine wp_region_qs (wb:=w) (by kernel_rfl) (by kernel_rfl) (Since.refl _) ?_
  refine qV (pX g 0) ?_
  refine qV (pX g 0) ?_
  refine qV (pX g 0) ?_
  refine qV (pX g 4) ?_
  refine qC ⟨g,4,none⟩ (uJ d.mx) (fun y hy=>(A.since hy).cell 4) ?_
  refine qV (pX g 0) ?_
  refine qV (pX g 0) ?_
  refine qV (pX g 37) ?_
  refine qV (pX g 40) ?_
  refine qC ⟨g,40,none⟩ (uJ s.ak) (fun y hy=>(A.since hy).cell 40) ?_
  refine q_same (by kernel_rfl) 107 #[.int .u32 d.mx,.int .u32 s.ak] (.bool false) (fun x=>by kernel_rfl) (fun x=>hc x) ?_
  refine qV (bF) ?_
  refine q_frame (a':={tmps:=#[pX g 0,U,bF,pX g 0,pX g 0,pX g 0,pX g 4,uJ d.mx,pX g 0,pX g 0,pX g 37,pX g 40,uJ s.ak,bF],defers:=[]}) (by kernel_rfl) ?_
  refine q_nil ?_
  intro qw1 qh2
  replace A:=A.since qh2
  replace G:=G.trans qh2
  have qh2_s:=qh2.size
  go_wp2_with (fail)
  go_ret
  exact ⟨rfl,G⟩
end Go.Proofs.YtmigalhmlofbkaaGreatDoor
