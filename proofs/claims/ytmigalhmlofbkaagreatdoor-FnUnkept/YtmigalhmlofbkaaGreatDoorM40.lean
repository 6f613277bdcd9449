/- A part of the proof. -/
import Derived.Test.YtmigalhmlofbkaaGreatDoorM27
set_option linter.unusedVariables false
set_option maxRecDepth 10000
namespace Go.Proofs.YtmigalhmlofbkaaGreatDoor
open Go.ChangeShapes Go.WideShapes Go.ChangeAt Go.RowKit
def mayW (st:Int):Bool:=decide (st=1∨st=2∨st=3∨st=6)
def behindC (c:Cn):Int:=(c.oF+(c.oD.size:Int)) % 4294967296
def leftC (c:Cn):Int:=distI c.nxt (behindC c)
theorem isWord_mod (x:Int):IsWord (x % 4294967296):=⟨by omega,by omega⟩
def sendsB (st:Int):Bool:=decide (st=3∨st=4∨st=6∨st=7∨st=8)
def ackSg (c:Cn) (ps:List (Int×ByteArray)):Sg:=⟨0,0,c.mx,c.iN,16,inRoomN c.iN c.iD c.iR ps,0,ByteArray.empty⟩
theorem wait_in11 (a:Bool) (s v d:Int):2≤waitOf a s v d∧waitOf a s v d≤600:=by
 unfold waitOf
 split
 ·rename_i hk
  have hb:=ok_bounds hk
  have h2:2≤baseOf a s v:=by unfold baseOf;split<;>omega
  have h3:baseOf a s v≤1000000:=by unfold baseOf;split<;>omega
  generalize baseOf a s v=p at h2 h3
  have hd:d=0∨d=1∨d=2∨d=3∨d=4∨d=5∨d=6∨d=7∨d=8:=by omega
  rcases hd with rfl|rfl|rfl|rfl|rfl|rfl|rfl|rfl|rfl<;>simp<;>omega
 ·omega
def nxtN (c:Cn) (n:Int):Int:=(c.nxt+n % 4294967296) % 4294967296
def mxN (c:Cn) (n:Int):Int:=if 0<distI c.mx (nxtN c n) then nxtN c n else c.mx
def wentC (c:Cn) (n now:Int):Cn:={c with nxt:=nxtN c n,mx:=mxN c n,agn:=if c.agn=0 then now+waitOf c.rA c.rS c.rV c.rD else c.agn,owe:=false}
def mayN (c:Cn):Int:=if c.cX<c.wnd then c.cX else c.wnd
def capN (c:Cn):Int:=if 100<mayN c - distI c.una c.nxt then 100 else mayN c - distI c.una c.nxt
def sizeN (c:Cn):Int:=if leftC c<capN c then leftC c else capN c
def stopsB (c:Cn):Bool:=decide (sizeN c<1) || (decide (sizeN c<100) && (decide (sizeN c<leftC c) && decide (c.una≠c.nxt)))
def pieceSg (c:Cn) (ps:List (Int×ByteArray)):Sg:=⟨0,0,c.nxt,c.iN,if sizeN c=leftC c then 24 else 16,inRoomN c.iN c.iD c.iR ps,0,takeT c.oF c.oD c.oR c.nxt (sizeN c) (distI c.oF c.nxt)⟩
def timesB (c:Cn):Bool:=!c.tmg && decide (c.nxt=c.mx)
def timesC (c:Cn) (now:Int):Cn:=if timesB c then {c with tmg:=true,tsq:=c.nxt,tat:=now} else c
def oneC (c:Cn) (now:Int):Cn:=wentC (timesC c now) (sizeN c) now
def goesB (c:Cn):Bool:=sendsB c.st && !stopsB c
def piecesC (ps:List (Int×ByteArray)) (now:Int):Nat→Cn→List Sg→Cn×List Sg
 | 0,c,xs=>(c,xs)
 | f+1,c,xs=>if goesB c then piecesC ps now f (oneC c now) (xs++[pieceSg c ps]) else (c,xs)
structure Sent (c d:Cn):Prop where
 st:d.st=c.st
 una:d.una=c.una
 wnd:d.wnd=c.wnd
 cX:d.cX=c.cX
 oF:d.oF=c.oF
 oD:d.oD=c.oD
 oR:d.oR=c.oR
 iN:d.iN=c.iN
 iD:d.iD=c.iD
 iR:d.iR=c.iR
 pa:d.pa=c.pa
 pn:d.pn=c.pn
 pc:d.pc=c.pc
 w_nxt:IsWord d.nxt
 w_mx:IsWord d.mx
theorem Sent.refl {c:Cn} (h1:IsWord c.nxt) (h2:IsWord c.mx):Sent c c:=⟨rfl,rfl,rfl,rfl,rfl,rfl,rfl,rfl,rfl,rfl,rfl,rfl,rfl,h1,h2⟩
theorem Sent.one {c d:Cn} (h:Sent c d) (now:Int):Sent c (oneC d now):=by
 have e:∀ x:Cn,Sent c x→Sent c (wentC x (sizeN d) now):=fun x hx=>⟨hx.st,hx.una,hx.wnd,hx.cX,hx.oF,hx.oD,hx.oR,hx.iN,hx.iD,hx.iR,hx.pa,hx.pn,hx.pc,isWord_mod _,by
  show IsWord (mxN x (sizeN d))
  unfold mxN
  split
  ·exact isWord_mod _
  ·exact hx.w_mx⟩
 unfold oneC
 apply e
 unfold timesC
 split
 ·exact ⟨h.st,h.una,h.wnd,h.cX,h.oF,h.oD,h.oR,h.iN,h.iD,h.iR,h.pa,h.pn,h.pc,h.w_nxt,h.w_mx⟩
 ·exact h
theorem one_nxt (c:Cn) (now:Int):(oneC c now).nxt=(c.nxt+sizeN c % 4294967296) % 4294967296:=by
 unfold oneC timesC
 split<;>rfl
theorem one_left {c:Cn} {now:Int} (hn:IsWord c.nxt) (hs:stopsB c=false):leftC (oneC c now)=leftC c - sizeN c∧1≤sizeN c∧sizeN c≤leftC c:=by
 have h1:1≤sizeN c:=by
  unfold stopsB at hs
  simp at hs
  omega
 have h2:sizeN c≤leftC c:=by
  unfold sizeN
  split<;>omega
 refine ⟨?_,h1,h2⟩
 have hb:behindC (oneC c now)=behindC c:=by
  unfold oneC timesC
  split<;>rfl
 have hl:=distI_is c.nxt (behindC c)
 have hl2:=distI_is (oneC c now).nxt (behindC (oneC c now))
 rw [hb,one_nxt] at hl2
 show distI (oneC c now).nxt (behindC (oneC c now))=distI c.nxt (behindC c) - sizeN c
 rw [hb,one_nxt]
 change sizeN c≤distI c.nxt (behindC c) at h2
 generalize distI c.nxt (behindC c)=L at *
 generalize distI ((c.nxt+sizeN c % 4294967296) % 4294967296) (behindC c)=M at *
 generalize behindC c=bh at *
 obtain ⟨a1,a2⟩:=hn
 unfold IsDist at hl hl2
 omega
def finB (d:Cn):Bool:=sendsB d.st && (d.fin && (decide (leftC d=0) && (!d.fsn || decide (d.nxt=d.fsq))))
def finSg (d:Cn) (ps:List (Int×ByteArray)):Sg:=⟨0,0,d.nxt,d.iN,17,inRoomN d.iN d.iD d.iR ps,0,ByteArray.empty⟩
def finW (d:Cn) (now:Int):Cn:=wentC {d with fsn:=true,fsq:=d.nxt} 1 now
def finC (d:Cn) (now:Int):Cn:=if d.st=3 then {finW d now with st:=4} else if d.st=6 then {finW d now with st:=8} else finW d now
def fin2 (ps:List (Int×ByteArray)) (now:Int) (p:Cn×List Sg):Cn×List Sg:=if finB p.1 then (finC p.1 now,p.2++[finSg p.1 ps]) else p
def prbB (d:Cn):Bool:=sendsB d.st && (decide (d.wnd=0) && (decide (0<leftC d) && (decide (d.una=d.nxt) && decide (d.prb=0))))
def prbC (d:Cn) (now:Int):Cn:=if prbB d then {d with prb:=now+waitOf d.rA d.rS d.rV d.rD} else d
def oweB (d:Cn):Bool:=d.owe && (decide (d.st≠0) && decide (d.st≠1))
def owe2 (ps:List (Int×ByteArray)) (p:Cn×List Sg):Cn×List Sg:=if oweB p.1 then ({p.1 with owe:=false},p.2++[ackSg p.1 ps]) else p
structure Stay (c d:Cn):Prop where
 una:d.una=c.una
 wnd:d.wnd=c.wnd
 oF:d.oF=c.oF
 oD:d.oD=c.oD
 iN:d.iN=c.iN
 iD:d.iD=c.iD
 iR:d.iR=c.iR
 pa:d.pa=c.pa
 pn:d.pn=c.pn
 pc:d.pc=c.pc
 w_nxt:IsWord d.nxt
 w_mx:IsWord d.mx
theorem Sent.stay {c d:Cn} (h:Sent c d):Stay c d:=⟨h.una,h.wnd,h.oF,h.oD,h.iN,h.iD,h.iR,h.pa,h.pn,h.pc,h.w_nxt,h.w_mx⟩
theorem Stay.fin {c d:Cn} (h:Stay c d) (now:Int):Stay c (finC d now):=by
 have e:Stay c (finW d now):=⟨h.una,h.wnd,h.oF,h.oD,h.iN,h.iD,h.iR,h.pa,h.pn,h.pc,isWord_mod _,by
  show IsWord (mxN _ 1)
  unfold mxN
  split
  ·exact isWord_mod _
  ·exact h.w_mx⟩
 unfold finC
 split
 ·exact ⟨e.una,e.wnd,e.oF,e.oD,e.iN,e.iD,e.iR,e.pa,e.pn,e.pc,e.w_nxt,e.w_mx⟩
 ·split
  ·exact ⟨e.una,e.wnd,e.oF,e.oD,e.iN,e.iD,e.iR,e.pa,e.pn,e.pc,e.w_nxt,e.w_mx⟩
  ·exact e
theorem Stay.prb {c d:Cn} (h:Stay c d) (now:Int):Stay c (prbC d now):=by
 unfold prbC
 split
 ·exact ⟨h.una,h.wnd,h.oF,h.oD,h.iN,h.iD,h.iR,h.pa,h.pn,h.pc,h.w_nxt,h.w_mx⟩
 ·exact h
end Go.Proofs.YtmigalhmlofbkaaGreatDoor
