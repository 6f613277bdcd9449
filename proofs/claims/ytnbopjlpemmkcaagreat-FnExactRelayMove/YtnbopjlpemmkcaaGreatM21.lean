/-
  What a turn makes of two pipes and two ends, as plain functions; an end that gives up, wherever its parts lie.
  A pointer in few letters; ways through a region that meet again.
-/
import Derived.Test.YtnbopjlpemmkcaaGreatM23
import Derived.Test.YtnbopjlpemmkcaaGreatM22
import Derived.Test.YtnbopjlpemmkcaaGreatM12
import Derived.Test.YtnbopjlpemmkcaaGreatVl
namespace Go.Proofs.YtnbopjlpemmkcaaGreat
open Go.ChangeShapes Go.WideShapes Go.ChangeAt Go.RowKit
set_option linter.unusedVariables false
set_option maxRecDepth 10000

theorem abort_at (c:Cn) (ps:List (Int×ByteArray)) (a:Option Addr) (p:Nat) (a':Option Addr) (p':Nat):({abortC {c with pa:=a,pc:=p} ps with pa:=a',pc:=p'}:Cn)={abortC c ps with pa:=a',pc:=p'}:=by
 change ({(if (connOk c ps && !decide (c.st=0))=true then endC {c with pa:=a,pc:=p} 4 else ({c with pa:=a,pc:=p}:Cn)) with pa:=a',pc:=p'}:Cn)={(if (connOk c ps && !decide (c.st=0))=true then endC c 4 else c) with pa:=a',pc:=p'}
 generalize (connOk c ps && !decide (c.st=0))=b
 cases b<;>rfl

theorem sAbort {c:Cn} {ps:List (Int×ByteArray)} (gc:GoodC c ps) (q p:Nat) (w:World) (R:Rd shP w (some ⟨q,0,none⟩) c.pn ps) :
  Calls Tryz.prog 23 #[.agg (cnCells {c with pa:=some ⟨q,0,none⟩,pc:=p})] w fun e w'=>∃ g cp ga m ca,e=.returned (.tuple #[.agg (cnCells {abortC c ps with pa:=some ⟨g,0,none⟩,pc:=cp}),.slice (some ⟨ga,0,none⟩) m ca])∧Held shP w' w.heap.size g c.pn cp ps∧Held shG w' w.heap.size ga m ca (abortS c ps)∧Since w w':=by
 refine (specAbort {c with pa:=some ⟨q,0,none⟩,pc:=p} ps (good_at gc _ _) (fun h=>by cases h) w R).mono ?_
 rintro e w' ⟨g,cp,ga,m,ca,h,H,L,k⟩
 refine ⟨g,cp,ga,m,ca,h.trans ?_,H,L,k⟩
 rw [abort_at]

theorem hidI {p:Prop} (h:p):Hid p:=h

def gaveB (c:Cn):Bool:=if c.st=0 then !decide (c.why=0) else false

def rlWay (r:Int) (d:ByteArray) (n:Int) (s:Int) (f:ByteArray) (m:Int) (L:Cn) (ps:List (Int×ByteArray)) (R:Cn) (qs:List (Int×ByteArray)):Nat:=
 if pipeOk r d n && (pipeOk s f m && (connOk L ps && connOk R qs)) then (if gaveB L then 1 else if gaveB R then 2 else 3) else 0

structure Rl where
 d:ByteArray
 e:Bool
 n:Int
 f:ByteArray
 g:Bool
 m:Int
 L:Cn
 R:Cn
 xa:List Sg
 xb:List Sg

def rlAns (k:Nat) (r:Int) (d:ByteArray) (e:Bool) (n:Int) (s:Int) (f:ByteArray) (g:Bool) (m:Int) (L:Cn) (ps:List (Int×ByteArray)) (R:Cn) (qs:List (Int×ByteArray)):Rl:=
 match k with
 | 0=>⟨d,e,n,f,g,m,L,R,[],[]⟩
 | 1=>⟨d,e,n,f,g,m,L,abortC R qs,[],abortS R qs⟩
 | 2=>⟨d,e,n,f,g,m,abortC L ps,R,abortS L ps,[]⟩
 | _=>⟨mvD r d n L ps R qs,mvE r d e n L ps R qs,mvN r d n L ps R qs,mvD s f m (mvT r d e n L ps R qs) qs (mvF r d n L ps R qs) ps,mvE s f g m (mvT r d e n L ps R qs) qs (mvF r d n L ps R qs) ps,mvN s f m (mvT r d e n L ps R qs) qs (mvF r d n L ps R qs) ps,mvT s f g m (mvT r d e n L ps R qs) qs (mvF r d n L ps R qs) ps,mvF s f m (mvT r d e n L ps R qs) qs (mvF r d n L ps R qs) ps,[],[]⟩

theorem good_mvF {r:Int} {d:ByteArray} {n:Int} {F:Cn} {ps:List (Int×ByteArray)} {T:Cn} {qs:List (Int×ByteArray)} (g:GoodC F ps):GoodC (mvF r d n F ps T qs) ps:=by
 unfold mvF
 split
 ·exact good_read g _
 ·exact g

theorem good_mvT {r:Int} {d:ByteArray} {e:Bool} {n:Int} {F:Cn} {ps:List (Int×ByteArray)} {T:Cn} {qs:List (Int×ByteArray)} (g:GoodC T qs):GoodC (mvT r d e n F ps T qs) qs:=by
 unfold mvT shutT
 repeat' split
 ·exact good_close (good_write g _)
 ·exact good_write g _
 ·exact g

theorem mvF_pn' (r:Int) (d:ByteArray) (n:Int) (F:Cn) (ps:List (Int×ByteArray)) (T:Cn) (qs:List (Int×ByteArray)):(mvF r d n F ps T qs).pn=F.pn:=by
 unfold mvF
 split
 ·exact read_pn _ _ _
 ·rfl

theorem mvT_pn' (r:Int) (d:ByteArray) (e:Bool) (n:Int) (F:Cn) (ps:List (Int×ByteArray)) (T:Cn) (qs:List (Int×ByteArray)):(mvT r d e n F ps T qs).pn=T.pn:=by
 unfold mvT shutT
 repeat' split
 ·rw [close_pn,write_pn]
 ·exact write_pn _ _ _
 ·rfl

theorem abort_pn (c:Cn) (ps:List (Int×ByteArray)):(abortC c ps).pn=c.pn:=by
 unfold abortC
 split<;>rfl

theorem results_5 {fn:Func} {t u v x y:Tmp} {b b1 b2:Nat} {w:World} {cs:Array Value} {c c':Cn} {hs:cs.size=8} (h:fn.results=#[.cell t 42,.cell u 50,.cell v 50,.tmp x,.tmp y]) (tmps:Array Value) (hp:tmps.getD t undef=.pointer (some ⟨b,0,none⟩)) (hq:tmps.getD u undef=.pointer (some ⟨b1,0,none⟩)) (hr:tmps.getD v undef=.pointer (some ⟨b2,0,none⟩))
  (B:Blk b w cs) (B1:Blk b1 w (cnCells c)) (B2:Blk b2 w (cnCells c')):(results fn tmps).run Tryz.prog w=.ok (.tuple #[.agg cs,.agg (cnCells c),.agg (cnCells c'),tmps.getD x undef,tmps.getD y undef]) w:=by
 have e:=var_big rl_big hs B
 have e1:=ret_cn B1
 have e2:=ret_cn B2
 have hp':tmps[t]?.getD undef=.pointer (some ⟨b,0,none⟩):=by simpa using hp
 have hq':tmps[u]?.getD undef=.pointer (some ⟨b1,0,none⟩):=by simpa using hq
 have hr':tmps[v]?.getD undef=.pointer (some ⟨b2,0,none⟩):=by simpa using hr
 simp [results,h,hp',hq',hr',asAddr,e,e1,e2]
end Go.Proofs.YtnbopjlpemmkcaaGreat

namespace Go.Proofs.YtnbopjlpemmkcaaGreat

abbrev pX (b k:Nat):Value:=.pointer (some ⟨b,k,none⟩)

theorem vAny {T:Type} {ops:Array Oper} {Q:Exit→Act→World→Prop} {l:List Oper} {a:Act} {w:World} (F:T→Array Value) (h:∀ t,VL ops Q [] {tmps:=F t,defers:=[]} w) (k:∃ t,VL ops Q [] {tmps:=F t,defers:=[]} w→VL ops Q l a w):VL ops Q l a w:=by
 obtain ⟨t,ht⟩:=k
 exact ht (h t)

theorem vKey {T:Type} {ops:Array Oper} {Q:Exit→Act→World→Prop} {l:List Oper} {a:Act} {w:World} (F:T→Array Value) (h:∀ t x,Since w x→VL ops Q [] {tmps:=F t,defers:=[]} x) (k:(∀ t x,Since w x→VL ops Q [] {tmps:=F t,defers:=[]} x)→VL ops Q l a w):VL ops Q l a w:=k h
end Go.Proofs.YtnbopjlpemmkcaaGreat
