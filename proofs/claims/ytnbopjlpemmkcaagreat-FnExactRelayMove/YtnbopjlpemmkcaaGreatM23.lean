/-
  Texts put together, cut and held against the empty one, behind the veil.
  What a turn makes of a pipe and two ends, as plain functions; reading, writing, closing and copying an end wherever its parts lie.
-/
import Derived.Test.YtnbopjlpemmkcaaGreatVl
import Derived.Test.YtnbopjlpemmkcaaGreatRead11I
import Derived.Test.YtnbopjlpemmkcaaGreatWrite11I
import Derived.Test.YtnbopjlpemmkcaaGreatClose11I
import Derived.Test.YtnbopjlpemmkcaaGreatM18
import Derived.Test.YtnbopjlpemmkcaaGreatM19
import Derived.Test.YtnbopjlpemmkcaaGreatM11
import Derived.Test.YtnbopjlpemmkcaaGreatDrawnStore
namespace Go.Proofs.YtnbopjlpemmkcaaGreat
open Go.ChangeShapes Go.WideShapes Go.ChangeAt Go.RowKit
set_option linter.unusedVariables false
set_option maxRecDepth 10000

section
variable {ops:Array Oper} {rest:List Oper} {o:Oper} {a:Act} {w:World} {Q:Exit→Act→World→Prop}

theorem vAdd (A B:ByteArray) (hz:A.size+B.size≤9223372036854775807) {x y:Operand} {T':TypeId} (h:VL ops Q rest (a.put o.dst (.string (A++B))) w) (ho:o.op=.binOp .add 9 x y T':=by rfl)
  (hg:Region.wanted o (yielded ops a.tmps)=true:=by kernel_rfl) (hx:a.eval x=.string A:=by kernel_rfl) (hy:a.eval y=.string B:=by kernel_rfl):VL ops Q (o :: rest) a w:=
 ⟨want_val hg _ (by
  have e:=run_string_add_sum (P:=Tryz.prog) w A B hz
  unfold execOp
  simp only [ho,hx,hy]
  simp [go_sem,e]) h.out⟩

theorem vCut (A:ByteArray) (n:Nat) (hn:n≤A.size) (hm:A.size≤9223372036854775807) {x y:Operand} (h:VL ops Q rest (a.put o.dst (.string (A.extract n A.size))) w) (ho:o.op=.slice 9 x (some y) none none:=by rfl)
  (hg:Region.wanted o (yielded ops a.tmps)=true:=by kernel_rfl) (hx:a.eval x=.string A:=by kernel_rfl) (hy:a.eval y=.int .i64 (n:Int):=by kernel_rfl):VL ops Q (o :: rest) a w:=
 ⟨want_val hg _ (by
  unfold execOp
  simp only [ho,hx,hy,Option.map_some,Option.map_none]
  simp [go_sem,hn]) h.out⟩

theorem vEmp (A:ByteArray) (b:Bool) (hb:(A.toList == [])=b) {x:Operand} {T':TypeId} (h:VL ops Q rest (a.put o.dst (.bool b)) w) (ho:o.op=.binOp .eql 9 x (.const (.string ⟨#[]⟩)) T':=by rfl)
  (hg:Region.wanted o (yielded ops a.tmps)=true:=by kernel_rfl) (hx:a.eval x=.string A:=by kernel_rfl):VL ops Q (o :: rest) a w:=
 ⟨want_val hg _ (by
  unfold execOp
  have hc:a.eval (.const (.string ⟨#[]⟩))=.string ⟨#[]⟩:=rfl
  simp only [ho,hx,hc]
  simp [go_sem,hb]) h.out⟩

end
end Go.Proofs.YtnbopjlpemmkcaaGreat

namespace Go.Proofs.YtnbopjlpemmkcaaGreat
open Go.ChangeShapes Go.WideShapes Go.ChangeAt Go.RowKit
set_option linter.unusedVariables false
set_option maxRecDepth 10000

theorem read_at (c:Cn) (ps:List (Int×ByteArray)) (n:Int) (a:Option Addr) (p:Nat) (a':Option Addr) (p':Nat):({readC {c with pa:=a,pc:=p} ps n with pa:=a',pc:=p'}:Cn)={readC c ps n with pa:=a',pc:=p'}:=by
 change ({(if connOk c ps=true then (if owesR c.st (inRoomN c.iN c.iD c.iR ps) (readT c.iN c.iD c.iR ps n)=true then {({c with pa:=a,pc:=p}:Cn) with iD:=readD c.iN c.iD c.iR ps n,owe:=true} else {({c with pa:=a,pc:=p}:Cn) with iD:=readD c.iN c.iD c.iR ps n}) else ({c with pa:=a,pc:=p}:Cn)) with pa:=a',pc:=p'}:Cn)={(if connOk c ps=true then (if owesR c.st (inRoomN c.iN c.iD c.iR ps) (readT c.iN c.iD c.iR ps n)=true then {c with iD:=readD c.iN c.iD c.iR ps n,owe:=true} else {c with iD:=readD c.iN c.iD c.iR ps n}) else c) with pa:=a',pc:=p'}
 generalize owesR c.st (inRoomN c.iN c.iD c.iR ps) (readT c.iN c.iD c.iR ps n)=b2
 generalize connOk c ps=b
 cases b<;>cases b2<;>rfl

theorem write_at (c:Cn) (ps:List (Int×ByteArray)) (s:ByteArray) (a:Option Addr) (p:Nat) (a':Option Addr) (p':Nat):({writeC {c with pa:=a,pc:=p} ps s with pa:=a',pc:=p'}:Cn)={writeC c ps s with pa:=a',pc:=p'}:=by
 change ({(if writeOk c ps=true then {({c with pa:=a,pc:=p}:Cn) with oD:=putD c.oD c.oR s} else ({c with pa:=a,pc:=p}:Cn)) with pa:=a',pc:=p'}:Cn)={(if writeOk c ps=true then {c with oD:=putD c.oD c.oR s} else c) with pa:=a',pc:=p'}
 generalize writeOk c ps=b
 cases b<;>rfl

theorem close_at (c:Cn) (ps:List (Int×ByteArray)) (a:Option Addr) (p:Nat) (a':Option Addr) (p':Nat):({closeC {c with pa:=a,pc:=p} ps with pa:=a',pc:=p'}:Cn)={closeC c ps with pa:=a',pc:=p'}:=by
 change ({(if (connOk c ps && mayW c.st)=true then {({c with pa:=a,pc:=p}:Cn) with fin:=true} else ({c with pa:=a,pc:=p}:Cn)) with pa:=a',pc:=p'}:Cn)={(if (connOk c ps && mayW c.st)=true then {c with fin:=true} else c) with pa:=a',pc:=p'}
 generalize (connOk c ps && mayW c.st)=b
 cases b<;>rfl

theorem read_pn (c:Cn) (ps:List (Int×ByteArray)) (n:Int):(readC c ps n).pn=c.pn:=by
 unfold readC
 repeat' split
 all_goals rfl

theorem write_pn (c:Cn) (ps:List (Int×ByteArray)) (s:ByteArray):(writeC c ps s).pn=c.pn:=by
 unfold writeC
 split
 all_goals rfl

theorem close_pn (c:Cn) (ps:List (Int×ByteArray)):(closeC c ps).pn=c.pn:=by
 unfold closeC
 split
 all_goals rfl

theorem readD_size (q:Int) (d:ByteArray) (r:Int) (ps:List (Int×ByteArray)) (n:Int):(readD q d r ps n).size≤d.size:=by
 unfold readD
 split
 ·simp
 ·exact Nat.le_refl _

theorem readT_size (q:Int) (d:ByteArray) (r:Int) (ps:List (Int×ByteArray)) (n:Int):((readT q d r ps n).size:Int)≤4096:=by
 unfold readT
 split
 ·rename_i h
  unfold readN
  rw [if_pos h]
  simp
  omega
 ·show ((0:Nat):Int)≤4096
  omega

theorem readS_size (c:Cn) (ps:List (Int×ByteArray)) (n:Int):((readS c ps n).size:Int)≤4096:=by
 unfold readS
 split
 ·exact readT_size _ _ _ _ _
 ·show ((0:Nat):Int)≤4096
  omega

theorem putD_size {d:ByteArray} {r:Int} {s:ByteArray} (h:d.size≤1048576):(putD d r s).size≤1048576:=by
 unfold putD
 split
 ·rename_i k
  have:=(outOk_iff d r).1 k
  unfold putN
  rw [if_pos k]
  simp
  omega
 ·exact h

theorem good_read {c:Cn} {ps:List (Int×ByteArray)} (g:GoodC c ps) (n:Int):GoodC (readC c ps n) ps:=by
 have hz:=readD_size c.iN c.iD c.iR ps n
 have gd:Good c.iN (readD c.iN c.iD c.iR ps n) c.iR c.pn ps:=⟨g.gd.hq,Nat.le_trans hz g.gd.hd,g.gd.hr,g.gd.hn,g.gd.hp⟩
 unfold readC
 repeat' split
 ·exact ⟨g.w_iss,g.w_una,g.w_nxt,g.w_mx,g.w_wsq,g.w_wak,g.w_oF,g.w_fsq,g.w_cR,g.w_tsq,g.hod,gd⟩
 ·exact ⟨g.w_iss,g.w_una,g.w_nxt,g.w_mx,g.w_wsq,g.w_wak,g.w_oF,g.w_fsq,g.w_cR,g.w_tsq,g.hod,gd⟩
 ·exact g

theorem good_write {c:Cn} {ps:List (Int×ByteArray)} (g:GoodC c ps) (s:ByteArray):GoodC (writeC c ps s) ps:=by
 unfold writeC
 split
 ·exact ⟨g.w_iss,g.w_una,g.w_nxt,g.w_mx,g.w_wsq,g.w_wak,g.w_oF,g.w_fsq,g.w_cR,g.w_tsq,putD_size g.hod,g.gd⟩
 ·exact g

theorem good_close {c:Cn} {ps:List (Int×ByteArray)} (g:GoodC c ps):GoodC (closeC c ps) ps:=by
 unfold closeC
 split
 ·exact ⟨g.w_iss,g.w_una,g.w_nxt,g.w_mx,g.w_wsq,g.w_wak,g.w_oF,g.w_fsq,g.w_cR,g.w_tsq,g.hod,g.gd⟩
 ·exact g

def writeM (c:Cn) (ps:List (Int×ByteArray)) (s:ByteArray):Nat:=if writeOk c ps then putN c.oD c.oR s else 0

theorem write_is (c:Cn) (ps:List (Int×ByteArray)) (s:ByteArray):writeN c ps s=(writeM c ps s:Int):=by
 unfold writeN writeM
 split
 all_goals rfl

theorem writeM_le (c:Cn) (ps:List (Int×ByteArray)) (s:ByteArray):writeM c ps s≤s.size:=by
 unfold writeM putN
 repeat' split
 all_goals omega

theorem sRead {c:Cn} {ps:List (Int×ByteArray)} (gc:GoodC c ps) (n:Int) (hn:IsInt n) (q p:Nat) (w:World) (R:Rd shP w (some ⟨q,0,none⟩) c.pn ps) :
  Calls Tryz.prog 54 #[.agg (cnCells {c with pa:=some ⟨q,0,none⟩,pc:=p}),.int .i64 n] w fun e w'=>∃ g cp,e=.returned (.tuple #[.agg (cnCells {readC c ps n with pa:=some ⟨g,0,none⟩,pc:=cp}),.string (readS c ps n)])∧Held shP w' w.heap.size g c.pn cp ps∧Since w w':=by
 refine (specRead {c with pa:=some ⟨q,0,none⟩,pc:=p} ps n (good_at gc _ _) (fun h=>by cases h) hn w R).mono ?_
 rintro e w' ⟨g,cp,h,H,k⟩
 exact ⟨g,cp,h.trans (by rw [read_at];rfl),H,k⟩

theorem iRead {c:Cn} {ps:List (Int×ByteArray)} (gc:GoodC c ps) (n:Int) (hn:IsInt n) (a:Option Addr) (p:Nat) (hnil:a=none→p=0) (w:World) (R:Rd shP w a c.pn ps) :
  Calls Tryz.prog 117 #[.agg (cnCells {c with pa:=a,pc:=p}),.int .i64 n] w fun e w'=>∃ g cp,e=.returned (.tuple #[.agg (cnCells {readC c ps n with pa:=some ⟨g,0,none⟩,pc:=cp}),.string (readS c ps n)])∧Held shP w' w.heap.size g c.pn cp ps∧Since w w':=by
 refine (implRead {c with pa:=a,pc:=p} ps n hn hnil (good_at gc _ _) w R).mono ?_
 rintro e w' ⟨g,cp,h,H,k⟩
 exact ⟨g,cp,h.trans (by rw [read_at];rfl),H,k⟩

theorem sWrite {c:Cn} {ps:List (Int×ByteArray)} (gc:GoodC c ps) (s:ByteArray) (hs:s.size≤1048576) (q p:Nat) (w:World) (R:Rd shP w (some ⟨q,0,none⟩) c.pn ps) :
  Calls Tryz.prog 55 #[.agg (cnCells {c with pa:=some ⟨q,0,none⟩,pc:=p}),.string s] w fun e w'=>∃ g cp,e=.returned (.tuple #[.agg (cnCells {writeC c ps s with pa:=some ⟨g,0,none⟩,pc:=cp}),.int .i64 (writeM c ps s)])∧Held shP w' w.heap.size g c.pn cp ps∧Since w w':=by
 refine (specWrite {c with pa:=some ⟨q,0,none⟩,pc:=p} ps s (good_at gc _ _) (fun h=>by cases h) hs w R).mono ?_
 rintro e w' ⟨g,cp,h,H,k⟩
 refine ⟨g,cp,h.trans ?_,H,k⟩
 rw [write_at,← write_is]
 rfl

theorem iWrite {c:Cn} {ps:List (Int×ByteArray)} (gc:GoodC c ps) (s:ByteArray) (hs:s.size≤1048576) (a:Option Addr) (p:Nat) (w:World) (R:Rd shP w a c.pn ps) :
  Calls Tryz.prog 120 #[.agg (cnCells {c with pa:=a,pc:=p}),.string s] w fun e w'=>∃ g cp,e=.returned (.tuple #[.agg (cnCells {writeC c ps s with pa:=some ⟨g,0,none⟩,pc:=cp}),.int .i64 (writeM c ps s)])∧Held shP w' w.heap.size g c.pn cp ps∧Since w w':=by
 refine (implWrite {c with pa:=a,pc:=p} ps s hs (good_at gc _ _) w R).mono ?_
 rintro e w' ⟨g,h,H,k⟩
 refine ⟨g,c.pn,h.trans ?_,H,k⟩
 rw [write_at,← write_is]
 rfl

theorem sClose {c:Cn} {ps:List (Int×ByteArray)} (gc:GoodC c ps) (q p:Nat) (w:World) (R:Rd shP w (some ⟨q,0,none⟩) c.pn ps) :
  Calls Tryz.prog 57 #[.agg (cnCells {c with pa:=some ⟨q,0,none⟩,pc:=p})] w fun e w'=>∃ g cp,e=.returned (.agg (cnCells {closeC c ps with pa:=some ⟨g,0,none⟩,pc:=cp}))∧Held shP w' w.heap.size g c.pn cp ps∧Since w w':=by
 refine (specClose {c with pa:=some ⟨q,0,none⟩,pc:=p} ps (good_at gc _ _) (fun h=>by cases h) w R).mono ?_
 rintro e w' ⟨g,cp,h,H,k⟩
 refine ⟨g,cp,h.trans ?_,H,k⟩
 rw [close_at]
 rfl

theorem iClose {c:Cn} {ps:List (Int×ByteArray)} (gc:GoodC c ps) (a:Option Addr) (p:Nat) (w:World) (R:Rd shP w a c.pn ps) :
  Calls Tryz.prog 123 #[.agg (cnCells {c with pa:=a,pc:=p})] w fun e w'=>∃ g cp,e=.returned (.agg (cnCells {closeC c ps with pa:=some ⟨g,0,none⟩,pc:=cp}))∧Held shP w' w.heap.size g c.pn cp ps∧Since w w':=by
 refine (implClose {c with pa:=a,pc:=p} ps (good_at gc _ _) w R).mono ?_
 rintro e w' ⟨g,h,H,k⟩
 refine ⟨g,c.pn,h.trans ?_,H,k⟩
 rw [close_at]

theorem sCopy {c:Cn} {ps:List (Int×ByteArray)} (gc:GoodC c ps) (q p:Nat) (w:World) (R:Rd shP w (some ⟨q,0,none⟩) c.pn ps) :
  Calls Tryz.prog 20 #[.agg (cnCells {c with pa:=some ⟨q,0,none⟩,pc:=p})] w fun e w'=>∃ g cp,e=.returned (.agg (cnCells {c with pa:=some ⟨g,0,none⟩,pc:=cp}))∧Held shP w' w.heap.size g c.pn cp ps∧Since w w':=
 specCopied {c with pa:=some ⟨q,0,none⟩,pc:=p} ps (good_at gc _ _) (fun h=>by cases h) w R

theorem iFresh {c:Cn} {ps:List (Int×ByteArray)} (gc:GoodC c ps) (q p:Nat) (w:World) (R:Rd shP w (some ⟨q,0,none⟩) c.pn ps) :
  Calls Tryz.prog 60 #[.agg (cnCells {c with pa:=some ⟨q,0,none⟩,pc:=p})] w fun e w'=>∃ g cp,e=.returned (.agg (cnCells {c with pa:=some ⟨g,0,none⟩,pc:=cp}))∧Held shP w' w.heap.size g c.pn cp ps∧Since w w':=by
 refine (implFresh {c with pa:=some ⟨q,0,none⟩,pc:=p} ps (good_at gc _ _) w R).mono ?_
 rintro e w' ⟨g,h,H,k⟩
 exact ⟨g,c.pn,h,H,k⟩

theorem iOk {c:Cn} {ps:List (Int×ByteArray)} (gc:GoodC c ps) (q p:Nat) (w:World) (R:Rd shP w (some ⟨q,0,none⟩) c.pn ps) :
  Calls Tryz.prog 32 #[.agg (cnCells {c with pa:=some ⟨q,0,none⟩,pc:=p})] w fun e w'=>e=.returned (.bool (connOk c ps))∧Since w w':=
 implConnOk {c with pa:=some ⟨q,0,none⟩,pc:=p} ps (good_at gc _ _) w R

theorem results_3 {fn:Func} {t u v:Tmp} {b b1 b2:Nat} {w:World} {cs:Array Value} {c c':Cn} {hs:cs.size=4} (h:fn.results=#[.cell t 40,.cell u 50,.cell v 50]) (tmps:Array Value) (hp:tmps.getD t undef=.pointer (some ⟨b,0,none⟩)) (hq:tmps.getD u undef=.pointer (some ⟨b1,0,none⟩)) (hr:tmps.getD v undef=.pointer (some ⟨b2,0,none⟩))
  (B:Blk b w cs) (B1:Blk b1 w (cnCells c)) (B2:Blk b2 w (cnCells c')):(results fn tmps).run Tryz.prog w=.ok (.tuple #[.agg cs,.agg (cnCells c),.agg (cnCells c')]) w:=by
 have e:=var_big pp_big hs B
 have e1:=ret_cn B1
 have e2:=ret_cn B2
 have hp':tmps[t]?.getD undef=.pointer (some ⟨b,0,none⟩):=by simpa using hp
 have hq':tmps[u]?.getD undef=.pointer (some ⟨b1,0,none⟩):=by simpa using hq
 have hr':tmps[v]?.getD undef=.pointer (some ⟨b2,0,none⟩):=by simpa using hr
 simp [results,h,hp',hq',hr',asAddr,e,e1,e2]

theorem results_22 {fn:Func} {u v:Tmp} {b1 b2:Nat} {w:World} {c c':Cn} (h:fn.results=#[.cell u 50,.cell v 50]) (tmps:Array Value) (hq:tmps.getD u undef=.pointer (some ⟨b1,0,none⟩)) (hr:tmps.getD v undef=.pointer (some ⟨b2,0,none⟩))
  (B1:Blk b1 w (cnCells c)) (B2:Blk b2 w (cnCells c')):(results fn tmps).run Tryz.prog w=.ok (.tuple #[.agg (cnCells c),.agg (cnCells c')]) w:=by
 have e1:=ret_cn B1
 have e2:=ret_cn B2
 have hq':tmps[u]?.getD undef=.pointer (some ⟨b1,0,none⟩):=by simpa using hq
 have hr':tmps[v]?.getD undef=.pointer (some ⟨b2,0,none⟩):=by simpa using hr
 simp [results,h,hq',hr',asAddr,e1,e2]

def mvOk (r:Int) (d:ByteArray) (n:Int) (F:Cn) (ps:List (Int×ByteArray)) (T:Cn) (qs:List (Int×ByteArray)):Bool:=pipeOk r d n && (connOk F ps && connOk T qs)

def emp (s:ByteArray):Bool:=s.toList == []

def gotD (r:Int) (d:ByteArray) (F:Cn) (ps:List (Int×ByteArray)):ByteArray:=d++readS F ps (r - d.size)

def leftD (r:Int) (d:ByteArray) (F:Cn) (ps:List (Int×ByteArray)) (T:Cn) (qs:List (Int×ByteArray)):ByteArray:=(gotD r d F ps).extract (writeM T qs (gotD r d F ps)) (gotD r d F ps).size

def capP (n:Int) (m:Nat):Int:=if 1000000000<n+m then 1000000000 else n+m

def endE (r:Int) (d:ByteArray) (e:Bool) (F:Cn) (ps:List (Int×ByteArray)):Bool:=if (readC F ps (r - d.size)).gfn && emp (readC F ps (r - d.size)).iD then true else e

def shutT (e:Bool) (d:ByteArray) (T:Cn) (qs:List (Int×ByteArray)):Cn:=if e && emp d then closeC T qs else T

def mvD (r:Int) (d:ByteArray) (n:Int) (F:Cn) (ps:List (Int×ByteArray)) (T:Cn) (qs:List (Int×ByteArray)):ByteArray:=if mvOk r d n F ps T qs then leftD r d F ps T qs else d

def mvE (r:Int) (d:ByteArray) (e:Bool) (n:Int) (F:Cn) (ps:List (Int×ByteArray)) (T:Cn) (qs:List (Int×ByteArray)):Bool:=if mvOk r d n F ps T qs then endE r d e F ps else e

def mvN (r:Int) (d:ByteArray) (n:Int) (F:Cn) (ps:List (Int×ByteArray)) (T:Cn) (qs:List (Int×ByteArray)):Int:=if mvOk r d n F ps T qs then capP n (writeM T qs (gotD r d F ps)) else n

def mvF (r:Int) (d:ByteArray) (n:Int) (F:Cn) (ps:List (Int×ByteArray)) (T:Cn) (qs:List (Int×ByteArray)):Cn:=if mvOk r d n F ps T qs then readC F ps (r - d.size) else F

def mvT (r:Int) (d:ByteArray) (e:Bool) (n:Int) (F:Cn) (ps:List (Int×ByteArray)) (T:Cn) (qs:List (Int×ByteArray)):Cn:=if mvOk r d n F ps T qs then shutT (endE r d e F ps) (leftD r d F ps T qs) (writeC T qs (gotD r d F ps)) qs else T

theorem gotD_size {r:Int} {d:ByteArray} (F:Cn) (ps:List (Int×ByteArray)) (h:d.size≤1000000):(gotD r d F ps).size≤1048576:=by
 have:=readS_size F ps (r - d.size)
 unfold gotD
 simp
 omega
end Go.Proofs.YtnbopjlpemmkcaaGreat
