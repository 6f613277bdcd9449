/-
  What an end does of its own accord: the end, a tick and the segments that go out, in one variable.
  An act: made, segments gathered, an end that is over.
-/
import Derived.Test.YtnbopjlpemmkcaaGreatM15
import Derived.Test.YtnbopjlpemmkcaaGreatM17
import Derived.Test.YtnbopjlpemmkcaaGreatWantP
import Derived.Test.YtnbopjlpemmkcaaGreatFreshC
import Derived.Great.BuildSlice
import Derived.Test.YtnbopjlpemmkcaaGreatVl
import Derived.Test.YtnbopjlpemmkcaaGreatM22
import Derived.Deep.DeepCutAuto
namespace Go.Proofs.YtnbopjlpemmkcaaGreat
open Go.ChangeShapes Go.WideShapes Go.ChangeAt Go.RowKit Go.Deep
set_option linter.unusedVariables false
set_option maxRecDepth 10000
set_option maxRecDepth 10000

def actCells (c:Cn) (now:Int) (sv:Value):Array Value:=#[.int .i64 c.st,.int .u32 c.iss,.int .u32 c.una,.int .u32 c.nxt,.int .u32 c.mx,.int .i64 c.wnd,.int .u32 c.wsq,.int .u32 c.wak,.int .u32 c.oF,.string c.oD,.int .i64 c.oR,.int .u32 c.iN,.string c.iD,.slice c.pa c.pn c.pc,.int .i64 c.iR,.bool c.fin,.bool c.fsn,.int .u32 c.fsq,.bool c.gfn,.bool c.rA,.int .i64 c.rS,.int .i64 c.rV,.int .i64 c.rD,.int .i64 c.cX,.int .i64 c.cT,.int .i64 c.cD,.bool c.cF,.int .u32 c.cR,.bool c.tmg,.int .u32 c.tsq,.int .i64 c.tat,.int .i64 c.agn,.int .i64 c.prb,.int .i64 c.rst,.int .i64 c.trs,.int .i64 c.why,.bool c.owe,.int .i64 now,sv]

theorem act_is (c:Cn) (now:Int) (sv:Value):actCells c now sv=cnCells c++#[.int .i64 now,sv]:=rfl

theorem act_size (c:Cn) (now:Int) (sv:Value):(actCells c now sv).size=39:=rfl

theorem act_end (c:Cn) (now:Int) (sv:Value) (j:Nat) (v:Value) (h:(cnCells c).toList[j]?=some v):(actCells c now sv)[0+j]?=some v:=by
 have hj:j<(cnCells c).toList.length:=(List.getElem?_eq_some_iff.1 h).1
 rw [act_is,Nat.zero_add,Array.getElem?_append_left (by simpa using hj)]
 simpa using h

theorem does_end {op:Oper} {a:Act} {w:World} {R:Value→World→Prop} {b:Nat} {c:Cn} {now:Int} {sv:Value} (B:Blk b w (actCells c now sv)) (x:Operand) (ho:op.op=.load 50 x) (hx:a.eval x=.pointer (some ⟨b,0,none⟩))
  (h:R (.agg (cnCells c)) w):does Tryz.prog op a w R:=
 does_part_load B cn_big x ho 0 hx (cnCells c).toList rfl (act_end c now sv) h

structure Base (B:Nat) (w x:World):Prop where
 le:B≤w.heap.size
 below:Below B w x

theorem Base.refl {B:Nat} {w:World} (h:B≤w.heap.size):Base B w w:=⟨h,Below.refl _ _⟩

theorem Base.size {B:Nat} {w x:World} (h:Base B w x):w.heap.size≤x.heap.size:=h.below.size

theorem Base.trans {B:Nat} {w x y:World} (h:Base B w x) (s:Since x y):Base B w y:=⟨h.le,Below.trans h.below (Below.mono s (Nat.le_trans h.le h.size))⟩

theorem Base.base {B:Nat} {w x y:World} (h:Base B w x) (s:Base B x y):Base B w y:=⟨h.le,Below.trans h.below s.below⟩

theorem Base.touch {B g:Nat} {w x y:World} (h:Base B w x) (t:Touch g x y) (hg:B≤g):Base B w y:=⟨h.le,Touch.below t h.below hg (Nat.le_trans h.le h.size)⟩

theorem Base.since {w x:World} (h:Base w.heap.size w x):Since w x:=h.below

theorem Base.blk {B b:Nat} {w x:World} {cs:Array Value} (h:Base B w x) (k:Blk b w cs) (hb:b<B):Blk b x cs:=
 ⟨Nat.lt_of_lt_of_le k.lt h.size,fun i=>(Below.frozen h.below (p:=⟨b,i,none⟩) hb).trans (k.fz i),fun i=>(Below.cell h.below (p:=⟨b,i,none⟩) hb).trans (k.cell i)⟩

theorem since_base {B:Nat} {w x y:World} (h:Since w x) (k:Base B x y) (hB:w.heap.size≤B):Since w y:=Below.trans h (Below.mono k.below hB)

structure Acts (B g pg:Nat) (now:Int) (ps:List (Int×ByteArray)) (d:Cn) (gs n cap:Nat) (xs:List Sg) (w:World):Prop where
 blk:Blk g w (actCells d now (.slice (some ⟨gs,0,none⟩) n cap))
 list:Held shG w B gs n cap xs
 parts:Held shP w B pg d.pn d.pc ps
 pa:d.pa=some ⟨pg,0,none⟩
 low:B≤g
 n1:g≠gs
 n2:g≠pg
 n3:gs≠pg

def ActsX (B g pg:Nat) (now:Int) (ps:List (Int×ByteArray)) (d:Cn) (xs:List Sg) (w:World):Prop:=∃ gs n cap,Acts B g pg now ps d gs n cap xs w
end Go.Proofs.YtnbopjlpemmkcaaGreat

namespace Go.Proofs.YtnbopjlpemmkcaaGreat
open Go.ChangeShapes Go.WideShapes Go.ChangeAt Go.RowKit
set_option linter.unusedVariables false
set_option maxRecDepth 10000

set_option maxRecDepth 10000 in
theorem run_build1 (s:Sg) (w:World):(Instr.buildSlice 51 1 #[(0,.agg (sgCells s))]).run Tryz.prog w=.ok (.slice (some ⟨w.heap.size,0,none⟩) 1 1) (w.alloc (.cells (sgCells s) 99)):=by kernel_rfl

theorem does_build1 {op:Oper} {a:Act} {w:World} {R:Value→World→Prop} (s:Sg) (x:Operand) (ho:op.op=.buildSlice 51 1 #[(0,x)]) (hx:a.eval x=.agg (sgCells s))
  (h:R (.slice (some ⟨w.heap.size,0,none⟩) 1 1) (w.alloc (.cells (sgCells s) 99))):does Tryz.prog op a w R:=by
 have e:=run_build1 s w
 have e2:(Array.map (fun y:Nat×Operand=>(y.fst,a.eval y.snd)) #[(0,x)])=#[(0,.agg (sgCells s))]:=by simp [hx]
 unfold does execOp
 simp only [ho,e2,Sem.run_bind,e,Result.andThen_ok,Sem.run_pure]
 exact h

set_option maxRecDepth 20000 in
set_option maxHeartbeats 8000000 in
theorem implSends (B g pg:Nat) (now:Int) (ps:List (Int×ByteArray)) (d:Cn) (gs n cap:Nat) (xs:List Sg) (s:Sg) (hb:Nat) (hn:n≤200000) (w:World) (a:Acts B g pg now ps d gs n cap xs w) (Y:Held shG w B hb 1 1 [s]) (hne:g≠hb) :
  Calls Tryz.prog 115 #[.pointer (some ⟨g,0,none⟩),.slice (some ⟨hb,0,none⟩) 1 1] w fun e w'=>e=.returned (.tuple #[])∧ActsX B g pg now ps (d) (xs++[s]) w'∧Base B w w':=by
 obtain ⟨A,L,P,pa,lo,i,j,l⟩:=a
 have hA:=A.lt
 have hL:=L.lt
 have hLo:=L.low'
 have hP:=P.lt
 have hPo:=P.low'
 have G:Base B w w:=Base.refl (by omega)
 have hY:=Y.lt
 go_enter Tryz.func115,Tryz.ntmps115
 refine vR ?_
 refine vV (.pointer (some ⟨g,0,none⟩)) ?_
 refine vV (.pointer (some ⟨g,0,none⟩)) ?_
 refine vV (.pointer (some ⟨g,0,none⟩)) ?_
 refine vV (.pointer (some ⟨g,38,none⟩)) ?_
 refine vD (.slice (some ⟨gs,0,none⟩) n cap) (A.cell 38) ?_
 refine vV (.slice (some ⟨hb,0,none⟩) 1 1) ?_
 refine vA L Y.reads (by unfold maxLen;omega) (by omega) (by have:=G.size;omega) ?_
 intro qb5 qc6 qw1 qL2 qr3 ho
 have qt4:=touch_grownG qr3
 have qL2_o:=L.low'
 have qL2_p:=L.lt
 replace ho:=own_or ho
 replace A:=A.touch qt4 (by omega)
 replace P:=P.touch qt4 (by omega)
 replace G:=G.touch qt4 (by omega)
 have qt4_s:=qt4.size
 have qL2_o2:=qL2.low'
 have qL2_l:=qL2.lt
 clear L Y
 refine vV (.pointer (some ⟨g,0,none⟩)) ?_
 refine vV (.pointer (some ⟨g,38,none⟩)) ?_
 refine sC (actCells d now (.slice (some ⟨qb5,0,none⟩) (n+1) qc6)) A 38 (.slice (some ⟨qb5,0,none⟩) (n+1) qc6) (act_size _ _ _) ?_
 intro qw7 qt8 qB9
 clear A
 replace P:=P.touch qt8 (by omega)
 replace qL2:=qL2.touch qt8 (by omega)
 replace G:=G.touch qt8 (by omega)
 have qt8_s:=qt8.size
 refine vE #[.pointer (some ⟨g,0,none⟩),.slice (some ⟨hb,0,none⟩) 1 1,U,U,.pointer (some ⟨g,0,none⟩),.pointer (some ⟨g,0,none⟩),.pointer (some ⟨g,0,none⟩),.pointer (some ⟨g,38,none⟩),.slice (some ⟨gs,0,none⟩) n cap,.slice (some ⟨hb,0,none⟩) 1 1,.slice (some ⟨qb5,0,none⟩) (n+1) qc6,.pointer (some ⟨g,0,none⟩),.pointer (some ⟨g,38,none⟩)] ?_
 go_wp2_with (fail)
 exact bodyPost_end (v:=.tuple #[]) (results_none rfl _ _ _) rfl ⟨rfl,⟨_,_,_,⟨qB9,qL2,P,pa,lo,(by omega),(by omega),(by omega)⟩⟩,G⟩

set_option maxRecDepth 20000 in
set_option maxHeartbeats 8000000 in
theorem implActOf (c:Cn) (ps:List (Int×ByteArray)) (now:Int) (gc:GoodC c ps) (w:World) (R:Rd shP w c.pa c.pn ps) :
  Calls Tryz.prog 94 #[.agg (cnCells c),.int .i64 now] w fun e w'=>∃ g pg gs,e=.returned (.pointer (some ⟨g,0,none⟩))∧Acts w.heap.size g pg now ps {c with pa:=some ⟨pg,0,none⟩,pc:=c.pn} gs 0 0 [] w'∧Since w w':=by
 have hc:=fun wx Rx=>implFresh c ps gc wx Rx
 unfold cnVal at hc
 have G:=(Since.refl w).alloc (.cells (cnCells c) 50)
 have A:=Blk.new w (cnCells c) 50
 go_enter Tryz.func94,Tryz.ntmps94
 go_upto_region 1 with (fail)
 generalize w.alloc (.cells (cnCells c) 50)=x0 at A G ⊢
 have hA:=A.lt
 refine vR ?_
 refine vB cn_big A (cn_size _) ?_
 refine vC (hc _ (R.since G)) ?_
 rintro _ qw1 ⟨pg,rfl,H,qg2⟩
 refine ⟨_,rfl,?_⟩
 replace A:=A.since qg2
 replace G:=G.trans qg2
 have qg2_s:=qg2.size
 have hH0:=H.low'
 replace H:=H.raise (show w.heap.size≤pg by omega)
 have hH:=H.lt
 refine vV (.int .i64 now) ?_
 refine vW (qw1.alloc (.cells #[] 99)) (.slice (some ⟨qw1.heap.size,0,none⟩) 0 0) ?_
 have qL4:=heldG0 qw1
 have qg5:=(Since.refl qw1).alloc (.cells #[] 99)
 replace A:=A.since qg5
 replace H:=H.since qg5
 replace G:=G.trans qg5
 generalize qw1.alloc (.cells #[] 99)=qw3 at A H G qL4 qg5 ⊢
 have qg5_s:=qg5.size
 have qL4_g:=G.size
 have qL4_l:=qL4.lt
 replace qL4:=qL4.raise (show w.heap.size≤qw1.heap.size by omega)
 refine vF #[.agg (cnCells c),.int .i64 now,.pointer (some ⟨w.heap.size,0,none⟩),U,.pointer none,.agg (cnCells c),.agg (cnCells {c with pa:=some ⟨pg,0,none⟩,pc:=c.pn}),.int .i64 now,.slice (some ⟨qw1.heap.size,0,none⟩) 0 0,U,U] ?_
 refine VL.mk ?_
 refine VL.out ?_
 refine vV (.agg (actCells {c with pa:=some ⟨pg,0,none⟩,pc:=c.pn} now (.slice (some ⟨qw1.heap.size,0,none⟩) 0 0))) ?_
 refine vW (qw3.alloc (.cells (actCells {c with pa:=some ⟨pg,0,none⟩,pc:=c.pn} now (.slice (some ⟨qw1.heap.size,0,none⟩) 0 0)) 144)) (.pointer (some ⟨qw3.heap.size,0,none⟩)) ?_
 have qB7:=Blk.new qw3 (actCells {c with pa:=some ⟨pg,0,none⟩,pc:=c.pn} now (.slice (some ⟨qw1.heap.size,0,none⟩) 0 0)) 144
 have qg8:=(Since.refl qw3).alloc (.cells (actCells {c with pa:=some ⟨pg,0,none⟩,pc:=c.pn} now (.slice (some ⟨qw1.heap.size,0,none⟩) 0 0)) 144)
 replace A:=A.since qg8
 replace H:=H.since qg8
 replace qL4:=qL4.since qg8
 replace G:=G.trans qg8
 generalize qw3.alloc (.cells (actCells {c with pa:=some ⟨pg,0,none⟩,pc:=c.pn} now (.slice (some ⟨qw1.heap.size,0,none⟩) 0 0)) 144)=qw6 at A H qL4 G qB7 qg8 ⊢
 have qB7_l:=qB7.lt
 have qg8_s:=qg8.size
 refine vV (.pointer (some ⟨qw3.heap.size,0,none⟩)) ?_
 refine vE #[.agg (cnCells c),.int .i64 now,.pointer (some ⟨w.heap.size,0,none⟩),U,.pointer (some ⟨qw3.heap.size,0,none⟩),.agg (cnCells c),.agg (cnCells {c with pa:=some ⟨pg,0,none⟩,pc:=c.pn}),.int .i64 now,.slice (some ⟨qw1.heap.size,0,none⟩) 0 0,.agg (actCells {c with pa:=some ⟨pg,0,none⟩,pc:=c.pn} now (.slice (some ⟨qw1.heap.size,0,none⟩) 0 0)),.pointer (some ⟨qw3.heap.size,0,none⟩)] ?_
 go_wp2_with (fail)
 go_ret
 exact ⟨_,_,_,rfl,⟨qB7,qL4,H,rfl,by omega,by omega,by omega,by omega⟩,G⟩

set_option maxRecDepth 20000 in
set_option maxHeartbeats 8000000 in
theorem implFinish (B g pg:Nat) (now:Int) (ps:List (Int×ByteArray)) (d:Cn) (gs n cap:Nat) (xs:List Sg) (why:Int) (w:World) (a:Acts B g pg now ps d gs n cap xs w) :
  Calls Tryz.prog 116 #[.pointer (some ⟨g,0,none⟩),.int .i64 why] w fun e w'=>e=.returned (.tuple #[])∧ActsX B g pg now ps (endC d why) (xs) w'∧Base B w w':=by
 obtain ⟨A,L,P,pa,lo,i,j,l⟩:=a
 have hA:=A.lt
 have hL:=L.lt
 have hLo:=L.low'
 have hP:=P.lt
 have hPo:=P.low'
 have G:Base B w w:=Base.refl (by omega)
 go_enter Tryz.func116,Tryz.ntmps116
 go_upto_region 0 with (fail)
 refine vR ?_
 refine vV (.pointer (some ⟨g,0,none⟩)) ?_
 refine vV (.pointer (some ⟨g,0,none⟩)) ?_
 refine vV (.int .i64 why) ?_
 refine vV (.pointer (some ⟨g,0,none⟩)) ?_
 refine vV (.pointer (some ⟨g,0,none⟩)) ?_
 refine sC (actCells {d with st:=0} now (.slice (some ⟨gs,0,none⟩) n cap)) A 0 (.int .i64 0) (act_size _ _ _) ?_
 intro qw1 qt2 qB3
 clear A
 replace L:=L.touch qt2 (by omega)
 replace P:=P.touch qt2 (by omega)
 replace G:=G.touch qt2 (by omega)
 have qt2_s:=qt2.size
 refine vV (.pointer (some ⟨g,0,none⟩)) ?_
 refine vV (.pointer (some ⟨g,35,none⟩)) ?_
 refine sC (actCells {d with st:=0,why:=why} now (.slice (some ⟨gs,0,none⟩) n cap)) qB3 35 (.int .i64 why) (act_size _ _ _) ?_
 intro qw4 qt5 qB6
 clear qB3
 replace L:=L.touch qt5 (by omega)
 replace P:=P.touch qt5 (by omega)
 replace G:=G.touch qt5 (by omega)
 have qt5_s:=qt5.size
 refine vE #[.pointer (some ⟨g,0,none⟩),.int .i64 why,U,U,.pointer (some ⟨g,0,none⟩),.pointer (some ⟨g,0,none⟩),.int .i64 why,.pointer (some ⟨g,0,none⟩),.pointer (some ⟨g,0,none⟩),.pointer (some ⟨g,0,none⟩),.pointer (some ⟨g,35,none⟩),U,U,U,U,U,U,U,U,U,U,U,U] ?_
 go_upto_region 1 with (fail)
 refine vR ?_
 refine vV (.pointer (some ⟨g,0,none⟩)) ?_
 refine vV (.pointer (some ⟨g,0,none⟩)) ?_
 refine vV (.pointer (some ⟨g,0,none⟩)) ?_
 refine vV (.pointer (some ⟨g,0,none⟩)) ?_
 refine vV (.pointer (some ⟨g,0,none⟩)) ?_
 refine vV (.pointer (some ⟨g,31,none⟩)) ?_
 refine sC (actCells {d with st:=0,why:=why,agn:=0} now (.slice (some ⟨gs,0,none⟩) n cap)) qB6 31 (.int .i64 0) (act_size _ _ _) ?_
 intro qw7 qt8 qB9
 clear qB6
 replace L:=L.touch qt8 (by omega)
 replace P:=P.touch qt8 (by omega)
 replace G:=G.touch qt8 (by omega)
 have qt8_s:=qt8.size
 refine vV (.pointer (some ⟨g,0,none⟩)) ?_
 refine vV (.pointer (some ⟨g,32,none⟩)) ?_
 refine sC (actCells {d with st:=0,why:=why,agn:=0,prb:=0} now (.slice (some ⟨gs,0,none⟩) n cap)) qB9 32 (.int .i64 0) (act_size _ _ _) ?_
 intro qw10 qt11 qB12
 clear qB9
 replace L:=L.touch qt11 (by omega)
 replace P:=P.touch qt11 (by omega)
 replace G:=G.touch qt11 (by omega)
 have qt11_s:=qt11.size
 refine vV (.pointer (some ⟨g,0,none⟩)) ?_
 refine vV (.pointer (some ⟨g,33,none⟩)) ?_
 refine sC (actCells {d with st:=0,why:=why,agn:=0,prb:=0,rst:=0} now (.slice (some ⟨gs,0,none⟩) n cap)) qB12 33 (.int .i64 0) (act_size _ _ _) ?_
 intro qw13 qt14 qB15
 clear qB12
 replace L:=L.touch qt14 (by omega)
 replace P:=P.touch qt14 (by omega)
 replace G:=G.touch qt14 (by omega)
 have qt14_s:=qt14.size
 refine vV (.pointer (some ⟨g,0,none⟩)) ?_
 refine vV (.pointer (some ⟨g,36,none⟩)) ?_
 refine sC (actCells {d with st:=0,why:=why,agn:=0,prb:=0,rst:=0,owe:=false} now (.slice (some ⟨gs,0,none⟩) n cap)) qB15 36 (.bool false) (act_size _ _ _) ?_
 intro qw16 qt17 qB18
 clear qB15
 replace L:=L.touch qt17 (by omega)
 replace P:=P.touch qt17 (by omega)
 replace G:=G.touch qt17 (by omega)
 have qt17_s:=qt17.size
 refine vE #[.pointer (some ⟨g,0,none⟩),.int .i64 why,U,U,.pointer (some ⟨g,0,none⟩),.pointer (some ⟨g,0,none⟩),.int .i64 why,.pointer (some ⟨g,0,none⟩),.pointer (some ⟨g,0,none⟩),.pointer (some ⟨g,0,none⟩),.pointer (some ⟨g,35,none⟩),.pointer (some ⟨g,0,none⟩),.pointer (some ⟨g,0,none⟩),.pointer (some ⟨g,0,none⟩),.pointer (some ⟨g,0,none⟩),.pointer (some ⟨g,0,none⟩),.pointer (some ⟨g,31,none⟩),.pointer (some ⟨g,0,none⟩),.pointer (some ⟨g,32,none⟩),.pointer (some ⟨g,0,none⟩),.pointer (some ⟨g,33,none⟩),.pointer (some ⟨g,0,none⟩),.pointer (some ⟨g,36,none⟩)] ?_
 go_wp2_with (fail)
 exact bodyPost_end (v:=.tuple #[]) (results_none rfl _ _ _) rfl ⟨rfl,⟨_,_,_,⟨qB18,L,P,pa,lo,(by omega),(by omega),(by omega)⟩⟩,G⟩
end Go.Proofs.YtnbopjlpemmkcaaGreat
