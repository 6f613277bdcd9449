/-
  What spec does to an end: it ends, and it takes the time of an answer.
  An end that gives up, as spec makes it.
-/
import Derived.Test.YtnbopjlpemmkcaaGreatM16
import Derived.Test.YtnbopjlpemmkcaaGreatM6
import Derived.Test.YtnbopjlpemmkcaaGreatM2
import Derived.Test.YtnbopjlpemmkcaaGreatM3
import Derived.Deep.DeepCutAuto
import Derived.Test.YtnbopjlpemmkcaaGreatM15
import Derived.Test.YtnbopjlpemmkcaaGreatCopy11
import Derived.Test.YtnbopjlpemmkcaaGreatInHeldS
import Derived.Test.YtnbopjlpemmkcaaGreatVl
namespace Go.Proofs.YtnbopjlpemmkcaaGreat
open Go.ChangeShapes Go.WideShapes Go.ChangeAt Go.RowKit
set_option linter.unusedVariables false
set_option maxRecDepth 10000

def endC (c:Cn) (y:Int):Cn:={c with st:=0,why:=y,agn:=0,prb:=0,rst:=0,owe:=false}

set_option maxRecDepth 20000 in
set_option maxHeartbeats 4000000 in
theorem specEnd (c:Cn) (y:Int) (w:World) :
  Calls Tryz.prog 53 #[cnVal c,.int .i64 y] w fun e w'=>e=.returned (cnVal (endC c y))∧Since w w':=by
 unfold cnVal
 go_enter Tryz.func53,Tryz.ntmps53
 go_upto_region 1 with (fail)
 rw [cn_zero]
 have A:=(Blk.new w (cnCells c) 50).since ((Since.refl _).alloc (.cells (cnCells cnZero) 50))
 have Z:=Blk.new (w.alloc (.cells (cnCells c) 50)) (cnCells cnZero) 50
 rw [World.size_alloc] at Z
 have G:=((Since.refl w).alloc (.cells (cnCells c) 50)).alloc (.cells (cnCells cnZero) 50)
 generalize (w.alloc (.cells (cnCells c) 50)).alloc (.cells (cnCells cnZero) 50)=w1 at A Z G ⊢
 have f0_st:w1.cell? ⟨w.heap.size,0,none⟩=some (.int .i64 c.st):=A.cell 0
 have z0:=A.fz 0
 obtain ⟨y0,e0,t0,B0⟩:=put_cn (c':={c with st:=0}) A 0 (.int .i64 0) (by decide) rfl
 replace Z:=Z.touch t0 (by omega)
 replace G:=since_touch G t0 (by omega)
 have f1_why:y0.cell? ⟨w.heap.size,35,none⟩=some (.int .i64 c.why):=B0.cell 35
 have z1:=B0.fz 35
 obtain ⟨y1,e1,t1,B1⟩:=put_cn (c':={c with st:=0,why:=y}) B0 35 (.int .i64 y) (by decide) rfl
 replace Z:=Z.touch t1 (by omega)
 replace G:=since_touch G t1 (by omega)
 have f2_agn:y1.cell? ⟨w.heap.size,31,none⟩=some (.int .i64 c.agn):=B1.cell 31
 have z2:=B1.fz 31
 obtain ⟨y2,e2,t2,B2⟩:=put_cn (c':={c with st:=0,why:=y,agn:=0}) B1 31 (.int .i64 0) (by decide) rfl
 replace Z:=Z.touch t2 (by omega)
 replace G:=since_touch G t2 (by omega)
 have f3_prb:y2.cell? ⟨w.heap.size,32,none⟩=some (.int .i64 c.prb):=B2.cell 32
 have z3:=B2.fz 32
 obtain ⟨y3,e3,t3,B3⟩:=put_cn (c':={c with st:=0,why:=y,agn:=0,prb:=0}) B2 32 (.int .i64 0) (by decide) rfl
 replace Z:=Z.touch t3 (by omega)
 replace G:=since_touch G t3 (by omega)
 have f4_rst:y3.cell? ⟨w.heap.size,33,none⟩=some (.int .i64 c.rst):=B3.cell 33
 have z4:=B3.fz 33
 obtain ⟨y4,e4,t4,B4⟩:=put_cn (c':={c with st:=0,why:=y,agn:=0,prb:=0,rst:=0}) B3 33 (.int .i64 0) (by decide) rfl
 replace Z:=Z.touch t4 (by omega)
 replace G:=since_touch G t4 (by omega)
 have f5_owe:y4.cell? ⟨w.heap.size,36,none⟩=some (.bool c.owe):=B4.cell 36
 have z5:=B4.fz 36
 obtain ⟨y5,e5,t5,B5⟩:=put_cn (c':={c with st:=0,why:=y,agn:=0,prb:=0,rst:=0,owe:=false}) B4 36 (.bool false) (by decide) rfl
 replace Z:=Z.touch t5 (by omega)
 replace G:=since_touch G t5 (by omega)
 go_upto_region 7 with (fail)
 refine wp_region_lit ?_
 refine load_cn B5 rfl _ rfl rfl ?_
 refine store_cn Z rfl _ _ rfl rfl rfl ?_
 intro z tz Bz
 replace G:=since_touch G tz (by omega)
 go_wp2_with (fail)
 exact bodyPost_ret (results_cn rfl _ rfl Bz) rfl ⟨rfl,G⟩
end Go.Proofs.YtnbopjlpemmkcaaGreat

namespace Go.Proofs.YtnbopjlpemmkcaaGreat
open Go.ChangeShapes Go.WideShapes Go.ChangeAt Go.RowKit
set_option linter.unusedVariables false
set_option maxRecDepth 10000

def abortS (c:Cn) (ps:List (Int×ByteArray)):List Sg:=if connOk c ps && (!decide (c.st=0) && decide (2≤c.st∧c.st≤6)) then [⟨0,0,c.nxt,c.iN,20,0,0,ByteArray.empty⟩] else []

def abortC (c:Cn) (ps:List (Int×ByteArray)):Cn:=if connOk c ps && !decide (c.st=0) then endC c 4 else c

set_option maxRecDepth 20000 in
set_option maxHeartbeats 8000000 in
theorem specAbort (c:Cn) (ps:List (Int×ByteArray)) (gc:GoodC c ps) (hnil:c.pa=none→c.pc=0) (w:World) (R:Rd shP w c.pa c.pn ps) :
  Calls Tryz.prog 23 #[.agg (cnCells c)] w fun e w'=>∃ g cp ga m ca,e=.returned (.tuple #[.agg (cnCells {abortC c ps with pa:=some ⟨g,0,none⟩,pc:=cp}),.slice (some ⟨ga,0,none⟩) m ca])∧Held shP w' w.heap.size g c.pn cp ps∧Held shG w' w.heap.size ga m ca (abortS c ps)∧Since w w':=by
 have hc:=fun wx Rx=>specCopied c ps gc hnil wx Rx
 have hk:=fun g cp wx Rx=>specOkAt c ps gc g cp wx Rx
 have hl:=fun wx=>specIn c.st 2 6 wx
 have he:=fun (g cp:Nat) wx=>specEnd {c with pa:=some ⟨g,0,none⟩,pc:=cp} 4 wx
 obtain ⟨d,hd⟩:∃ d,Hid (d=abortC c ps):=⟨_,rfl⟩
 obtain ⟨sl,hsl⟩:∃ sl,Hid (sl=abortS c ps):=⟨_,rfl⟩
 rw [← hd.out,← hsl.out]
 obtain ⟨q,hq⟩:∃ q,Hid (q=connOk c ps):=⟨_,rfl⟩
 rw [← hq.out] at hk
 obtain ⟨k,hkk⟩:∃ k,Hid (k=decide (2≤c.st∧c.st≤6)):=⟨_,rfl⟩
 rw [← hkk.out] at hl
 unfold cnVal at hc he
 go_enter Tryz.func23,Tryz.ntmps23
 go_upto_region 1 with (fail)
 rw [cn_zero]
 have G:=((Since.refl w).alloc (.cells (cnCells c) 50)).alloc (.cells (cnCells cnZero) 50)
 have A:=(Blk.new w (cnCells c) 50).since ((Since.refl _).alloc (.cells (cnCells cnZero) 50))
 have Z:=Blk.new (w.alloc (.cells (cnCells c) 50)) (cnCells cnZero) 50
 rw [World.size_alloc] at Z
 replace R:=R.since G
 generalize (w.alloc (.cells (cnCells c) 50)).alloc (.cells (cnCells cnZero) 50)=x0 at A Z G R ⊢
 have hZ:=Z.lt
 refine vR ?_
 refine vB cn_big A (cn_size _) ?_
 refine vC (hc _ R) ?_
 rintro _ qw1 ⟨g,cp,rfl,H,qg2⟩
 refine ⟨_,rfl,?_⟩
 replace A:=A.since qg2
 replace Z:=Z.since qg2
 replace R:=R.since qg2
 replace G:=G.trans qg2
 have qg2_s:=qg2.size
 have hH0:=H.low'
 replace H:=H.raise (show w.heap.size≤g by omega)
 have hH:=H.lt
 clear R
 refine sB (cnCells {c with pa:=some ⟨g,0,none⟩,pc:=cp}) cn_big A (cn_size _) (cn_size _) (cn_one _) ?_
 intro qw3 qt4 qB5
 clear A
 replace Z:=Z.touch qt4 (by omega)
 replace H:=H.touch qt4 (by omega)
 replace G:=since_touch G qt4 (by omega)
 have qt4_s:=qt4.size
 refine vE #[.agg (cnCells c),.pointer (some ⟨w.heap.size,0,none⟩),.pointer (some ⟨w.heap.size+1,0,none⟩),.slice none 0 0,U,.agg (cnCells c),.agg (cnCells {c with pa:=some ⟨g,0,none⟩,pc:=cp}),U,U,U,U,U,U,U,U,U,U,U,U,U,U,U,U,U,U,U,U,U,U,U,U,U,U] ?_
 go_upto_region 2 with (fail)
 refine vR ?_
 refine vW (qw3.alloc (.cells #[] 99)) (.slice (some ⟨qw3.heap.size,0,none⟩) 0 0) ?_
 have qL7:=heldG0 qw3
 have qg8:=(Since.refl qw3).alloc (.cells #[] 99)
 replace qB5:=qB5.since qg8
 replace Z:=Z.since qg8
 replace H:=H.since qg8
 replace G:=G.trans qg8
 generalize qw3.alloc (.cells #[] 99)=qw6 at qB5 Z H G qL7 qg8 ⊢
 have qg8_s:=qg8.size
 have qL7_g:=G.size
 have qL7_l:=qL7.lt
 replace qL7:=qL7.raise (show w.heap.size≤qw3.heap.size by omega)
 refine vV (.slice (some ⟨qw3.heap.size,0,none⟩) 0 0) ?_
 refine vE #[.agg (cnCells c),.pointer (some ⟨w.heap.size,0,none⟩),.pointer (some ⟨w.heap.size+1,0,none⟩),.slice none 0 0,.slice (some ⟨qw3.heap.size,0,none⟩) 0 0,.agg (cnCells c),.agg (cnCells {c with pa:=some ⟨g,0,none⟩,pc:=cp}),.slice (some ⟨qw3.heap.size,0,none⟩) 0 0,U,U,U,U,U,U,U,U,U,U,U,U,U,U,U,U,U,U,U,U,U,U,U,U,U] ?_
 go_upto_region 3 with (fail)
 cases q
 case false=>
  refine vR ?_
  refine vB cn_big qB5 (cn_size _) ?_
  refine vK (hk g cp _ H.reads) ?_
  intro qw9 qg10
  replace qB5:=qB5.since qg10
  replace Z:=Z.since qg10
  replace H:=H.since qg10
  replace qL7:=qL7.since qg10
  replace G:=G.trans qg10
  have qg10_s:=qg10.size
  refine vV (.bool true) ?_
  refine vV (.bool true) ?_
  refine vS ?_
  refine vS ?_
  refine vS ?_
  refine vV (.bool true) ?_
  refine vE #[.agg (cnCells c),.pointer (some ⟨w.heap.size,0,none⟩),.pointer (some ⟨w.heap.size+1,0,none⟩),.slice none 0 0,.slice (some ⟨qw3.heap.size,0,none⟩) 0 0,.agg (cnCells c),.agg (cnCells {c with pa:=some ⟨g,0,none⟩,pc:=cp}),.slice (some ⟨qw3.heap.size,0,none⟩) 0 0,.agg (cnCells {c with pa:=some ⟨g,0,none⟩,pc:=cp}),.bool false,.bool true,.bool true,U,U,U,.bool true,U,U,U,U,U,U,U,U,U,U,U,U,U,U,U,U,U] ?_
  go_upto_region 4 with (fail)
  refine vR ?_
  refine vB cn_big qB5 (cn_size _) ?_
  refine vV (.slice (some ⟨qw3.heap.size,0,none⟩) 0 0) ?_
  refine sB (cnCells {c with pa:=some ⟨g,0,none⟩,pc:=cp}) cn_big Z (cn_size _) (cn_size _) (cn_one _) ?_
  intro qw11 qt12 qB13
  clear Z
  replace qB5:=qB5.touch qt12 (by omega)
  replace H:=H.touch qt12 (by omega)
  replace qL7:=qL7.touch qt12 (by omega)
  replace G:=since_touch G qt12 (by omega)
  have qt12_s:=qt12.size
  refine vV (.slice (some ⟨qw3.heap.size,0,none⟩) 0 0) ?_
  refine vE #[.agg (cnCells c),.pointer (some ⟨w.heap.size,0,none⟩),.pointer (some ⟨w.heap.size+1,0,none⟩),.slice (some ⟨qw3.heap.size,0,none⟩) 0 0,.slice (some ⟨qw3.heap.size,0,none⟩) 0 0,.agg (cnCells c),.agg (cnCells {c with pa:=some ⟨g,0,none⟩,pc:=cp}),.slice (some ⟨qw3.heap.size,0,none⟩) 0 0,.agg (cnCells {c with pa:=some ⟨g,0,none⟩,pc:=cp}),.bool false,.bool true,.bool true,U,U,U,.bool true,.agg (cnCells {c with pa:=some ⟨g,0,none⟩,pc:=cp}),.slice (some ⟨qw3.heap.size,0,none⟩) 0 0,U,U,U,U,U,U,U,U,U,U,U,U,U,U,U] ?_
  go_wp2_with (fail)
  exact bodyPost_ret (results_cn2 (t:=2) (u:=3) rfl _ rfl qB13) rfl ⟨_,_,_,_,_,by rw [hd.out];unfold abortC;rw [← hq.out];rfl,H,by rw [hsl.out];unfold abortS;rw [← hq.out];exact qL7,G⟩
 case true=>
 by_cases h0:c.st=0
 all_goals replace h0:Hid _:=h0
 case pos=>
  refine vR ?_
  refine vB cn_big qB5 (cn_size _) ?_
  refine vK (hk g cp _ H.reads) ?_
  intro qw9 qg10
  replace qB5:=qB5.since qg10
  replace Z:=Z.since qg10
  replace H:=H.since qg10
  replace qL7:=qL7.since qg10
  replace G:=G.trans qg10
  have qg10_s:=qg10.size
  refine vV (.bool false) ?_
  refine vV (.bool false) ?_
  refine vV (.pointer (some ⟨w.heap.size,0,none⟩)) ?_
  refine vD (.int .i64 0) ((qB5.cell 0).trans (by show some (.int .i64 c.st:Value)=some (.int .i64 0:Value);rw [h0.out])) ?_
  refine vV (.bool true) ?_
  refine vV (.bool true) ?_
  refine vE #[.agg (cnCells c),.pointer (some ⟨w.heap.size,0,none⟩),.pointer (some ⟨w.heap.size+1,0,none⟩),.slice none 0 0,.slice (some ⟨qw3.heap.size,0,none⟩) 0 0,.agg (cnCells c),.agg (cnCells {c with pa:=some ⟨g,0,none⟩,pc:=cp}),.slice (some ⟨qw3.heap.size,0,none⟩) 0 0,.agg (cnCells {c with pa:=some ⟨g,0,none⟩,pc:=cp}),.bool true,.bool false,.bool false,.pointer (some ⟨w.heap.size,0,none⟩),.int .i64 0,.bool true,.bool true,U,U,U,U,U,U,U,U,U,U,U,U,U,U,U,U,U] ?_
  go_upto_region 4 with (fail)
  refine vR ?_
  refine vB cn_big qB5 (cn_size _) ?_
  refine vV (.slice (some ⟨qw3.heap.size,0,none⟩) 0 0) ?_
  refine sB (cnCells {c with pa:=some ⟨g,0,none⟩,pc:=cp}) cn_big Z (cn_size _) (cn_size _) (cn_one _) ?_
  intro qw11 qt12 qB13
  clear Z
  replace qB5:=qB5.touch qt12 (by omega)
  replace H:=H.touch qt12 (by omega)
  replace qL7:=qL7.touch qt12 (by omega)
  replace G:=since_touch G qt12 (by omega)
  have qt12_s:=qt12.size
  refine vV (.slice (some ⟨qw3.heap.size,0,none⟩) 0 0) ?_
  refine vE #[.agg (cnCells c),.pointer (some ⟨w.heap.size,0,none⟩),.pointer (some ⟨w.heap.size+1,0,none⟩),.slice (some ⟨qw3.heap.size,0,none⟩) 0 0,.slice (some ⟨qw3.heap.size,0,none⟩) 0 0,.agg (cnCells c),.agg (cnCells {c with pa:=some ⟨g,0,none⟩,pc:=cp}),.slice (some ⟨qw3.heap.size,0,none⟩) 0 0,.agg (cnCells {c with pa:=some ⟨g,0,none⟩,pc:=cp}),.bool true,.bool false,.bool false,.pointer (some ⟨w.heap.size,0,none⟩),.int .i64 0,.bool true,.bool true,.agg (cnCells {c with pa:=some ⟨g,0,none⟩,pc:=cp}),.slice (some ⟨qw3.heap.size,0,none⟩) 0 0,U,U,U,U,U,U,U,U,U,U,U,U,U,U,U] ?_
  go_wp2_with (fail)
  exact bodyPost_ret (results_cn2 (t:=2) (u:=3) rfl _ rfl qB13) rfl ⟨_,_,_,_,_,by rw [hd.out];unfold abortC;rw [← hq.out,decide_eq_true h0.out];rfl,H,by rw [hsl.out];unfold abortS;rw [← hq.out,decide_eq_true h0.out];exact qL7,G⟩
 case neg=>
  have hz:Hid (decide (c.st=0)=false):=decide_eq_false h0.out
  refine vR ?_
  refine vB cn_big qB5 (cn_size _) ?_
  refine vK (hk g cp _ H.reads) ?_
  intro qw9 qg10
  replace qB5:=qB5.since qg10
  replace Z:=Z.since qg10
  replace H:=H.since qg10
  replace qL7:=qL7.since qg10
  replace G:=G.trans qg10
  have qg10_s:=qg10.size
  refine vV (.bool false) ?_
  refine vV (.bool false) ?_
  refine vV (.pointer (some ⟨w.heap.size,0,none⟩)) ?_
  refine vD (.int .i64 c.st) (qB5.cell 0) ?_
  refine vV (.bool false) ?_ (hrun:=by rw [← hz.out];kernel_rfl)
  refine vV (.bool false) ?_
  refine vE #[.agg (cnCells c),.pointer (some ⟨w.heap.size,0,none⟩),.pointer (some ⟨w.heap.size+1,0,none⟩),.slice none 0 0,.slice (some ⟨qw3.heap.size,0,none⟩) 0 0,.agg (cnCells c),.agg (cnCells {c with pa:=some ⟨g,0,none⟩,pc:=cp}),.slice (some ⟨qw3.heap.size,0,none⟩) 0 0,.agg (cnCells {c with pa:=some ⟨g,0,none⟩,pc:=cp}),.bool true,.bool false,.bool false,.pointer (some ⟨w.heap.size,0,none⟩),.int .i64 c.st,.bool false,.bool false,U,U,U,U,U,U,U,U,U,U,U,U,U,U,U,U,U] ?_
  go_upto_region 5 with (fail)
  cases k
  case false=>
   refine vR ?_
   refine vV (.pointer (some ⟨w.heap.size,0,none⟩)) ?_
   refine vD (.int .i64 c.st) (qB5.cell 0) ?_
   refine vC (hl _) ?_
   rintro _ _ ⟨rfl,rfl⟩
   refine ⟨_,rfl,?_⟩
   refine vE #[.agg (cnCells c),.pointer (some ⟨w.heap.size,0,none⟩),.pointer (some ⟨w.heap.size+1,0,none⟩),.slice none 0 0,.slice (some ⟨qw3.heap.size,0,none⟩) 0 0,.agg (cnCells c),.agg (cnCells {c with pa:=some ⟨g,0,none⟩,pc:=cp}),.slice (some ⟨qw3.heap.size,0,none⟩) 0 0,.agg (cnCells {c with pa:=some ⟨g,0,none⟩,pc:=cp}),.bool true,.bool false,.bool false,.pointer (some ⟨w.heap.size,0,none⟩),.int .i64 c.st,.bool false,.bool false,U,U,.pointer (some ⟨w.heap.size,0,none⟩),.int .i64 c.st,.bool false,U,U,U,U,U,U,U,U,U,U,U,U] ?_
   go_upto_region 7 with (fail)
   refine vR ?_
   refine vB cn_big qB5 (cn_size _) ?_
   refine vK (he g cp _) ?_
   intro qw11 qg12
   replace qB5:=qB5.since qg12
   replace Z:=Z.since qg12
   replace H:=H.since qg12
   replace qL7:=qL7.since qg12
   replace G:=G.trans qg12
   have qg12_s:=qg12.size
   refine vV (.slice (some ⟨qw3.heap.size,0,none⟩) 0 0) ?_
   refine sB (cnCells (endC {c with pa:=some ⟨g,0,none⟩,pc:=cp} 4)) cn_big Z (cn_size _) (cn_size _) (cn_one _) ?_
   intro qw13 qt14 qB15
   clear Z
   replace qB5:=qB5.touch qt14 (by omega)
   replace H:=H.touch qt14 (by omega)
   replace qL7:=qL7.touch qt14 (by omega)
   replace G:=since_touch G qt14 (by omega)
   have qt14_s:=qt14.size
   refine vV (.slice (some ⟨qw3.heap.size,0,none⟩) 0 0) ?_
   refine vE #[.agg (cnCells c),.pointer (some ⟨w.heap.size,0,none⟩),.pointer (some ⟨w.heap.size+1,0,none⟩),.slice (some ⟨qw3.heap.size,0,none⟩) 0 0,.slice (some ⟨qw3.heap.size,0,none⟩) 0 0,.agg (cnCells c),.agg (cnCells {c with pa:=some ⟨g,0,none⟩,pc:=cp}),.slice (some ⟨qw3.heap.size,0,none⟩) 0 0,.agg (cnCells {c with pa:=some ⟨g,0,none⟩,pc:=cp}),.bool true,.bool false,.bool false,.pointer (some ⟨w.heap.size,0,none⟩),.int .i64 c.st,.bool false,.bool false,U,U,.pointer (some ⟨w.heap.size,0,none⟩),.int .i64 c.st,.bool false,U,U,U,U,U,U,U,U,U,.agg (cnCells {c with pa:=some ⟨g,0,none⟩,pc:=cp}),.agg (cnCells (endC {c with pa:=some ⟨g,0,none⟩,pc:=cp} 4)),.slice (some ⟨qw3.heap.size,0,none⟩) 0 0] ?_
   go_wp2_with (fail)
   exact bodyPost_ret (results_cn2 (t:=2) (u:=3) rfl _ rfl qB15) rfl ⟨_,_,_,_,_,by rw [hd.out];unfold abortC;rw [← hq.out,hz.out];rfl,H,by rw [hsl.out];unfold abortS;rw [← hq.out,hz.out,← hkk.out];exact qL7,G⟩
  case true=>
   refine vR ?_
   refine vV (.pointer (some ⟨w.heap.size,0,none⟩)) ?_
   refine vD (.int .i64 c.st) (qB5.cell 0) ?_
   refine vC (hl _) ?_
   rintro _ _ ⟨rfl,rfl⟩
   refine ⟨_,rfl,?_⟩
   refine vE #[.agg (cnCells c),.pointer (some ⟨w.heap.size,0,none⟩),.pointer (some ⟨w.heap.size+1,0,none⟩),.slice none 0 0,.slice (some ⟨qw3.heap.size,0,none⟩) 0 0,.agg (cnCells c),.agg (cnCells {c with pa:=some ⟨g,0,none⟩,pc:=cp}),.slice (some ⟨qw3.heap.size,0,none⟩) 0 0,.agg (cnCells {c with pa:=some ⟨g,0,none⟩,pc:=cp}),.bool true,.bool false,.bool false,.pointer (some ⟨w.heap.size,0,none⟩),.int .i64 c.st,.bool false,.bool false,U,U,.pointer (some ⟨w.heap.size,0,none⟩),.int .i64 c.st,.bool true,U,U,U,U,U,U,U,U,U,U,U,U] ?_
   go_upto_region 6 with (fail)
   refine vR ?_
   refine vV (.slice (some ⟨qw3.heap.size,0,none⟩) 0 0) ?_
   refine vV (.pointer (some ⟨w.heap.size,3,none⟩)) ?_
   refine vD (.int .u32 c.nxt) (qB5.cell 3) ?_
   refine vV (.pointer (some ⟨w.heap.size,11,none⟩)) ?_
   refine vV (.pointer (some ⟨w.heap.size,11,none⟩)) ?_
   refine vD (.int .u32 c.iN) (qB5.cell 11) ?_
   refine vV (.agg (sgCells ⟨0,0,c.nxt,c.iN,20,0,0,ByteArray.empty⟩)) ?_
   refine vW (qw9.alloc (.cells (sgCells ⟨0,0,c.nxt,c.iN,20,0,0,ByteArray.empty⟩) 99)) (.slice (some ⟨qw9.heap.size,0,none⟩) 1 1) ?_
   have qL12:=heldG1 qw9 (⟨0,0,c.nxt,c.iN,20,0,0,ByteArray.empty⟩)
   have qg13:=(Since.refl qw9).alloc (.cells (sgCells ⟨0,0,c.nxt,c.iN,20,0,0,ByteArray.empty⟩) 99)
   replace qB5:=qB5.since qg13
   replace Z:=Z.since qg13
   replace H:=H.since qg13
   replace qL7:=qL7.since qg13
   replace G:=G.trans qg13
   generalize qw9.alloc (.cells (sgCells ⟨0,0,c.nxt,c.iN,20,0,0,ByteArray.empty⟩) 99)=qw11 at qB5 Z H qL7 G qL12 qg13 ⊢
   have qg13_s:=qg13.size
   have qL12_l:=qL12.lt
   refine vA qL7 qL12.reads (by unfold maxLen;omega) (by omega) (by have:=G.size;omega) ?_
   intro qb18 qc19 qw14 qL15 qr16 ho
   have qt17:=touch_grownG qr16
   have qL15_o:=qL7.low'
   have qL15_p:=qL7.lt
   replace ho:=own_or ho
   replace qB5:=qB5.touch qt17 (by omega)
   replace Z:=Z.touch qt17 (by omega)
   replace H:=H.touch qt17 (by omega)
   replace G:=since_touch G qt17 (by omega)
   have qt17_s:=qt17.size
   have qL15_o2:=qL15.low'
   have qL15_l:=qL15.lt
   clear qL7 qL12
   refine vV (.slice (some ⟨qb18,0,none⟩) (0+1) qc19) ?_
   refine vE #[.agg (cnCells c),.pointer (some ⟨w.heap.size,0,none⟩),.pointer (some ⟨w.heap.size+1,0,none⟩),.slice none 0 0,.slice (some ⟨qb18,0,none⟩) (0+1) qc19,.agg (cnCells c),.agg (cnCells {c with pa:=some ⟨g,0,none⟩,pc:=cp}),.slice (some ⟨qw3.heap.size,0,none⟩) 0 0,.agg (cnCells {c with pa:=some ⟨g,0,none⟩,pc:=cp}),.bool true,.bool false,.bool false,.pointer (some ⟨w.heap.size,0,none⟩),.int .i64 c.st,.bool false,.bool false,U,U,.pointer (some ⟨w.heap.size,0,none⟩),.int .i64 c.st,.bool true,.slice (some ⟨qw3.heap.size,0,none⟩) 0 0,.pointer (some ⟨w.heap.size,3,none⟩),.int .u32 c.nxt,.pointer (some ⟨w.heap.size,11,none⟩),.pointer (some ⟨w.heap.size,11,none⟩),.int .u32 c.iN,.agg (sgCells ⟨0,0,c.nxt,c.iN,20,0,0,ByteArray.empty⟩),.slice (some ⟨qw9.heap.size,0,none⟩) 1 1,.slice (some ⟨qb18,0,none⟩) (0+1) qc19,U,U,U] ?_
   go_upto_region 7 with (fail)
   refine vR ?_
   refine vB cn_big qB5 (cn_size _) ?_
   refine vK (he g cp _) ?_
   intro qw20 qg21
   replace qB5:=qB5.since qg21
   replace Z:=Z.since qg21
   replace H:=H.since qg21
   replace qL15:=qL15.since qg21
   replace G:=G.trans qg21
   have qg21_s:=qg21.size
   refine vV (.slice (some ⟨qb18,0,none⟩) (0+1) qc19) ?_
   refine sB (cnCells (endC {c with pa:=some ⟨g,0,none⟩,pc:=cp} 4)) cn_big Z (cn_size _) (cn_size _) (cn_one _) ?_
   intro qw22 qt23 qB24
   clear Z
   replace qB5:=qB5.touch qt23 (by omega)
   replace H:=H.touch qt23 (by omega)
   replace qL15:=qL15.touch qt23 (by omega)
   replace G:=since_touch G qt23 (by omega)
   have qt23_s:=qt23.size
   refine vV (.slice (some ⟨qb18,0,none⟩) (0+1) qc19) ?_
   refine vE #[.agg (cnCells c),.pointer (some ⟨w.heap.size,0,none⟩),.pointer (some ⟨w.heap.size+1,0,none⟩),.slice (some ⟨qb18,0,none⟩) (0+1) qc19,.slice (some ⟨qb18,0,none⟩) (0+1) qc19,.agg (cnCells c),.agg (cnCells {c with pa:=some ⟨g,0,none⟩,pc:=cp}),.slice (some ⟨qw3.heap.size,0,none⟩) 0 0,.agg (cnCells {c with pa:=some ⟨g,0,none⟩,pc:=cp}),.bool true,.bool false,.bool false,.pointer (some ⟨w.heap.size,0,none⟩),.int .i64 c.st,.bool false,.bool false,U,U,.pointer (some ⟨w.heap.size,0,none⟩),.int .i64 c.st,.bool true,.slice (some ⟨qw3.heap.size,0,none⟩) 0 0,.pointer (some ⟨w.heap.size,3,none⟩),.int .u32 c.nxt,.pointer (some ⟨w.heap.size,11,none⟩),.pointer (some ⟨w.heap.size,11,none⟩),.int .u32 c.iN,.agg (sgCells ⟨0,0,c.nxt,c.iN,20,0,0,ByteArray.empty⟩),.slice (some ⟨qw9.heap.size,0,none⟩) 1 1,.slice (some ⟨qb18,0,none⟩) (0+1) qc19,.agg (cnCells {c with pa:=some ⟨g,0,none⟩,pc:=cp}),.agg (cnCells (endC {c with pa:=some ⟨g,0,none⟩,pc:=cp} 4)),.slice (some ⟨qb18,0,none⟩) (0+1) qc19] ?_
   go_wp2_with (fail)
   exact bodyPost_ret (results_cn2 (t:=2) (u:=3) rfl _ rfl qB24) rfl ⟨_,_,_,_,_,by rw [hd.out];unfold abortC;rw [← hq.out,hz.out];rfl,H,by rw [hsl.out];unfold abortS;rw [← hq.out,hz.out,← hkk.out];exact qL15,G⟩
end Go.Proofs.YtnbopjlpemmkcaaGreat
