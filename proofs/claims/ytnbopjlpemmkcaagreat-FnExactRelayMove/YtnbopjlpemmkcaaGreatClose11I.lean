/-
  What an end may do, and an end that is closed, as impl does it.
-/
import Derived.Test.YtnbopjlpemmkcaaGreatFreshC
import Derived.Test.YtnbopjlpemmkcaaGreatCopy11
import Derived.Test.YtnbopjlpemmkcaaGreatVl
import Derived.Test.YtnbopjlpemmkcaaGreatConnOkI
import Derived.Deep.DeepCutAuto
namespace Go.Proofs.YtnbopjlpemmkcaaGreat
open Go.ChangeShapes Go.WideShapes Go.ChangeAt Go.RowKit
set_option linter.unusedVariables false
set_option maxRecDepth 10000

set_option maxRecDepth 20000 in
set_option maxHeartbeats 4000000 in
theorem implMayW (c:Cn) (w:World):Calls Tryz.prog 135 #[.agg (cnCells c)] w fun e w'=>e=.returned (.bool (mayW c.st))∧Since w w':=by
 have G:=(Since.refl w).alloc (.cells (cnCells c) 50)
 have B:=Blk.new w (cnCells c) 50
 obtain ⟨v,hv⟩:∃ v,Hid (v=mayW c.st):=⟨_,rfl⟩
 rw [← hv.out]
 go_enter Tryz.func135,Tryz.ntmps135
 go_upto_region 1 with (fail)
 generalize w.alloc (.cells (cnCells c) 50)=x0 at B G ⊢
 have f_st:x0.cell? ⟨w.heap.size,0,none⟩=some (.int .i64 c.st):=B.cell 0
 by_cases h:c.st=1∨c.st=2∨c.st=3∨c.st=6
 ·have e:Hid (v=true):=hv.out.trans (by unfold mayW;simp [h])
  rcases h with h|h|h|h
  all_goals rw [h] at f_st
  all_goals go_wp2_with (fail)
  all_goals go_ret
  all_goals exact ⟨by have:=e.out;subst this;rfl,G⟩
 ·have e:Hid (v=false):=hv.out.trans (by unfold mayW;simp;omega)
  have m1:(c.st == 1)=false:=by simp;omega
  have m2:(c.st == 2)=false:=by simp;omega
  have m3:(c.st == 3)=false:=by simp;omega
  have m6:(c.st == 6)=false:=by simp;omega
  clear h
  go_wp2_with (fail)
  go_ret
  exact ⟨by have:=e.out;subst this;rfl,G⟩

set_option maxRecDepth 20000 in
set_option maxHeartbeats 8000000 in
theorem implClose (c:Cn) (ps:List (Int×ByteArray)) (gc:GoodC c ps) (w:World) (R:Rd shP w c.pa c.pn ps) :
  Calls Tryz.prog 123 #[.agg (cnCells c)] w fun e w'=>∃ g,e=.returned (.agg (cnCells {closeC c ps with pa:=some ⟨g,0,none⟩,pc:=c.pn}))∧Held shP w' w.heap.size g c.pn c.pn ps∧Since w w':=by
 obtain ⟨d,hd⟩:∃ d,Hid (d=closeC c ps):=⟨_,rfl⟩
 rw [← hd.out]
 have hc:=fun wx Rx=>implFresh c ps gc wx Rx
 have hk:=fun wx Rx=>implConnOk c ps gc wx Rx
 have hm:=fun wx=>implMayW c wx
 obtain ⟨q,hq⟩:∃ q,Hid (q=connOk c ps):=⟨_,rfl⟩
 rw [← hq.out] at hk
 obtain ⟨m,hmm⟩:∃ m,Hid (m=mayW c.st):=⟨_,rfl⟩
 rw [← hmm.out] at hm
 unfold cnVal at hc hk
 go_enter Tryz.func123,Tryz.ntmps123
 go_upto_region 1 with (fail)
 rw [cn_zero]
 have G:=((Since.refl w).alloc (.cells (cnCells c) 50)).alloc (.cells (cnCells cnZero) 50)
 have A:=(Blk.new w (cnCells c) 50).since ((Since.refl _).alloc (.cells (cnCells cnZero) 50))
 have Z:=Blk.new (w.alloc (.cells (cnCells c) 50)) (cnCells cnZero) 50
 rw [World.size_alloc] at Z
 generalize (w.alloc (.cells (cnCells c) 50)).alloc (.cells (cnCells cnZero) 50)=x0 at A Z G ⊢
 have hZ:=Z.lt
 refine vR ?_
 refine vB cn_big A (cn_size _) ?_
 refine vC (hc _ (R.since G)) ?_
 rintro _ qw1 ⟨g,rfl,H,qg2⟩
 refine ⟨_,rfl,?_⟩
 replace A:=A.since qg2
 replace Z:=Z.since qg2
 replace G:=G.trans qg2
 have qg2_s:=qg2.size
 have hH0:=H.low'
 replace H:=H.raise (show w.heap.size≤g by omega)
 have hH:=H.lt
 refine vW (qw1.alloc (.cells (cnCells cnZero) 50)) (.pointer (some ⟨qw1.heap.size,0,none⟩)) ?_
 have qB4:=Blk.new qw1 (cnCells cnZero) 50
 have qg5:=(Since.refl qw1).alloc (.cells (cnCells cnZero) 50)
 replace A:=A.since qg5
 replace Z:=Z.since qg5
 replace H:=H.since qg5
 replace G:=G.trans qg5
 generalize qw1.alloc (.cells (cnCells cnZero) 50)=qw3 at A Z H G qB4 qg5 ⊢
 have qB4_l:=qB4.lt
 have qg5_s:=qg5.size
 refine sB (cnCells {c with pa:=some ⟨g,0,none⟩,pc:=c.pn}) cn_big qB4 (cn_size _) (cn_size _) (cn_one _) ?_
 intro qw6 qt7 qB8
 clear qB4
 replace A:=A.touch qt7 (by omega)
 replace Z:=Z.touch qt7 (by omega)
 replace H:=H.touch qt7 (by omega)
 replace G:=since_touch G qt7 (by omega)
 have qt7_s:=qt7.size
 refine vE #[.agg (cnCells c),.pointer (some ⟨w.heap.size,0,none⟩),.pointer (some ⟨w.heap.size+1,0,none⟩),.pointer (some ⟨qw1.heap.size,0,none⟩),.agg (cnCells c),.agg (cnCells {c with pa:=some ⟨g,0,none⟩,pc:=c.pn}),undef,undef,undef,undef,undef,undef,undef,undef] ?_
 go_upto_region 2 with (fail)
 cases q
 case false=>
  have e:Hid (d=c):=hd.out.trans (by unfold closeC;rw [← hq.out];rfl)
  refine vR ?_
  refine vB cn_big A (cn_size _) ?_
  refine vK (hk _ (R.since G)) ?_
  intro qw9 qg10
  replace A:=A.since qg10
  replace Z:=Z.since qg10
  replace qB8:=qB8.since qg10
  replace H:=H.since qg10
  replace G:=G.trans qg10
  have qg10_s:=qg10.size
  refine vV (.bool false) ?_
  refine vS ?_
  refine vS ?_
  refine vV (.bool false) ?_
  refine vE #[.agg (cnCells c),.pointer (some ⟨w.heap.size,0,none⟩),.pointer (some ⟨w.heap.size+1,0,none⟩),.pointer (some ⟨qw1.heap.size,0,none⟩),.agg (cnCells c),.agg (cnCells {c with pa:=some ⟨g,0,none⟩,pc:=c.pn}),.agg (cnCells c),.bool false,.bool false,undef,undef,.bool false,undef,undef] ?_
  go_upto_region 4 with (fail)
  refine vR ?_
  refine vB cn_big qB8 (cn_size _) ?_
  refine sB (cnCells {c with pa:=some ⟨g,0,none⟩,pc:=c.pn}) cn_big Z (cn_size _) (cn_size _) (cn_one _) ?_
  intro qw11 qt12 qB13
  clear Z
  replace A:=A.touch qt12 (by omega)
  replace qB8:=qB8.touch qt12 (by omega)
  replace H:=H.touch qt12 (by omega)
  replace G:=since_touch G qt12 (by omega)
  have qt12_s:=qt12.size
  refine vE #[.agg (cnCells c),.pointer (some ⟨w.heap.size,0,none⟩),.pointer (some ⟨w.heap.size+1,0,none⟩),.pointer (some ⟨qw1.heap.size,0,none⟩),.agg (cnCells c),.agg (cnCells {c with pa:=some ⟨g,0,none⟩,pc:=c.pn}),.agg (cnCells c),.bool false,.bool false,undef,undef,.bool false,undef,.agg (cnCells {c with pa:=some ⟨g,0,none⟩,pc:=c.pn})] ?_
  go_wp2_with (fail)
  exact bodyPost_ret (results_cn (t:=2) rfl _ rfl qB13) rfl ⟨_,by rw [e.out],H,G⟩
 case true=>
  cases m
  case false=>
   have e:Hid (d=c):=hd.out.trans (by unfold closeC;rw [← hq.out,← hmm.out];rfl)
   refine vR ?_
   refine vB cn_big A (cn_size _) ?_
   refine vK (hk _ (R.since G)) ?_
   intro qw9 qg10
   replace A:=A.since qg10
   replace Z:=Z.since qg10
   replace qB8:=qB8.since qg10
   replace H:=H.since qg10
   replace G:=G.trans qg10
   have qg10_s:=qg10.size
   refine vV (.bool true) ?_
   refine vB cn_big A (cn_size _) ?_
   refine vK (hm _) ?_
   intro qw11 qg12
   replace A:=A.since qg12
   replace Z:=Z.since qg12
   replace qB8:=qB8.since qg12
   replace H:=H.since qg12
   replace G:=G.trans qg12
   have qg12_s:=qg12.size
   refine vV (.bool false) ?_
   refine vE #[.agg (cnCells c),.pointer (some ⟨w.heap.size,0,none⟩),.pointer (some ⟨w.heap.size+1,0,none⟩),.pointer (some ⟨qw1.heap.size,0,none⟩),.agg (cnCells c),.agg (cnCells {c with pa:=some ⟨g,0,none⟩,pc:=c.pn}),.agg (cnCells c),.bool true,.bool true,.agg (cnCells c),.bool false,.bool false,undef,undef] ?_
   go_upto_region 4 with (fail)
   refine vR ?_
   refine vB cn_big qB8 (cn_size _) ?_
   refine sB (cnCells {c with pa:=some ⟨g,0,none⟩,pc:=c.pn}) cn_big Z (cn_size _) (cn_size _) (cn_one _) ?_
   intro qw13 qt14 qB15
   clear Z
   replace A:=A.touch qt14 (by omega)
   replace qB8:=qB8.touch qt14 (by omega)
   replace H:=H.touch qt14 (by omega)
   replace G:=since_touch G qt14 (by omega)
   have qt14_s:=qt14.size
   refine vE #[.agg (cnCells c),.pointer (some ⟨w.heap.size,0,none⟩),.pointer (some ⟨w.heap.size+1,0,none⟩),.pointer (some ⟨qw1.heap.size,0,none⟩),.agg (cnCells c),.agg (cnCells {c with pa:=some ⟨g,0,none⟩,pc:=c.pn}),.agg (cnCells c),.bool true,.bool true,.agg (cnCells c),.bool false,.bool false,undef,.agg (cnCells {c with pa:=some ⟨g,0,none⟩,pc:=c.pn})] ?_
   go_wp2_with (fail)
   exact bodyPost_ret (results_cn (t:=2) rfl _ rfl qB15) rfl ⟨_,by rw [e.out],H,G⟩
  case true=>
   have e:Hid (d={c with fin:=true}):=hd.out.trans (by unfold closeC;rw [← hq.out,← hmm.out];rfl)
   refine vR ?_
   refine vB cn_big A (cn_size _) ?_
   refine vK (hk _ (R.since G)) ?_
   intro qw9 qg10
   replace A:=A.since qg10
   replace Z:=Z.since qg10
   replace qB8:=qB8.since qg10
   replace H:=H.since qg10
   replace G:=G.trans qg10
   have qg10_s:=qg10.size
   refine vV (.bool true) ?_
   refine vB cn_big A (cn_size _) ?_
   refine vK (hm _) ?_
   intro qw11 qg12
   replace A:=A.since qg12
   replace Z:=Z.since qg12
   replace qB8:=qB8.since qg12
   replace H:=H.since qg12
   replace G:=G.trans qg12
   have qg12_s:=qg12.size
   refine vV (.bool true) ?_
   refine vE #[.agg (cnCells c),.pointer (some ⟨w.heap.size,0,none⟩),.pointer (some ⟨w.heap.size+1,0,none⟩),.pointer (some ⟨qw1.heap.size,0,none⟩),.agg (cnCells c),.agg (cnCells {c with pa:=some ⟨g,0,none⟩,pc:=c.pn}),.agg (cnCells c),.bool true,.bool true,.agg (cnCells c),.bool true,.bool true,undef,undef] ?_
   go_upto_region 3 with (fail)
   refine vR ?_
   refine vV (.pointer (some ⟨qw1.heap.size,15,none⟩)) ?_
   refine sC (cnCells {c with pa:=some ⟨g,0,none⟩,pc:=c.pn,fin:=true}) qB8 15 (.bool true) (cn_size _) ?_
   intro qw13 qt14 qB15
   clear qB8
   replace A:=A.touch qt14 (by omega)
   replace Z:=Z.touch qt14 (by omega)
   replace H:=H.touch qt14 (by omega)
   replace G:=since_touch G qt14 (by omega)
   have qt14_s:=qt14.size
   refine vE #[.agg (cnCells c),.pointer (some ⟨w.heap.size,0,none⟩),.pointer (some ⟨w.heap.size+1,0,none⟩),.pointer (some ⟨qw1.heap.size,0,none⟩),.agg (cnCells c),.agg (cnCells {c with pa:=some ⟨g,0,none⟩,pc:=c.pn}),.agg (cnCells c),.bool true,.bool true,.agg (cnCells c),.bool true,.bool true,.pointer (some ⟨qw1.heap.size,15,none⟩),undef] ?_
   go_upto_region 4 with (fail)
   refine vR ?_
   refine vB cn_big qB15 (cn_size _) ?_
   refine sB (cnCells {c with pa:=some ⟨g,0,none⟩,pc:=c.pn,fin:=true}) cn_big Z (cn_size _) (cn_size _) (cn_one _) ?_
   intro qw16 qt17 qB18
   clear Z
   replace A:=A.touch qt17 (by omega)
   replace qB15:=qB15.touch qt17 (by omega)
   replace H:=H.touch qt17 (by omega)
   replace G:=since_touch G qt17 (by omega)
   have qt17_s:=qt17.size
   refine vE #[.agg (cnCells c),.pointer (some ⟨w.heap.size,0,none⟩),.pointer (some ⟨w.heap.size+1,0,none⟩),.pointer (some ⟨qw1.heap.size,0,none⟩),.agg (cnCells c),.agg (cnCells {c with pa:=some ⟨g,0,none⟩,pc:=c.pn}),.agg (cnCells c),.bool true,.bool true,.agg (cnCells c),.bool true,.bool true,.pointer (some ⟨qw1.heap.size,15,none⟩),.agg (cnCells {c with pa:=some ⟨g,0,none⟩,pc:=c.pn,fin:=true})] ?_
   go_wp2_with (fail)
   exact bodyPost_ret (results_cn (t:=2) rfl _ rfl qB18) rfl ⟨_,by rw [e.out],H,G⟩
end Go.Proofs.YtnbopjlpemmkcaaGreat
