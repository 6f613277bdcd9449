/-
  An end that is read from, as impl does it.
-/
import Derived.Test.YtnbopjlpemmkcaaGreatClose11I
import Derived.Test.YtnbopjlpemmkcaaGreatVl
import Derived.Test.YtnbopjlpemmkcaaGreatRead11
import Derived.Test.YtnbopjlpemmkcaaGreatInReadI
import Derived.Test.YtnbopjlpemmkcaaGreatM24
import Derived.Test.YtnbopjlpemmkcaaGreatWantP
import Derived.Deep.DeepCutAuto
namespace Go.Proofs.YtnbopjlpemmkcaaGreat
open Go.ChangeShapes Go.WideShapes Go.ChangeAt Go.RowKit
set_option linter.unusedVariables false
set_option maxRecDepth 10000

def standsB (st:Int):Bool:=!decide (st=0∨st=1∨st=2)

set_option maxRecDepth 20000 in
set_option maxHeartbeats 4000000 in
theorem implStands (c:Cn) (w:World):Calls Tryz.prog 134 #[.agg (cnCells c)] w fun e w'=>e=.returned (.bool (standsB c.st))∧Since w w':=by
 have G:=(Since.refl w).alloc (.cells (cnCells c) 50)
 have B:=Blk.new w (cnCells c) 50
 obtain ⟨v,hv⟩:∃ v,Hid (v=standsB c.st):=⟨_,rfl⟩
 rw [← hv.out]
 go_enter Tryz.func134,Tryz.ntmps134
 go_upto_region 1 with (fail)
 generalize w.alloc (.cells (cnCells c) 50)=x0 at B G ⊢
 have f_st:x0.cell? ⟨w.heap.size,0,none⟩=some (.int .i64 c.st):=B.cell 0
 by_cases h:c.st=0∨c.st=1∨c.st=2
 ·have e:Hid (v=false):=hv.out.trans (by unfold standsB;simp [h])
  rcases h with h|h|h
  all_goals rw [h] at f_st
  all_goals go_wp2_with (fail)
  all_goals go_ret
  all_goals exact ⟨by have:=e.out;subst this;rfl,G⟩
 ·have e:Hid (v=true):=hv.out.trans (by unfold standsB;simp;omega)
  have m0:(c.st != 0)=true:=by simp;omega
  have m1:(c.st != 1)=true:=by simp;omega
  have m2:(c.st != 2)=true:=by simp;omega
  clear h
  go_wp2_with (fail)
  go_ret
  exact ⟨by have:=e.out;subst this;rfl,G⟩

theorem owes_is (st rm:Int) (t:ByteArray):owesR st rm t=(!decide (t=ByteArray.empty) && (decide (rm<100) && standsB st)):=by
 unfold owesR standsB
 by_cases h1:t=ByteArray.empty
 ·simp [h1]
 ·by_cases h2:rm<100
  ·by_cases h3:st=0∨st=1∨st=2
   ·simp [h1,h2,h3];omega
   ·simp [h1,h2,h3];omega
  ·simp [h2]

set_option maxRecDepth 20000 in
set_option maxHeartbeats 8000000 in
theorem implRead (c:Cn) (ps:List (Int×ByteArray)) (n:Int) (hn:IsInt n) (hnil:c.pa=none→c.pc=0) (gc:GoodC c ps) (w:World) (R:Rd shP w c.pa c.pn ps) :
  Calls Tryz.prog 117 #[.agg (cnCells c),.int .i64 n] w fun e w'=>∃ g cp,e=.returned (.tuple #[.agg (cnCells {readC c ps n with pa:=some ⟨g,0,none⟩,pc:=cp}),.string (readS c ps n)])∧Held shP w' w.heap.size g c.pn cp ps∧Since w w':=by
 have hr:=fun wx Rx=>implInRoom c.iN c.iD c.iR c.pa c.pn c.pc ps gc.gd wx Rx
 have hi:=fun wx Rx=>implInRead c.iN c.iD c.iR c.pa c.pn c.pc ps n gc.gd hnil hn wx Rx
 have hst:=fun wx=>implStands c wx
 unfold inVal at hr hi
 obtain ⟨d,hd⟩:∃ d,Hid (d=readC c ps n):=⟨_,rfl⟩
 obtain ⟨v,hv⟩:∃ v,Hid (v=readS c ps n):=⟨_,rfl⟩
 rw [← hd.out,← hv.out]
 obtain ⟨rm,hrm⟩:∃ rm,Hid (rm=inRoomN c.iN c.iD c.iR ps):=⟨_,rfl⟩
 rw [← hrm.out] at hr
 obtain ⟨t,ht⟩:∃ t,Hid (t=readT c.iN c.iD c.iR ps n):=⟨_,rfl⟩
 rw [← ht.out] at hi
 obtain ⟨sb,hsb⟩:∃ q,Hid (q=standsB c.st):=⟨_,rfl⟩
 rw [← hsb.out] at hst
 have hc:=fun wx Rx=>implFresh c ps gc wx Rx
 have hk:=fun wx Rx=>implConnOk c ps gc wx Rx
 have hm:=fun wx=>implMayW c wx
 obtain ⟨q,hq⟩:∃ q,Hid (q=connOk c ps):=⟨_,rfl⟩
 rw [← hq.out] at hk
 obtain ⟨m,hmm⟩:∃ m,Hid (m=mayW c.st):=⟨_,rfl⟩
 rw [← hmm.out] at hm
 unfold cnVal at hc hk
 go_enter Tryz.func117,Tryz.ntmps117
 go_upto_region 1 with (fail)
 rw [cn_zero]
 have G:=((Since.refl w).alloc (.cells (cnCells c) 50)).alloc (.cells (cnCells cnZero) 50)
 have A:=(Blk.new w (cnCells c) 50).since ((Since.refl _).alloc (.cells (cnCells cnZero) 50))
 have Z:=Blk.new (w.alloc (.cells (cnCells c) 50)) (cnCells cnZero) 50
 rw [World.size_alloc] at Z
 generalize (w.alloc (.cells (cnCells c) 50)).alloc (.cells (cnCells cnZero) 50)=x0 at A Z G ⊢
 have hZ:=Z.lt
 refine vR ?_
 refine vB cn_big A (cn_size _) ?_
 refine vC (hc _ (R.since G)) ?_
 rintro _ qw1 ⟨g,rfl,H,qg2⟩
 refine ⟨_,rfl,?_⟩
 replace A:=A.since qg2
 replace Z:=Z.since qg2
 replace G:=G.trans qg2
 have qg2_s:=qg2.size
 have hH0:=H.low'
 replace H:=H.raise (show w.heap.size≤g by omega)
 have hH:=H.lt
 refine vW (qw1.alloc (.cells (cnCells cnZero) 50)) (.pointer (some ⟨qw1.heap.size,0,none⟩)) ?_
 have qB4:=Blk.new qw1 (cnCells cnZero) 50
 have qg5:=(Since.refl qw1).alloc (.cells (cnCells cnZero) 50)
 replace A:=A.since qg5
 replace Z:=Z.since qg5
 replace H:=H.since qg5
 replace G:=G.trans qg5
 generalize qw1.alloc (.cells (cnCells cnZero) 50)=qw3 at A Z H G qB4 qg5 ⊢
 have qB4_l:=qB4.lt
 have qg5_s:=qg5.size
 refine sB (cnCells {c with pa:=some ⟨g,0,none⟩,pc:=c.pn}) cn_big qB4 (cn_size _) (cn_size _) (cn_one _) ?_
 intro qw6 qt7 qB8
 clear qB4
 replace A:=A.touch qt7 (by omega)
 replace Z:=Z.touch qt7 (by omega)
 replace H:=H.touch qt7 (by omega)
 replace G:=since_touch G qt7 (by omega)
 have qt7_s:=qt7.size
 refine vV (.string ⟨#[]⟩) ?_
 refine vE #[.agg (cnCells c),.int .i64 n,.pointer (some ⟨w.heap.size,0,none⟩),undef,.pointer (some ⟨w.heap.size+1,0,none⟩),.string ⟨#[]⟩,.pointer (some ⟨qw1.heap.size,0,none⟩),.string ⟨#[]⟩,.agg (cnCells c),.agg (cnCells {c with pa:=some ⟨g,0,none⟩,pc:=c.pn}),undef,undef,undef,undef,undef,undef,undef,undef,undef,undef,undef,undef,undef,undef,undef,undef,undef,undef,undef,undef,undef,undef,undef,undef,undef,undef,undef,undef] ?_
 go_upto_region 2 with (fail)
 cases q
 case false=>
  refine vR ?_
  refine vB cn_big A (cn_size _) ?_
  refine vK (hk _ (R.since G)) ?_
  intro qw9 qg10
  replace A:=A.since qg10
  replace Z:=Z.since qg10
  replace qB8:=qB8.since qg10
  replace H:=H.since qg10
  replace G:=G.trans qg10
  have qg10_s:=qg10.size
  refine vV (.bool true) ?_
  refine vE #[.agg (cnCells c),.int .i64 n,.pointer (some ⟨w.heap.size,0,none⟩),undef,.pointer (some ⟨w.heap.size+1,0,none⟩),.string ⟨#[]⟩,.pointer (some ⟨qw1.heap.size,0,none⟩),.string ⟨#[]⟩,.agg (cnCells c),.agg (cnCells {c with pa:=some ⟨g,0,none⟩,pc:=c.pn}),.agg (cnCells c),.bool false,.bool true,undef,undef,undef,undef,undef,undef,undef,undef,undef,undef,undef,undef,undef,undef,undef,undef,undef,undef,undef,undef,undef,undef,undef,undef,undef] ?_
  go_upto_region 3 with (fail)
  refine vR ?_
  refine vB cn_big qB8 (cn_size _) ?_
  refine vV (.string ⟨#[]⟩) ?_
  refine sB (cnCells {c with pa:=some ⟨g,0,none⟩,pc:=c.pn}) cn_big Z (cn_size _) (cn_size _) (cn_one _) ?_
  intro qw11 qt12 qB13
  clear Z
  replace A:=A.touch qt12 (by omega)
  replace qB8:=qB8.touch qt12 (by omega)
  replace H:=H.touch qt12 (by omega)
  replace G:=since_touch G qt12 (by omega)
  have qt12_s:=qt12.size
  refine vV (.string ⟨#[]⟩) ?_
  refine vE #[.agg (cnCells c),.int .i64 n,.pointer (some ⟨w.heap.size,0,none⟩),undef,.pointer (some ⟨w.heap.size+1,0,none⟩),.string ⟨#[]⟩,.pointer (some ⟨qw1.heap.size,0,none⟩),.string ⟨#[]⟩,.agg (cnCells c),.agg (cnCells {c with pa:=some ⟨g,0,none⟩,pc:=c.pn}),.agg (cnCells c),.bool false,.bool true,.agg (cnCells {c with pa:=some ⟨g,0,none⟩,pc:=c.pn}),.string ⟨#[]⟩,undef,undef,undef,undef,undef,undef,undef,undef,undef,undef,undef,undef,undef,undef,undef,undef,undef,undef,undef,undef,undef,undef,undef] ?_
  have e:Hid (d=c):=hd.out.trans (by unfold readC;rw [← hq.out];rfl)
  have ev:Hid (v=ByteArray.empty):=hv.out.trans (by unfold readS;rw [← hq.out];rfl)
  go_wp2_with (fail)
  exact bodyPost_ret (results_cn2 (t:=4) (u:=5) rfl _ rfl qB13) rfl ⟨_,_,by rw [e.out,ev.out];rfl,H,G⟩
 case true=>
  refine vR ?_
  refine vB cn_big A (cn_size _) ?_
  refine vK (hk _ (R.since G)) ?_
  intro qw9 qg10
  replace A:=A.since qg10
  replace Z:=Z.since qg10
  replace qB8:=qB8.since qg10
  replace H:=H.since qg10
  replace G:=G.trans qg10
  have qg10_s:=qg10.size
  refine vV (.bool false) ?_
  refine vE #[.agg (cnCells c),.int .i64 n,.pointer (some ⟨w.heap.size,0,none⟩),undef,.pointer (some ⟨w.heap.size+1,0,none⟩),.string ⟨#[]⟩,.pointer (some ⟨qw1.heap.size,0,none⟩),.string ⟨#[]⟩,.agg (cnCells c),.agg (cnCells {c with pa:=some ⟨g,0,none⟩,pc:=c.pn}),.agg (cnCells c),.bool true,.bool false,undef,undef,undef,undef,undef,undef,undef,undef,undef,undef,undef,undef,undef,undef,undef,undef,undef,undef,undef,undef,undef,undef,undef,undef,undef] ?_
  go_upto_region 4 with (fail)
  refine vR ?_
  refine vV (.pointer (some ⟨w.heap.size,11,none⟩)) ?_
  refine vP pIn_big A 11 [.int .u32 c.iN,.string c.iD,.slice c.pa c.pn c.pc,.int .i64 c.iR] ?_
  refine vV (.int .i64 n) ?_
  refine vC (hi _ (R.since G)) ?_
  rintro _ qw11 ⟨g2,cp2,rfl,H2,qg12⟩
  refine ⟨_,rfl,?_⟩
  replace A:=A.since qg12
  replace Z:=Z.since qg12
  replace qB8:=qB8.since qg12
  replace H:=H.since qg12
  replace G:=G.trans qg12
  have qg12_s:=qg12.size
  have hH20:=H2.low'
  replace H2:=H2.raise (show w.heap.size≤g2 by omega)
  have hH2:=H2.lt
  clear H
  refine vV (.tuple #[.agg #[.int .u32 c.iN,.string (readD c.iN c.iD c.iR ps n),.slice (some ⟨g2,0,none⟩) c.pn cp2,.int .i64 c.iR],.string t]) ?_
  refine vV (.agg #[.int .u32 c.iN,.string (readD c.iN c.iD c.iR ps n),.slice (some ⟨g2,0,none⟩) c.pn cp2,.int .i64 c.iR]) ?_
  refine vV (.string t) ?_
  refine vV (.pointer (some ⟨qw1.heap.size,11,none⟩)) ?_
  refine sP (cnCells {c with iN:=c.iN,iD:=(readD c.iN c.iD c.iR ps n),pa:=(some ⟨g2,0,none⟩),pn:=c.pn,pc:=cp2,iR:=c.iR}) pIn_big qB8 11 #[.int .u32 c.iN,.string (readD c.iN c.iD c.iR ps n),.slice (some ⟨g2,0,none⟩) c.pn cp2,.int .i64 c.iR] (cn_size _) (by simp [Value.oneCell']) ?_
  intro qw13 qt14 qB15
  clear qB8
  replace A:=A.touch qt14 (by omega)
  replace Z:=Z.touch qt14 (by omega)
  replace H2:=H2.touch qt14 (by omega)
  replace G:=since_touch G qt14 (by omega)
  have qt14_s:=qt14.size
  refine vV (.string t) ?_
  refine vE #[.agg (cnCells c),.int .i64 n,.pointer (some ⟨w.heap.size,0,none⟩),undef,.pointer (some ⟨w.heap.size+1,0,none⟩),.string ⟨#[]⟩,.pointer (some ⟨qw1.heap.size,0,none⟩),.string t,.agg (cnCells c),.agg (cnCells {c with pa:=some ⟨g,0,none⟩,pc:=c.pn}),.agg (cnCells c),.bool true,.bool false,undef,undef,.tuple #[.agg #[.int .u32 c.iN,.string (readD c.iN c.iD c.iR ps n),.slice (some ⟨g2,0,none⟩) c.pn cp2,.int .i64 c.iR],.string t],.pointer (some ⟨w.heap.size,11,none⟩),.agg #[.int .u32 c.iN,.string c.iD,.slice c.pa c.pn c.pc,.int .i64 c.iR],.int .i64 n,.tuple #[.agg #[.int .u32 c.iN,.string (readD c.iN c.iD c.iR ps n),.slice (some ⟨g2,0,none⟩) c.pn cp2,.int .i64 c.iR],.string t],.agg #[.int .u32 c.iN,.string (readD c.iN c.iD c.iR ps n),.slice (some ⟨g2,0,none⟩) c.pn cp2,.int .i64 c.iR],.string t,.pointer (some ⟨qw1.heap.size,11,none⟩),undef,undef,undef,undef,undef,undef,undef,undef,undef,undef,undef,undef,undef,undef,undef] ?_
  go_upto_region 5 with (fail)
  have hoo:=owes_is c.st rm t
  rw [← hsb.out] at hoo
  replace hoo:Hid _:=hoo
  by_cases h1:t=ByteArray.empty
  case pos=>
   have e0:(t.toList == [])=true:=by rw [h1,ByteArray.toList_eq];rfl
   have how:owesR c.st rm t=false:=hoo.out.trans (by rw [decide_eq_true h1];rfl)
   clear h1
   refine vR ?_
   refine vV (.string t) ?_
   refine vV (.bool false) ?_ (hrun:=by simp [execOp,go_sem,e0])
   refine vV (.bool false) ?_
   refine vS ?_
   refine vS ?_
   refine vS ?_
   refine vS ?_
   refine vV (.bool false) ?_
   refine vV (.bool false) ?_
   refine vS ?_
   refine vS ?_
   refine vV (.bool false) ?_
   refine vE #[.agg (cnCells c),.int .i64 n,.pointer (some ⟨w.heap.size,0,none⟩),undef,.pointer (some ⟨w.heap.size+1,0,none⟩),.string ⟨#[]⟩,.pointer (some ⟨qw1.heap.size,0,none⟩),.string t,.agg (cnCells c),.agg (cnCells {c with pa:=some ⟨g,0,none⟩,pc:=c.pn}),.agg (cnCells c),.bool true,.bool false,undef,undef,.tuple #[.agg #[.int .u32 c.iN,.string (readD c.iN c.iD c.iR ps n),.slice (some ⟨g2,0,none⟩) c.pn cp2,.int .i64 c.iR],.string t],.pointer (some ⟨w.heap.size,11,none⟩),.agg #[.int .u32 c.iN,.string c.iD,.slice c.pa c.pn c.pc,.int .i64 c.iR],.int .i64 n,.tuple #[.agg #[.int .u32 c.iN,.string (readD c.iN c.iD c.iR ps n),.slice (some ⟨g2,0,none⟩) c.pn cp2,.int .i64 c.iR],.string t],.agg #[.int .u32 c.iN,.string (readD c.iN c.iD c.iR ps n),.slice (some ⟨g2,0,none⟩) c.pn cp2,.int .i64 c.iR],.string t,.pointer (some ⟨qw1.heap.size,11,none⟩),.string t,.bool false,.bool false,undef,undef,undef,undef,.bool false,.bool false,undef,undef,.bool false,undef,undef,undef] ?_
   go_upto_region 7 with (fail)
   refine vR ?_
   refine vB cn_big qB15 (cn_size _) ?_
   refine vV (.string t) ?_
   refine sB (cnCells {c with iN:=c.iN,iD:=(readD c.iN c.iD c.iR ps n),pa:=(some ⟨g2,0,none⟩),pn:=c.pn,pc:=cp2,iR:=c.iR}) cn_big Z (cn_size _) (cn_size _) (cn_one _) ?_
   intro qw16 qt17 qB18
   clear Z
   replace A:=A.touch qt17 (by omega)
   replace qB15:=qB15.touch qt17 (by omega)
   replace H2:=H2.touch qt17 (by omega)
   replace G:=since_touch G qt17 (by omega)
   have qt17_s:=qt17.size
   refine vV (.string t) ?_
   refine vE #[.agg (cnCells c),.int .i64 n,.pointer (some ⟨w.heap.size,0,none⟩),undef,.pointer (some ⟨w.heap.size+1,0,none⟩),.string t,.pointer (some ⟨qw1.heap.size,0,none⟩),.string t,.agg (cnCells c),.agg (cnCells {c with pa:=some ⟨g,0,none⟩,pc:=c.pn}),.agg (cnCells c),.bool true,.bool false,undef,undef,.tuple #[.agg #[.int .u32 c.iN,.string (readD c.iN c.iD c.iR ps n),.slice (some ⟨g2,0,none⟩) c.pn cp2,.int .i64 c.iR],.string t],.pointer (some ⟨w.heap.size,11,none⟩),.agg #[.int .u32 c.iN,.string c.iD,.slice c.pa c.pn c.pc,.int .i64 c.iR],.int .i64 n,.tuple #[.agg #[.int .u32 c.iN,.string (readD c.iN c.iD c.iR ps n),.slice (some ⟨g2,0,none⟩) c.pn cp2,.int .i64 c.iR],.string t],.agg #[.int .u32 c.iN,.string (readD c.iN c.iD c.iR ps n),.slice (some ⟨g2,0,none⟩) c.pn cp2,.int .i64 c.iR],.string t,.pointer (some ⟨qw1.heap.size,11,none⟩),.string t,.bool false,.bool false,undef,undef,undef,undef,.bool false,.bool false,undef,undef,.bool false,undef,.agg (cnCells {c with iN:=c.iN,iD:=(readD c.iN c.iD c.iR ps n),pa:=(some ⟨g2,0,none⟩),pn:=c.pn,pc:=cp2,iR:=c.iR}),.string t] ?_
   have e:Hid (d={c with iD:=readD c.iN c.iD c.iR ps n}):=hd.out.trans (by unfold readC;rw [← hq.out,← hrm.out,← ht.out,how];rfl)
   have ev:Hid (v=t):=hv.out.trans (by unfold readS;rw [← hq.out,← ht.out];rfl)
   go_wp2_with (fail)
   exact bodyPost_ret (results_cn2 (t:=4) (u:=5) rfl _ rfl qB18) rfl ⟨_,_,by rw [e.out,ev.out];rfl,H2,G⟩
  case neg=>
   have e0:=text_empty h1
   by_cases h2:rm<100
   case neg=>
    have e1:decide (rm<100)=false:=decide_eq_false h2
    have how:owesR c.st rm t=false:=hoo.out.trans (by rw [e1];simp)
    clear h1
    refine vR ?_
    refine vV (.string t) ?_
    refine vV (.bool true) ?_ (hrun:=by simp [execOp,go_sem,e0])
    refine vV (.bool true) ?_
    refine vV (.pointer (some ⟨w.heap.size,11,none⟩)) ?_
    refine vP pIn_big A 11 [.int .u32 c.iN,.string c.iD,.slice c.pa c.pn c.pc,.int .i64 c.iR] ?_
    refine vK (hr _ (R.since G)) ?_
    intro qw16 qg17
    replace A:=A.since qg17
    replace Z:=Z.since qg17
    replace qB15:=qB15.since qg17
    replace H2:=H2.since qg17
    replace G:=G.trans qg17
    have qg17_s:=qg17.size
    refine vV (.bool false) ?_ (hrun:=by rw [← e1];kernel_rfl)
    refine vV (.bool false) ?_
    refine vV (.bool false) ?_
    refine vS ?_
    refine vS ?_
    refine vV (.bool false) ?_
    refine vE #[.agg (cnCells c),.int .i64 n,.pointer (some ⟨w.heap.size,0,none⟩),undef,.pointer (some ⟨w.heap.size+1,0,none⟩),.string ⟨#[]⟩,.pointer (some ⟨qw1.heap.size,0,none⟩),.string t,.agg (cnCells c),.agg (cnCells {c with pa:=some ⟨g,0,none⟩,pc:=c.pn}),.agg (cnCells c),.bool true,.bool false,undef,undef,.tuple #[.agg #[.int .u32 c.iN,.string (readD c.iN c.iD c.iR ps n),.slice (some ⟨g2,0,none⟩) c.pn cp2,.int .i64 c.iR],.string t],.pointer (some ⟨w.heap.size,11,none⟩),.agg #[.int .u32 c.iN,.string c.iD,.slice c.pa c.pn c.pc,.int .i64 c.iR],.int .i64 n,.tuple #[.agg #[.int .u32 c.iN,.string (readD c.iN c.iD c.iR ps n),.slice (some ⟨g2,0,none⟩) c.pn cp2,.int .i64 c.iR],.string t],.agg #[.int .u32 c.iN,.string (readD c.iN c.iD c.iR ps n),.slice (some ⟨g2,0,none⟩) c.pn cp2,.int .i64 c.iR],.string t,.pointer (some ⟨qw1.heap.size,11,none⟩),.string t,.bool true,.bool true,.pointer (some ⟨w.heap.size,11,none⟩),.agg #[.int .u32 c.iN,.string c.iD,.slice c.pa c.pn c.pc,.int .i64 c.iR],.int .i64 rm,.bool false,.bool false,.bool false,undef,undef,.bool false,undef,undef,undef] ?_
    go_upto_region 7 with (fail)
    refine vR ?_
    refine vB cn_big qB15 (cn_size _) ?_
    refine vV (.string t) ?_
    refine sB (cnCells {c with iN:=c.iN,iD:=(readD c.iN c.iD c.iR ps n),pa:=(some ⟨g2,0,none⟩),pn:=c.pn,pc:=cp2,iR:=c.iR}) cn_big Z (cn_size _) (cn_size _) (cn_one _) ?_
    intro qw18 qt19 qB20
    clear Z
    replace A:=A.touch qt19 (by omega)
    replace qB15:=qB15.touch qt19 (by omega)
    replace H2:=H2.touch qt19 (by omega)
    replace G:=since_touch G qt19 (by omega)
    have qt19_s:=qt19.size
    refine vV (.string t) ?_
    refine vE #[.agg (cnCells c),.int .i64 n,.pointer (some ⟨w.heap.size,0,none⟩),undef,.pointer (some ⟨w.heap.size+1,0,none⟩),.string t,.pointer (some ⟨qw1.heap.size,0,none⟩),.string t,.agg (cnCells c),.agg (cnCells {c with pa:=some ⟨g,0,none⟩,pc:=c.pn}),.agg (cnCells c),.bool true,.bool false,undef,undef,.tuple #[.agg #[.int .u32 c.iN,.string (readD c.iN c.iD c.iR ps n),.slice (some ⟨g2,0,none⟩) c.pn cp2,.int .i64 c.iR],.string t],.pointer (some ⟨w.heap.size,11,none⟩),.agg #[.int .u32 c.iN,.string c.iD,.slice c.pa c.pn c.pc,.int .i64 c.iR],.int .i64 n,.tuple #[.agg #[.int .u32 c.iN,.string (readD c.iN c.iD c.iR ps n),.slice (some ⟨g2,0,none⟩) c.pn cp2,.int .i64 c.iR],.string t],.agg #[.int .u32 c.iN,.string (readD c.iN c.iD c.iR ps n),.slice (some ⟨g2,0,none⟩) c.pn cp2,.int .i64 c.iR],.string t,.pointer (some ⟨qw1.heap.size,11,none⟩),.string t,.bool true,.bool true,.pointer (some ⟨w.heap.size,11,none⟩),.agg #[.int .u32 c.iN,.string c.iD,.slice c.pa c.pn c.pc,.int .i64 c.iR],.int .i64 rm,.bool false,.bool false,.bool false,undef,undef,.bool false,undef,.agg (cnCells {c with iN:=c.iN,iD:=(readD c.iN c.iD c.iR ps n),pa:=(some ⟨g2,0,none⟩),pn:=c.pn,pc:=cp2,iR:=c.iR}),.string t] ?_
    have e:Hid (d={c with iD:=readD c.iN c.iD c.iR ps n}):=hd.out.trans (by unfold readC;rw [← hq.out,← hrm.out,← ht.out,how];rfl)
    have ev:Hid (v=t):=hv.out.trans (by unfold readS;rw [← hq.out,← ht.out];rfl)
    go_wp2_with (fail)
    exact bodyPost_ret (results_cn2 (t:=4) (u:=5) rfl _ rfl qB20) rfl ⟨_,_,by rw [e.out,ev.out];rfl,H2,G⟩
   case pos=>
    have e1:decide (rm<100)=true:=decide_eq_true h2
    cases sb
    case false=>
     have how:owesR c.st rm t=false:=hoo.out.trans (by rw [e1,decide_eq_false h1];rfl)
     clear h1
     refine vR ?_
     refine vV (.string t) ?_
     refine vV (.bool true) ?_ (hrun:=by simp [execOp,go_sem,e0])
     refine vV (.bool true) ?_
     refine vV (.pointer (some ⟨w.heap.size,11,none⟩)) ?_
     refine vP pIn_big A 11 [.int .u32 c.iN,.string c.iD,.slice c.pa c.pn c.pc,.int .i64 c.iR] ?_
     refine vK (hr _ (R.since G)) ?_
     intro qw16 qg17
     replace A:=A.since qg17
     replace Z:=Z.since qg17
     replace qB15:=qB15.since qg17
     replace H2:=H2.since qg17
     replace G:=G.trans qg17
     have qg17_s:=qg17.size
     refine vV (.bool true) ?_ (hrun:=by rw [← e1];kernel_rfl)
     refine vV (.bool true) ?_
     refine vV (.bool true) ?_
     refine vB cn_big A (cn_size _) ?_
     refine vK (hst _) ?_
     intro qw18 qg19
     replace A:=A.since qg19
     replace Z:=Z.since qg19
     replace qB15:=qB15.since qg19
     replace H2:=H2.since qg19
     replace G:=G.trans qg19
     have qg19_s:=qg19.size
     refine vV (.bool false) ?_
     refine vE #[.agg (cnCells c),.int .i64 n,.pointer (some ⟨w.heap.size,0,none⟩),undef,.pointer (some ⟨w.heap.size+1,0,none⟩),.string ⟨#[]⟩,.pointer (some ⟨qw1.heap.size,0,none⟩),.string t,.agg (cnCells c),.agg (cnCells {c with pa:=some ⟨g,0,none⟩,pc:=c.pn}),.agg (cnCells c),.bool true,.bool false,undef,undef,.tuple #[.agg #[.int .u32 c.iN,.string (readD c.iN c.iD c.iR ps n),.slice (some ⟨g2,0,none⟩) c.pn cp2,.int .i64 c.iR],.string t],.pointer (some ⟨w.heap.size,11,none⟩),.agg #[.int .u32 c.iN,.string c.iD,.slice c.pa c.pn c.pc,.int .i64 c.iR],.int .i64 n,.tuple #[.agg #[.int .u32 c.iN,.string (readD c.iN c.iD c.iR ps n),.slice (some ⟨g2,0,none⟩) c.pn cp2,.int .i64 c.iR],.string t],.agg #[.int .u32 c.iN,.string (readD c.iN c.iD c.iR ps n),.slice (some ⟨g2,0,none⟩) c.pn cp2,.int .i64 c.iR],.string t,.pointer (some ⟨qw1.heap.size,11,none⟩),.string t,.bool true,.bool true,.pointer (some ⟨w.heap.size,11,none⟩),.agg #[.int .u32 c.iN,.string c.iD,.slice c.pa c.pn c.pc,.int .i64 c.iR],.int .i64 rm,.bool true,.bool true,.bool true,.agg (cnCells c),.bool false,.bool false,undef,undef,undef] ?_
     go_upto_region 7 with (fail)
     refine vR ?_
     refine vB cn_big qB15 (cn_size _) ?_
     refine vV (.string t) ?_
     refine sB (cnCells {c with iN:=c.iN,iD:=(readD c.iN c.iD c.iR ps n),pa:=(some ⟨g2,0,none⟩),pn:=c.pn,pc:=cp2,iR:=c.iR}) cn_big Z (cn_size _) (cn_size _) (cn_one _) ?_
     intro qw20 qt21 qB22
     clear Z
     replace A:=A.touch qt21 (by omega)
     replace qB15:=qB15.touch qt21 (by omega)
     replace H2:=H2.touch qt21 (by omega)
     replace G:=since_touch G qt21 (by omega)
     have qt21_s:=qt21.size
     refine vV (.string t) ?_
     refine vE #[.agg (cnCells c),.int .i64 n,.pointer (some ⟨w.heap.size,0,none⟩),undef,.pointer (some ⟨w.heap.size+1,0,none⟩),.string t,.pointer (some ⟨qw1.heap.size,0,none⟩),.string t,.agg (cnCells c),.agg (cnCells {c with pa:=some ⟨g,0,none⟩,pc:=c.pn}),.agg (cnCells c),.bool true,.bool false,undef,undef,.tuple #[.agg #[.int .u32 c.iN,.string (readD c.iN c.iD c.iR ps n),.slice (some ⟨g2,0,none⟩) c.pn cp2,.int .i64 c.iR],.string t],.pointer (some ⟨w.heap.size,11,none⟩),.agg #[.int .u32 c.iN,.string c.iD,.slice c.pa c.pn c.pc,.int .i64 c.iR],.int .i64 n,.tuple #[.agg #[.int .u32 c.iN,.string (readD c.iN c.iD c.iR ps n),.slice (some ⟨g2,0,none⟩) c.pn cp2,.int .i64 c.iR],.string t],.agg #[.int .u32 c.iN,.string (readD c.iN c.iD c.iR ps n),.slice (some ⟨g2,0,none⟩) c.pn cp2,.int .i64 c.iR],.string t,.pointer (some ⟨qw1.heap.size,11,none⟩),.string t,.bool true,.bool true,.pointer (some ⟨w.heap.size,11,none⟩),.agg #[.int .u32 c.iN,.string c.iD,.slice c.pa c.pn c.pc,.int .i64 c.iR],.int .i64 rm,.bool true,.bool true,.bool true,.agg (cnCells c),.bool false,.bool false,undef,.agg (cnCells {c with iN:=c.iN,iD:=(readD c.iN c.iD c.iR ps n),pa:=(some ⟨g2,0,none⟩),pn:=c.pn,pc:=cp2,iR:=c.iR}),.string t] ?_
     have e:Hid (d={c with iD:=readD c.iN c.iD c.iR ps n}):=hd.out.trans (by unfold readC;rw [← hq.out,← hrm.out,← ht.out,how];rfl)
     have ev:Hid (v=t):=hv.out.trans (by unfold readS;rw [← hq.out,← ht.out];rfl)
     go_wp2_with (fail)
     exact bodyPost_ret (results_cn2 (t:=4) (u:=5) rfl _ rfl qB22) rfl ⟨_,_,by rw [e.out,ev.out];rfl,H2,G⟩
    case true=>
     have how:owesR c.st rm t=true:=hoo.out.trans (by rw [e1,decide_eq_false h1];rfl)
     clear h1
     refine vR ?_
     refine vV (.string t) ?_
     refine vV (.bool true) ?_ (hrun:=by simp [execOp,go_sem,e0])
     refine vV (.bool true) ?_
     refine vV (.pointer (some ⟨w.heap.size,11,none⟩)) ?_
     refine vP pIn_big A 11 [.int .u32 c.iN,.string c.iD,.slice c.pa c.pn c.pc,.int .i64 c.iR] ?_
     refine vK (hr _ (R.since G)) ?_
     intro qw16 qg17
     replace A:=A.since qg17
     replace Z:=Z.since qg17
     replace qB15:=qB15.since qg17
     replace H2:=H2.since qg17
     replace G:=G.trans qg17
     have qg17_s:=qg17.size
     refine vV (.bool true) ?_ (hrun:=by rw [← e1];kernel_rfl)
     refine vV (.bool true) ?_
     refine vV (.bool true) ?_
     refine vB cn_big A (cn_size _) ?_
     refine vK (hst _) ?_
     intro qw18 qg19
     replace A:=A.since qg19
     replace Z:=Z.since qg19
     replace qB15:=qB15.since qg19
     replace H2:=H2.since qg19
     replace G:=G.trans qg19
     have qg19_s:=qg19.size
     refine vV (.bool true) ?_
     refine vE #[.agg (cnCells c),.int .i64 n,.pointer (some ⟨w.heap.size,0,none⟩),undef,.pointer (some ⟨w.heap.size+1,0,none⟩),.string ⟨#[]⟩,.pointer (some ⟨qw1.heap.size,0,none⟩),.string t,.agg (cnCells c),.agg (cnCells {c with pa:=some ⟨g,0,none⟩,pc:=c.pn}),.agg (cnCells c),.bool true,.bool false,undef,undef,.tuple #[.agg #[.int .u32 c.iN,.string (readD c.iN c.iD c.iR ps n),.slice (some ⟨g2,0,none⟩) c.pn cp2,.int .i64 c.iR],.string t],.pointer (some ⟨w.heap.size,11,none⟩),.agg #[.int .u32 c.iN,.string c.iD,.slice c.pa c.pn c.pc,.int .i64 c.iR],.int .i64 n,.tuple #[.agg #[.int .u32 c.iN,.string (readD c.iN c.iD c.iR ps n),.slice (some ⟨g2,0,none⟩) c.pn cp2,.int .i64 c.iR],.string t],.agg #[.int .u32 c.iN,.string (readD c.iN c.iD c.iR ps n),.slice (some ⟨g2,0,none⟩) c.pn cp2,.int .i64 c.iR],.string t,.pointer (some ⟨qw1.heap.size,11,none⟩),.string t,.bool true,.bool true,.pointer (some ⟨w.heap.size,11,none⟩),.agg #[.int .u32 c.iN,.string c.iD,.slice c.pa c.pn c.pc,.int .i64 c.iR],.int .i64 rm,.bool true,.bool true,.bool true,.agg (cnCells c),.bool true,.bool true,undef,undef,undef] ?_
     go_upto_region 6 with (fail)
     refine vR ?_
     refine vV (.pointer (some ⟨qw1.heap.size,36,none⟩)) ?_
     refine sC (cnCells {c with iN:=c.iN,iD:=(readD c.iN c.iD c.iR ps n),pa:=(some ⟨g2,0,none⟩),pn:=c.pn,pc:=cp2,iR:=c.iR,owe:=true}) qB15 36 (.bool true) (cn_size _) ?_
     intro qw20 qt21 qB22
     clear qB15
     replace A:=A.touch qt21 (by omega)
     replace Z:=Z.touch qt21 (by omega)
     replace H2:=H2.touch qt21 (by omega)
     replace G:=since_touch G qt21 (by omega)
     have qt21_s:=qt21.size
     refine vE #[.agg (cnCells c),.int .i64 n,.pointer (some ⟨w.heap.size,0,none⟩),undef,.pointer (some ⟨w.heap.size+1,0,none⟩),.string ⟨#[]⟩,.pointer (some ⟨qw1.heap.size,0,none⟩),.string t,.agg (cnCells c),.agg (cnCells {c with pa:=some ⟨g,0,none⟩,pc:=c.pn}),.agg (cnCells c),.bool true,.bool false,undef,undef,.tuple #[.agg #[.int .u32 c.iN,.string (readD c.iN c.iD c.iR ps n),.slice (some ⟨g2,0,none⟩) c.pn cp2,.int .i64 c.iR],.string t],.pointer (some ⟨w.heap.size,11,none⟩),.agg #[.int .u32 c.iN,.string c.iD,.slice c.pa c.pn c.pc,.int .i64 c.iR],.int .i64 n,.tuple #[.agg #[.int .u32 c.iN,.string (readD c.iN c.iD c.iR ps n),.slice (some ⟨g2,0,none⟩) c.pn cp2,.int .i64 c.iR],.string t],.agg #[.int .u32 c.iN,.string (readD c.iN c.iD c.iR ps n),.slice (some ⟨g2,0,none⟩) c.pn cp2,.int .i64 c.iR],.string t,.pointer (some ⟨qw1.heap.size,11,none⟩),.string t,.bool true,.bool true,.pointer (some ⟨w.heap.size,11,none⟩),.agg #[.int .u32 c.iN,.string c.iD,.slice c.pa c.pn c.pc,.int .i64 c.iR],.int .i64 rm,.bool true,.bool true,.bool true,.agg (cnCells c),.bool true,.bool true,.pointer (some ⟨qw1.heap.size,36,none⟩),undef,undef] ?_
     go_upto_region 7 with (fail)
     refine vR ?_
     refine vB cn_big qB22 (cn_size _) ?_
     refine vV (.string t) ?_
     refine sB (cnCells {c with iN:=c.iN,iD:=(readD c.iN c.iD c.iR ps n),pa:=(some ⟨g2,0,none⟩),pn:=c.pn,pc:=cp2,iR:=c.iR,owe:=true}) cn_big Z (cn_size _) (cn_size _) (cn_one _) ?_
     intro qw23 qt24 qB25
     clear Z
     replace A:=A.touch qt24 (by omega)
     replace qB22:=qB22.touch qt24 (by omega)
     replace H2:=H2.touch qt24 (by omega)
     replace G:=since_touch G qt24 (by omega)
     have qt24_s:=qt24.size
     refine vV (.string t) ?_
     refine vE #[.agg (cnCells c),.int .i64 n,.pointer (some ⟨w.heap.size,0,none⟩),undef,.pointer (some ⟨w.heap.size+1,0,none⟩),.string t,.pointer (some ⟨qw1.heap.size,0,none⟩),.string t,.agg (cnCells c),.agg (cnCells {c with pa:=some ⟨g,0,none⟩,pc:=c.pn}),.agg (cnCells c),.bool true,.bool false,undef,undef,.tuple #[.agg #[.int .u32 c.iN,.string (readD c.iN c.iD c.iR ps n),.slice (some ⟨g2,0,none⟩) c.pn cp2,.int .i64 c.iR],.string t],.pointer (some ⟨w.heap.size,11,none⟩),.agg #[.int .u32 c.iN,.string c.iD,.slice c.pa c.pn c.pc,.int .i64 c.iR],.int .i64 n,.tuple #[.agg #[.int .u32 c.iN,.string (readD c.iN c.iD c.iR ps n),.slice (some ⟨g2,0,none⟩) c.pn cp2,.int .i64 c.iR],.string t],.agg #[.int .u32 c.iN,.string (readD c.iN c.iD c.iR ps n),.slice (some ⟨g2,0,none⟩) c.pn cp2,.int .i64 c.iR],.string t,.pointer (some ⟨qw1.heap.size,11,none⟩),.string t,.bool true,.bool true,.pointer (some ⟨w.heap.size,11,none⟩),.agg #[.int .u32 c.iN,.string c.iD,.slice c.pa c.pn c.pc,.int .i64 c.iR],.int .i64 rm,.bool true,.bool true,.bool true,.agg (cnCells c),.bool true,.bool true,.pointer (some ⟨qw1.heap.size,36,none⟩),.agg (cnCells {c with iN:=c.iN,iD:=(readD c.iN c.iD c.iR ps n),pa:=(some ⟨g2,0,none⟩),pn:=c.pn,pc:=cp2,iR:=c.iR,owe:=true}),.string t] ?_
     have e:Hid (d={c with iD:=readD c.iN c.iD c.iR ps n,owe:=true}):=hd.out.trans (by unfold readC;rw [← hq.out,← hrm.out,← ht.out,how];rfl)
     have ev:Hid (v=t):=hv.out.trans (by unfold readS;rw [← hq.out,← ht.out];rfl)
     go_wp2_with (fail)
     exact bodyPost_ret (results_cn2 (t:=4) (u:=5) rfl _ rfl qB25) rfl ⟨_,_,by rw [e.out,ev.out];rfl,H2,G⟩
end Go.Proofs.YtnbopjlpemmkcaaGreat
