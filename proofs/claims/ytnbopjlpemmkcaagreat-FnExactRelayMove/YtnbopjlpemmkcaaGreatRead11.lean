/-
  An end that is read from, as spec makes it.
-/
import Derived.Test.YtnbopjlpemmkcaaGreatCopy11
import Derived.Test.YtnbopjlpemmkcaaGreatM8
import Derived.Test.YtnbopjlpemmkcaaGreatM20
import Derived.Test.YtnbopjlpemmkcaaGreatInHeldS
import Derived.Test.YtnbopjlpemmkcaaGreatSegTab
import Derived.Test.YtnbopjlpemmkcaaGreatVl
import Derived.Deep.DeepCutAuto
namespace Go.Proofs.YtnbopjlpemmkcaaGreat
open Go.ChangeShapes Go.WideShapes Go.ChangeAt Go.RowKit
set_option linter.unusedVariables false
set_option maxRecDepth 10000

def owesR (st:Int) (room:Int) (t:ByteArray):Bool:=decide (t≠ByteArray.empty∧room<100∧st≠0∧st≠1∧st≠2)

def readC (c:Cn) (ps:List (Int×ByteArray)) (n:Int):Cn:=
 if connOk c ps then (if owesR c.st (inRoomN c.iN c.iD c.iR ps) (readT c.iN c.iD c.iR ps n) then {c with iD:=readD c.iN c.iD c.iR ps n,owe:=true} else {c with iD:=readD c.iN c.iD c.iR ps n}) else c

def readS (c:Cn) (ps:List (Int×ByteArray)) (n:Int):ByteArray:=if connOk c ps then readT c.iN c.iD c.iR ps n else ByteArray.empty

set_option maxRecDepth 20000 in
set_option maxHeartbeats 8000000 in
theorem specRead (c:Cn) (ps:List (Int×ByteArray)) (n:Int) (gc:GoodC c ps) (hnil:c.pa=none→c.pc=0) (hn:IsInt n) (w:World) (R:Rd shP w c.pa c.pn ps) :
  Calls Tryz.prog 54 #[.agg (cnCells c),.int .i64 n] w fun e w'=>∃ g cp,e=.returned (.tuple #[.agg (cnCells {readC c ps n with pa:=some ⟨g,0,none⟩,pc:=cp}),.string (readS c ps n)])∧Held shP w' w.heap.size g c.pn cp ps∧Since w w':=by
 have hc:=fun wx Rx=>specCopied c ps gc hnil wx Rx
 have hk:=fun g cp wx Rx=>specOkAt c ps gc g cp wx Rx
 have hr:=fun (g cp:Nat) wx Rx=>specInRoom c.iN c.iD c.iR (some ⟨g,0,none⟩) c.pn cp ps gc.gd wx Rx
 have hi:=fun (g cp:Nat) wx Rx=>specInRead c.iN c.iD c.iR (some ⟨g,0,none⟩) c.pn cp ps n gc.gd (fun h=>by cases h) hn wx Rx
 obtain ⟨d,hd⟩:∃ d,Hid (d=readC c ps n):=⟨_,rfl⟩
 obtain ⟨v,hv⟩:∃ v,Hid (v=readS c ps n):=⟨_,rfl⟩
 rw [← hd.out,← hv.out]
 obtain ⟨q,hq⟩:∃ q,Hid (q=connOk c ps):=⟨_,rfl⟩
 rw [← hq.out] at hk
 obtain ⟨rm,hrm⟩:∃ rm,Hid (rm=inRoomN c.iN c.iD c.iR ps):=⟨_,rfl⟩
 rw [← hrm.out] at hr
 obtain ⟨t,ht⟩:∃ t,Hid (t=readT c.iN c.iD c.iR ps n):=⟨_,rfl⟩
 rw [← ht.out] at hi
 obtain ⟨ow,how⟩:∃ ow,Hid (ow=owesR c.st rm t):=⟨_,rfl⟩
 unfold cnVal at hc
 unfold inVal at hr hi
 go_enter Tryz.func54,Tryz.ntmps54
 go_upto_region 1 with (fail)
 rw [cn_zero]
 have G:=((Since.refl w).alloc (.cells (cnCells c) 50)).alloc (.cells (cnCells cnZero) 50)
 have A:=(Blk.new w (cnCells c) 50).since ((Since.refl _).alloc (.cells (cnCells cnZero) 50))
 have Z:=Blk.new (w.alloc (.cells (cnCells c) 50)) (cnCells cnZero) 50
 rw [World.size_alloc] at Z
 replace R:=R.since G
 generalize (w.alloc (.cells (cnCells c) 50)).alloc (.cells (cnCells cnZero) 50)=x0 at A Z G R ⊢
 have hZ:=Z.lt
 refine vR ?_
 refine vB cn_big A (cn_size _) ?_
 refine vC (hc _ R) ?_
 rintro _ qw1 ⟨g,cp,rfl,H,qg2⟩
 refine ⟨_,rfl,?_⟩
 replace A:=A.since qg2
 replace Z:=Z.since qg2
 replace R:=R.since qg2
 replace G:=G.trans qg2
 have qg2_s:=qg2.size
 have hH0:=H.low'
 replace H:=H.raise (show w.heap.size≤g by omega)
 have hH:=H.lt
 clear R
 refine sB (cnCells {c with pa:=some ⟨g,0,none⟩,pc:=cp}) cn_big A (cn_size _) (cn_size _) (cn_one _) ?_
 intro qw3 qt4 qB5
 clear A
 replace Z:=Z.touch qt4 (by omega)
 replace H:=H.touch qt4 (by omega)
 replace G:=since_touch G qt4 (by omega)
 have qt4_s:=qt4.size
 refine vE #[.agg (cnCells c),.int .i64 n,.pointer (some ⟨w.heap.size,0,none⟩),undef,.pointer (some ⟨w.heap.size+1,0,none⟩),.string ⟨#[]⟩,undef,undef,undef,.agg (cnCells c),.agg (cnCells {c with pa:=some ⟨g,0,none⟩,pc:=cp}),undef,undef,undef,undef,undef,undef,undef,undef,undef,undef,undef,undef,undef,undef,undef,undef,undef,undef,undef,undef,undef,undef,undef,undef,undef,undef,undef,undef,undef,undef,undef,undef,undef,undef,undef,undef,undef,undef,undef,undef] ?_
 go_upto_region 2 with (fail)
 cases q
 case false=>
  refine vR ?_
  refine vB cn_big qB5 (cn_size _) ?_
  refine vK (hk g cp _ H.reads) ?_
  intro qw6 qg7
  replace qB5:=qB5.since qg7
  replace Z:=Z.since qg7
  replace H:=H.since qg7
  replace G:=G.trans qg7
  have qg7_s:=qg7.size
  refine vV (.bool true) ?_
  refine vE #[.agg (cnCells c),.int .i64 n,.pointer (some ⟨w.heap.size,0,none⟩),undef,.pointer (some ⟨w.heap.size+1,0,none⟩),.string ⟨#[]⟩,undef,undef,undef,.agg (cnCells c),.agg (cnCells {c with pa:=some ⟨g,0,none⟩,pc:=cp}),.agg (cnCells {c with pa:=some ⟨g,0,none⟩,pc:=cp}),.bool false,.bool true,undef,undef,undef,undef,undef,undef,undef,undef,undef,undef,undef,undef,undef,undef,undef,undef,undef,undef,undef,undef,undef,undef,undef,undef,undef,undef,undef,undef,undef,undef,undef,undef,undef,undef,undef,undef,undef] ?_
  go_upto_region 3 with (fail)
  refine vR ?_
  refine vB cn_big qB5 (cn_size _) ?_
  refine sB (cnCells {c with pa:=some ⟨g,0,none⟩,pc:=cp}) cn_big Z (cn_size _) (cn_size _) (cn_one _) ?_
  intro qw8 qt9 qB10
  clear Z
  replace qB5:=qB5.touch qt9 (by omega)
  replace H:=H.touch qt9 (by omega)
  replace G:=since_touch G qt9 (by omega)
  have qt9_s:=qt9.size
  refine vV (.string ⟨#[]⟩) ?_
  refine vE #[.agg (cnCells c),.int .i64 n,.pointer (some ⟨w.heap.size,0,none⟩),undef,.pointer (some ⟨w.heap.size+1,0,none⟩),.string ⟨#[]⟩,undef,undef,undef,.agg (cnCells c),.agg (cnCells {c with pa:=some ⟨g,0,none⟩,pc:=cp}),.agg (cnCells {c with pa:=some ⟨g,0,none⟩,pc:=cp}),.bool false,.bool true,.agg (cnCells {c with pa:=some ⟨g,0,none⟩,pc:=cp}),undef,undef,undef,undef,undef,undef,undef,undef,undef,undef,undef,undef,undef,undef,undef,undef,undef,undef,undef,undef,undef,undef,undef,undef,undef,undef,undef,undef,undef,undef,undef,undef,undef,undef,undef,undef] ?_
  go_wp2_with (fail)
  exact bodyPost_ret (results_cn2 (t:=4) (u:=5) rfl _ rfl qB10) rfl ⟨_,_,by rw [hd.out,hv.out];unfold readC readS;rw [← hq.out];rfl,H,G⟩
 case true=>
  refine vR ?_
  refine vB cn_big qB5 (cn_size _) ?_
  refine vK (hk g cp _ H.reads) ?_
  intro qw6 qg7
  replace qB5:=qB5.since qg7
  replace Z:=Z.since qg7
  replace H:=H.since qg7
  replace G:=G.trans qg7
  have qg7_s:=qg7.size
  refine vV (.bool false) ?_
  refine vE #[.agg (cnCells c),.int .i64 n,.pointer (some ⟨w.heap.size,0,none⟩),undef,.pointer (some ⟨w.heap.size+1,0,none⟩),.string ⟨#[]⟩,undef,undef,undef,.agg (cnCells c),.agg (cnCells {c with pa:=some ⟨g,0,none⟩,pc:=cp}),.agg (cnCells {c with pa:=some ⟨g,0,none⟩,pc:=cp}),.bool true,.bool false,undef,undef,undef,undef,undef,undef,undef,undef,undef,undef,undef,undef,undef,undef,undef,undef,undef,undef,undef,undef,undef,undef,undef,undef,undef,undef,undef,undef,undef,undef,undef,undef,undef,undef,undef,undef,undef] ?_
  go_upto_region 4 with (fail)
  refine vR ?_
  refine vV (.pointer (some ⟨w.heap.size,11,none⟩)) ?_
  refine vP pIn_big qB5 11 [.int .u32 c.iN,.string c.iD,.slice (some ⟨g,0,none⟩) c.pn cp,.int .i64 c.iR] ?_
  refine vK (hr g cp _ H.reads) ?_
  intro qw8 qg9
  replace qB5:=qB5.since qg9
  replace Z:=Z.since qg9
  replace H:=H.since qg9
  replace G:=G.trans qg9
  have qg9_s:=qg9.size
  refine vV (.int .i64 rm) ?_
  refine vE #[.agg (cnCells c),.int .i64 n,.pointer (some ⟨w.heap.size,0,none⟩),undef,.pointer (some ⟨w.heap.size+1,0,none⟩),.string ⟨#[]⟩,.int .i64 rm,undef,undef,.agg (cnCells c),.agg (cnCells {c with pa:=some ⟨g,0,none⟩,pc:=cp}),.agg (cnCells {c with pa:=some ⟨g,0,none⟩,pc:=cp}),.bool true,.bool false,undef,.pointer (some ⟨w.heap.size,11,none⟩),.agg #[.int .u32 c.iN,.string c.iD,.slice (some ⟨g,0,none⟩) c.pn cp,.int .i64 c.iR],.int .i64 rm,undef,undef,undef,undef,undef,undef,undef,undef,undef,undef,undef,undef,undef,undef,undef,undef,undef,undef,undef,undef,undef,undef,undef,undef,undef,undef,undef,undef,undef,undef,undef,undef,undef] ?_
  go_upto_region 5 with (fail)
  refine vR ?_
  refine vV (.pointer (some ⟨w.heap.size,11,none⟩)) ?_
  refine vP pIn_big qB5 11 [.int .u32 c.iN,.string c.iD,.slice (some ⟨g,0,none⟩) c.pn cp,.int .i64 c.iR] ?_
  refine vV (.int .i64 n) ?_
  refine vC (hi g cp _ H.reads) ?_
  rintro _ qw10 ⟨g2,cp2,rfl,H2,qg11⟩
  refine ⟨_,rfl,?_⟩
  replace qB5:=qB5.since qg11
  replace Z:=Z.since qg11
  replace H:=H.since qg11
  replace G:=G.trans qg11
  have qg11_s:=qg11.size
  have hH20:=H2.low'
  replace H2:=H2.raise (show w.heap.size≤g2 by omega)
  have hH2:=H2.lt
  clear H
  refine vV (.tuple #[.agg #[.int .u32 c.iN,.string (readD c.iN c.iD c.iR ps n),.slice (some ⟨g2,0,none⟩) c.pn cp2,.int .i64 c.iR],.string t]) ?_
  refine vV (.agg #[.int .u32 c.iN,.string (readD c.iN c.iD c.iR ps n),.slice (some ⟨g2,0,none⟩) c.pn cp2,.int .i64 c.iR]) ?_
  refine vV (.string t) ?_
  refine vW (qw10.alloc (.cells #[.int .u32 0,.string ByteArray.empty,.slice none 0 0,.int .i64 0] 46)) (.pointer (some ⟨qw10.heap.size,0,none⟩)) ?_
  have qB13:=Blk.new qw10 #[.int .u32 0,.string ByteArray.empty,.slice none 0 0,.int .i64 0] 46
  have qg14:=(Since.refl qw10).alloc (.cells #[.int .u32 0,.string ByteArray.empty,.slice none 0 0,.int .i64 0] 46)
  replace qB5:=qB5.since qg14
  replace Z:=Z.since qg14
  replace H2:=H2.since qg14
  replace G:=G.trans qg14
  generalize qw10.alloc (.cells #[.int .u32 0,.string ByteArray.empty,.slice none 0 0,.int .i64 0] 46)=qw12 at qB5 Z H2 G qB13 qg14 ⊢
  have qB13_l:=qB13.lt
  have qg14_s:=qg14.size
  refine sB #[.int .u32 c.iN,.string (readD c.iN c.iD c.iR ps n),.slice (some ⟨g2,0,none⟩) c.pn cp2,.int .i64 c.iR] pIn_big qB13 rfl rfl (by simp [Value.oneCell']) ?_
  intro qw15 qt16 qB17
  clear qB13
  replace qB5:=qB5.touch qt16 (by omega)
  replace Z:=Z.touch qt16 (by omega)
  replace H2:=H2.touch qt16 (by omega)
  replace G:=since_touch G qt16 (by omega)
  have qt16_s:=qt16.size
  refine vV (.string t) ?_
  refine vE #[.agg (cnCells c),.int .i64 n,.pointer (some ⟨w.heap.size,0,none⟩),undef,.pointer (some ⟨w.heap.size+1,0,none⟩),.string ⟨#[]⟩,.int .i64 rm,.pointer (some ⟨qw10.heap.size,0,none⟩),.string t,.agg (cnCells c),.agg (cnCells {c with pa:=some ⟨g,0,none⟩,pc:=cp}),.agg (cnCells {c with pa:=some ⟨g,0,none⟩,pc:=cp}),.bool true,.bool false,undef,.pointer (some ⟨w.heap.size,11,none⟩),.agg #[.int .u32 c.iN,.string c.iD,.slice (some ⟨g,0,none⟩) c.pn cp,.int .i64 c.iR],.int .i64 rm,.tuple #[.agg #[.int .u32 c.iN,.string (readD c.iN c.iD c.iR ps n),.slice (some ⟨g2,0,none⟩) c.pn cp2,.int .i64 c.iR],.string t],.pointer (some ⟨w.heap.size,11,none⟩),.agg #[.int .u32 c.iN,.string c.iD,.slice (some ⟨g,0,none⟩) c.pn cp,.int .i64 c.iR],.int .i64 n,.tuple #[.agg #[.int .u32 c.iN,.string (readD c.iN c.iD c.iR ps n),.slice (some ⟨g2,0,none⟩) c.pn cp2,.int .i64 c.iR],.string t],.agg #[.int .u32 c.iN,.string (readD c.iN c.iD c.iR ps n),.slice (some ⟨g2,0,none⟩) c.pn cp2,.int .i64 c.iR],.string t,undef,undef,undef,undef,undef,undef,undef,undef,undef,undef,undef,undef,undef,undef,undef,undef,undef,undef,undef,undef,undef,undef,undef,undef,undef,undef] ?_
  go_upto_region 6 with (fail)
  refine vR ?_
  refine vB pIn_big qB17 rfl ?_
  refine vV (.pointer (some ⟨w.heap.size,11,none⟩)) ?_
  refine sP (cnCells {c with iN:=c.iN,iD:=(readD c.iN c.iD c.iR ps n),pa:=(some ⟨g2,0,none⟩),pn:=c.pn,pc:=cp2,iR:=c.iR}) pIn_big qB5 11 #[.int .u32 c.iN,.string (readD c.iN c.iD c.iR ps n),.slice (some ⟨g2,0,none⟩) c.pn cp2,.int .i64 c.iR] (cn_size _) (by simp [Value.oneCell']) ?_
  intro qw18 qt19 qB20
  clear qB5
  replace Z:=Z.touch qt19 (by omega)
  replace qB17:=qB17.touch qt19 (by omega)
  replace H2:=H2.touch qt19 (by omega)
  replace G:=since_touch G qt19 (by omega)
  have qt19_s:=qt19.size
  refine vE #[.agg (cnCells c),.int .i64 n,.pointer (some ⟨w.heap.size,0,none⟩),undef,.pointer (some ⟨w.heap.size+1,0,none⟩),.string ⟨#[]⟩,.int .i64 rm,.pointer (some ⟨qw10.heap.size,0,none⟩),.string t,.agg (cnCells c),.agg (cnCells {c with pa:=some ⟨g,0,none⟩,pc:=cp}),.agg (cnCells {c with pa:=some ⟨g,0,none⟩,pc:=cp}),.bool true,.bool false,undef,.pointer (some ⟨w.heap.size,11,none⟩),.agg #[.int .u32 c.iN,.string c.iD,.slice (some ⟨g,0,none⟩) c.pn cp,.int .i64 c.iR],.int .i64 rm,.tuple #[.agg #[.int .u32 c.iN,.string (readD c.iN c.iD c.iR ps n),.slice (some ⟨g2,0,none⟩) c.pn cp2,.int .i64 c.iR],.string t],.pointer (some ⟨w.heap.size,11,none⟩),.agg #[.int .u32 c.iN,.string c.iD,.slice (some ⟨g,0,none⟩) c.pn cp,.int .i64 c.iR],.int .i64 n,.tuple #[.agg #[.int .u32 c.iN,.string (readD c.iN c.iD c.iR ps n),.slice (some ⟨g2,0,none⟩) c.pn cp2,.int .i64 c.iR],.string t],.agg #[.int .u32 c.iN,.string (readD c.iN c.iD c.iR ps n),.slice (some ⟨g2,0,none⟩) c.pn cp2,.int .i64 c.iR],.string t,.agg #[.int .u32 c.iN,.string (readD c.iN c.iD c.iR ps n),.slice (some ⟨g2,0,none⟩) c.pn cp2,.int .i64 c.iR],.pointer (some ⟨w.heap.size,11,none⟩),undef,undef,undef,undef,undef,undef,undef,undef,undef,undef,undef,undef,undef,undef,undef,undef,undef,undef,undef,undef,undef,undef,undef,undef] ?_
  go_upto_region 7 with (fail)
  have f_st:qw18.cell? ⟨w.heap.size,0,none⟩=some (.int .i64 c.st):=qB20.cell 0
  go_cut [47] (fun v wx=>v=.bool ow∧qw18=wx)
  case first=>
   by_cases h1:t=ByteArray.empty
   case pos=>
    have ho:Hid (ow=false):=how.out.trans (by unfold owesR;simp [h1])
    have e0:(t.toList == [])=true:=by rw [h1,ByteArray.toList_eq];rfl
    clear h1
    go_wp2_with (fail)
    go_meet
    case rel=>exact ⟨by rw [ho.out],rfl⟩
   case neg=>
    have e0:=text_empty h1
    by_cases h2:rm<100
    case neg=>
     have ho:Hid (ow=false):=how.out.trans (by unfold owesR;simp [h2])
     clear h1
     go_wp2_with (fail)
     go_meet
     case rel=>exact ⟨by rw [ho.out],rfl⟩
    case pos=>
     by_cases h3:c.st=0∨c.st=1∨c.st=2
     case pos=>
      have ho:Hid (ow=false):=how.out.trans (by unfold owesR;simp;omega)
      clear h1
      rcases h3 with h3|h3|h3
      all_goals rw [h3] at f_st
      all_goals go_wp2_with (fail)
      all_goals go_meet
      all_goals exact ⟨by rw [ho.out],rfl⟩
     case neg=>
      have ho:Hid (ow=true):=how.out.trans (by unfold owesR;simp;exact ⟨h1,h2,by omega⟩)
      have m0:(c.st != 0)=true:=by simp;omega
      have m1:(c.st != 1)=true:=by simp;omega
      have m2:(c.st != 2)=true:=by simp;omega
      clear h1 h3
      go_wp2_with (fail)
      go_meet
      case rel=>exact ⟨by rw [ho.out],rfl⟩
  case rest=>
  obtain ⟨rfl,rfl⟩:=hcut
  clear f_st
  cases ow
  case false=>
   go_upto_region 9 with (fail)
   refine vR ?_
   refine vB cn_big qB20 (cn_size _) ?_
   refine vV (.string t) ?_
   refine sB (cnCells {c with iN:=c.iN,iD:=(readD c.iN c.iD c.iR ps n),pa:=(some ⟨g2,0,none⟩),pn:=c.pn,pc:=cp2,iR:=c.iR}) cn_big Z (cn_size _) (cn_size _) (cn_one _) ?_
   intro qw21 qt22 qB23
   clear Z
   replace qB20:=qB20.touch qt22 (by omega)
   replace qB17:=qB17.touch qt22 (by omega)
   replace H2:=H2.touch qt22 (by omega)
   replace G:=since_touch G qt22 (by omega)
   have qt22_s:=qt22.size
   refine vV (.string t) ?_
   refine vE #[.agg (cnCells c),.int .i64 n,.pointer (some ⟨w.heap.size,0,none⟩),undef,.pointer (some ⟨w.heap.size+1,0,none⟩),.string t,.int .i64 rm,.pointer (some ⟨qw10.heap.size,0,none⟩),.string t,u9,u10,u11,u12,u13,u14,u15,u16,u17,u18,u19,u20,u21,u22,u23,u24,u25,u26,u27,u28,u29,u30,u31,u32,u33,u34,u35,u36,u37,u38,u39,u40,u41,u42,u43,u44,u45,u46,.bool false,u48,.agg (cnCells {c with iN:=c.iN,iD:=(readD c.iN c.iD c.iR ps n),pa:=(some ⟨g2,0,none⟩),pn:=c.pn,pc:=cp2,iR:=c.iR}),.string t] ?_
   go_wp2_with (fail)
   exact bodyPost_ret (results_cn2 (t:=4) (u:=5) rfl _ rfl qB23) rfl ⟨_,_,by rw [hd.out,hv.out];unfold readC readS;rw [← hq.out,← hrm.out,← ht.out,← how.out];rfl,H2,G⟩
  case true=>
   go_upto_region 8 with (fail)
   refine vR ?_
   refine vV (.pointer (some ⟨w.heap.size,36,none⟩)) ?_
   refine sC (cnCells {c with iN:=c.iN,iD:=(readD c.iN c.iD c.iR ps n),pa:=(some ⟨g2,0,none⟩),pn:=c.pn,pc:=cp2,iR:=c.iR,owe:=true}) qB20 36 (.bool true) (cn_size _) ?_
   intro qw21 qt22 qB23
   clear qB20
   replace Z:=Z.touch qt22 (by omega)
   replace qB17:=qB17.touch qt22 (by omega)
   replace H2:=H2.touch qt22 (by omega)
   replace G:=since_touch G qt22 (by omega)
   have qt22_s:=qt22.size
   refine vE #[.agg (cnCells c),.int .i64 n,.pointer (some ⟨w.heap.size,0,none⟩),undef,.pointer (some ⟨w.heap.size+1,0,none⟩),.string ⟨#[]⟩,.int .i64 rm,.pointer (some ⟨qw10.heap.size,0,none⟩),.string t,u9,u10,u11,u12,u13,u14,u15,u16,u17,u18,u19,u20,u21,u22,u23,u24,u25,u26,u27,u28,u29,u30,u31,u32,u33,u34,u35,u36,u37,u38,u39,u40,u41,u42,u43,u44,u45,u46,.bool true,.pointer (some ⟨w.heap.size,36,none⟩),u49,u50] ?_
   go_upto_region 9 with (fail)
   refine vR ?_
   refine vB cn_big qB23 (cn_size _) ?_
   refine vV (.string t) ?_
   refine sB (cnCells {c with iN:=c.iN,iD:=(readD c.iN c.iD c.iR ps n),pa:=(some ⟨g2,0,none⟩),pn:=c.pn,pc:=cp2,iR:=c.iR,owe:=true}) cn_big Z (cn_size _) (cn_size _) (cn_one _) ?_
   intro qw24 qt25 qB26
   clear Z
   replace qB23:=qB23.touch qt25 (by omega)
   replace qB17:=qB17.touch qt25 (by omega)
   replace H2:=H2.touch qt25 (by omega)
   replace G:=since_touch G qt25 (by omega)
   have qt25_s:=qt25.size
   refine vV (.string t) ?_
   refine vE #[.agg (cnCells c),.int .i64 n,.pointer (some ⟨w.heap.size,0,none⟩),undef,.pointer (some ⟨w.heap.size+1,0,none⟩),.string t,.int .i64 rm,.pointer (some ⟨qw10.heap.size,0,none⟩),.string t,u9,u10,u11,u12,u13,u14,u15,u16,u17,u18,u19,u20,u21,u22,u23,u24,u25,u26,u27,u28,u29,u30,u31,u32,u33,u34,u35,u36,u37,u38,u39,u40,u41,u42,u43,u44,u45,u46,.bool true,.pointer (some ⟨w.heap.size,36,none⟩),.agg (cnCells {c with iN:=c.iN,iD:=(readD c.iN c.iD c.iR ps n),pa:=(some ⟨g2,0,none⟩),pn:=c.pn,pc:=cp2,iR:=c.iR,owe:=true}),.string t] ?_
   go_wp2_with (fail)
   exact bodyPost_ret (results_cn2 (t:=4) (u:=5) rfl _ rfl qB26) rfl ⟨_,_,by rw [hd.out,hv.out];unfold readC readS;rw [← hq.out,← hrm.out,← ht.out,← how.out];rfl,H2,G⟩
end Go.Proofs.YtnbopjlpemmkcaaGreat
