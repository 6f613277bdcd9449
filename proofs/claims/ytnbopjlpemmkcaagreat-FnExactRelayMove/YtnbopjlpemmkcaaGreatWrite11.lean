/-
  An end that is written to, as spec makes it.
-/
import Derived.Test.YtnbopjlpemmkcaaGreatCopy11
import Derived.Test.YtnbopjlpemmkcaaGreatM8
import Derived.Test.YtnbopjlpemmkcaaGreatM20
import Derived.Test.YtnbopjlpemmkcaaGreatInHeldS
import Derived.Test.YtnbopjlpemmkcaaGreatSegTab
import Derived.Test.YtnbopjlpemmkcaaGreatVl
import Derived.Deep.DeepCutAuto
namespace Go.Proofs.YtnbopjlpemmkcaaGreat
open Go.ChangeShapes Go.WideShapes Go.ChangeAt Go.RowKit
set_option linter.unusedVariables false
set_option maxRecDepth 10000

def writeOk (c:Cn) (ps:List (Int×ByteArray)):Bool:=connOk c ps && (mayW c.st && !c.fin)

def writeC (c:Cn) (ps:List (Int×ByteArray)) (s:ByteArray):Cn:=if writeOk c ps then {c with oD:=putD c.oD c.oR s} else c

def writeN (c:Cn) (ps:List (Int×ByteArray)) (s:ByteArray):Int:=if writeOk c ps then putN c.oD c.oR s else 0

set_option maxRecDepth 20000 in
set_option maxHeartbeats 8000000 in
theorem specWrite (c:Cn) (ps:List (Int×ByteArray)) (s:ByteArray) (gc:GoodC c ps) (hnil:c.pa=none→c.pc=0) (hs:s.size≤1048576) (w:World) (R:Rd shP w c.pa c.pn ps) :
  Calls Tryz.prog 55 #[.agg (cnCells c),.string s] w fun e w'=>∃ g cp,e=.returned (.tuple #[.agg (cnCells {writeC c ps s with pa:=some ⟨g,0,none⟩,pc:=cp}),.int .i64 (writeN c ps s)])∧Held shP w' w.heap.size g c.pn cp ps∧Since w w':=by
 have hc:=fun wx Rx=>specCopied c ps gc hnil wx Rx
 have hk:=fun g cp wx Rx=>specOkAt c ps gc g cp wx Rx
 have hp:=fun wx=>specOutPut c.oF c.oD c.oR s gc.hod hs wx
 obtain ⟨d,hd⟩:∃ d,Hid (d=writeC c ps s):=⟨_,rfl⟩
 obtain ⟨n,hn⟩:∃ n,Hid (n=writeN c ps s):=⟨_,rfl⟩
 rw [← hd.out,← hn.out]
 obtain ⟨q,hq⟩:∃ q,Hid (q=connOk c ps):=⟨_,rfl⟩
 rw [← hq.out] at hk
 obtain ⟨m,hm⟩:∃ m,Hid (m=mayW c.st):=⟨_,rfl⟩
 unfold cnVal at hc
 unfold outVal at hp
 go_enter Tryz.func55,Tryz.ntmps55
 go_upto_region 1 with (fail)
 rw [cn_zero]
 have G:=((Since.refl w).alloc (.cells (cnCells c) 50)).alloc (.cells (cnCells cnZero) 50)
 have A:=(Blk.new w (cnCells c) 50).since ((Since.refl _).alloc (.cells (cnCells cnZero) 50))
 have Z:=Blk.new (w.alloc (.cells (cnCells c) 50)) (cnCells cnZero) 50
 rw [World.size_alloc] at Z
 replace R:=R.since G
 generalize (w.alloc (.cells (cnCells c) 50)).alloc (.cells (cnCells cnZero) 50)=x0 at A Z G R ⊢
 have hZ:=Z.lt
 refine vR ?_
 refine vB cn_big A (cn_size _) ?_
 refine vC (hc _ R) ?_
 rintro _ qw1 ⟨g,cp,rfl,H,qg2⟩
 refine ⟨_,rfl,?_⟩
 replace A:=A.since qg2
 replace Z:=Z.since qg2
 replace R:=R.since qg2
 replace G:=G.trans qg2
 have qg2_s:=qg2.size
 have hH0:=H.low'
 replace H:=H.raise (show w.heap.size≤g by omega)
 have hH:=H.lt
 clear R
 refine sB (cnCells {c with pa:=some ⟨g,0,none⟩,pc:=cp}) cn_big A (cn_size _) (cn_size _) (cn_one _) ?_
 intro qw3 qt4 qB5
 clear A
 replace Z:=Z.touch qt4 (by omega)
 replace H:=H.touch qt4 (by omega)
 replace G:=since_touch G qt4 (by omega)
 have qt4_s:=qt4.size
 refine vE #[.agg (cnCells c),.string s,.pointer (some ⟨w.heap.size,0,none⟩),undef,.pointer (some ⟨w.heap.size+1,0,none⟩),.int .i64 0,undef,undef,undef,.agg (cnCells c),.agg (cnCells {c with pa:=some ⟨g,0,none⟩,pc:=cp}),undef,undef,undef,undef,undef,undef,undef,undef,undef,undef,undef,undef,undef,undef,undef,undef,undef,undef,undef,undef,undef,undef,undef,undef,undef,undef,undef,undef,undef,undef,undef,undef,undef,undef,undef,undef,undef,undef,undef,undef,undef] ?_
 go_upto_region 2 with (fail)
 have f_st:qw3.cell? ⟨w.heap.size,0,none⟩=some (.int .i64 c.st):=qB5.cell 0
 go_cut [6] (fun v wx=>v=.bool m∧qw3=wx)
 case first=>
  by_cases h:c.st=1∨c.st=2∨c.st=3∨c.st=6
  case pos=>
   have hm1:m=true:=by rw [hm.out];unfold mayW;simp [h]
   replace hm1:Hid _:=hm1
   rcases h with h|h|h|h
   all_goals rw [h] at f_st
   all_goals go_wp2_with (fail)
   all_goals go_meet
   all_goals exact ⟨by rw [hm1.out],rfl⟩
  case neg=>
   have hm1:m=false:=by rw [hm.out];unfold mayW;simp [h]
   replace hm1:Hid _:=hm1
   have m1:(c.st == 1)=false:=by simp;omega
   have m2:(c.st == 2)=false:=by simp;omega
   have m3:(c.st == 3)=false:=by simp;omega
   have m6:(c.st == 6)=false:=by simp;omega
   clear h
   go_wp2_with (fail)
   go_meet
   case rel=>exact ⟨by rw [hm1.out],rfl⟩
 case rest=>
 obtain ⟨rfl,rfl⟩:=hcut
 clear f_st
 go_upto_region 3 with (fail)
 cases q
 case false=>
  refine vR ?_
  refine vB cn_big qB5 (cn_size _) ?_
  refine vK (hk g cp _ H.reads) ?_
  intro qw6 qg7
  replace qB5:=qB5.since qg7
  replace Z:=Z.since qg7
  replace H:=H.since qg7
  replace G:=G.trans qg7
  have qg7_s:=qg7.size
  refine vV (.bool true) ?_
  refine vV (.bool true) ?_
  refine vS ?_
  refine vS ?_
  refine vV (.bool true) ?_
  refine vV (.bool true) ?_
  refine vS ?_
  refine vS ?_
  refine vV (.bool true) ?_
  refine vE #[.agg (cnCells c),.string s,.pointer (some ⟨w.heap.size,0,none⟩),undef,.pointer (some ⟨w.heap.size+1,0,none⟩),.int .i64 0,.bool m,undef,undef,u9,u10,u11,u12,u13,u14,u15,u16,u17,u18,u19,u20,u21,u22,u23,u24,u25,u26,u27,u28,.agg (cnCells {c with pa:=some ⟨g,0,none⟩,pc:=cp}),.bool false,.bool true,.bool true,undef,undef,.bool true,.bool true,undef,undef,.bool true,u40,u41,u42,u43,u44,u45,u46,u47,u48,u49,u50,u51] ?_
  go_upto_region 4 with (fail)
  refine vR ?_
  refine vB cn_big qB5 (cn_size _) ?_
  refine sB (cnCells {c with pa:=some ⟨g,0,none⟩,pc:=cp}) cn_big Z (cn_size _) (cn_size _) (cn_one _) ?_
  intro qw8 qt9 qB10
  clear Z
  replace qB5:=qB5.touch qt9 (by omega)
  replace H:=H.touch qt9 (by omega)
  replace G:=since_touch G qt9 (by omega)
  have qt9_s:=qt9.size
  refine vV (.int .i64 0) ?_
  refine vE #[.agg (cnCells c),.string s,.pointer (some ⟨w.heap.size,0,none⟩),undef,.pointer (some ⟨w.heap.size+1,0,none⟩),.int .i64 0,.bool m,undef,undef,u9,u10,u11,u12,u13,u14,u15,u16,u17,u18,u19,u20,u21,u22,u23,u24,u25,u26,u27,u28,.agg (cnCells {c with pa:=some ⟨g,0,none⟩,pc:=cp}),.bool false,.bool true,.bool true,undef,undef,.bool true,.bool true,undef,undef,.bool true,.agg (cnCells {c with pa:=some ⟨g,0,none⟩,pc:=cp}),u41,u42,u43,u44,u45,u46,u47,u48,u49,u50,u51] ?_
  go_wp2_with (fail)
  exact bodyPost_ret (results_cn2 (t:=4) (u:=5) rfl _ rfl qB10) rfl ⟨_,_,by rw [hd.out,hn.out];have hw:writeOk c ps=false:=(by unfold writeOk;rw [← hq.out];rfl);unfold writeC writeN;rw [hw];rfl,H,G⟩
 case true=>
 cases m
 case false=>
  refine vR ?_
  refine vB cn_big qB5 (cn_size _) ?_
  refine vK (hk g cp _ H.reads) ?_
  intro qw6 qg7
  replace qB5:=qB5.since qg7
  replace Z:=Z.since qg7
  replace H:=H.since qg7
  replace G:=G.trans qg7
  have qg7_s:=qg7.size
  refine vV (.bool false) ?_
  refine vV (.bool false) ?_
  refine vV (.bool false) ?_
  refine vV (.bool true) ?_
  refine vV (.bool true) ?_
  refine vV (.bool true) ?_
  refine vS ?_
  refine vS ?_
  refine vV (.bool true) ?_
  refine vE #[.agg (cnCells c),.string s,.pointer (some ⟨w.heap.size,0,none⟩),undef,.pointer (some ⟨w.heap.size+1,0,none⟩),.int .i64 0,.bool false,undef,undef,u9,u10,u11,u12,u13,u14,u15,u16,u17,u18,u19,u20,u21,u22,u23,u24,u25,u26,u27,u28,.agg (cnCells {c with pa:=some ⟨g,0,none⟩,pc:=cp}),.bool true,.bool false,.bool false,.bool false,.bool true,.bool true,.bool true,undef,undef,.bool true,u40,u41,u42,u43,u44,u45,u46,u47,u48,u49,u50,u51] ?_
  go_upto_region 4 with (fail)
  refine vR ?_
  refine vB cn_big qB5 (cn_size _) ?_
  refine sB (cnCells {c with pa:=some ⟨g,0,none⟩,pc:=cp}) cn_big Z (cn_size _) (cn_size _) (cn_one _) ?_
  intro qw8 qt9 qB10
  clear Z
  replace qB5:=qB5.touch qt9 (by omega)
  replace H:=H.touch qt9 (by omega)
  replace G:=since_touch G qt9 (by omega)
  have qt9_s:=qt9.size
  refine vV (.int .i64 0) ?_
  refine vE #[.agg (cnCells c),.string s,.pointer (some ⟨w.heap.size,0,none⟩),undef,.pointer (some ⟨w.heap.size+1,0,none⟩),.int .i64 0,.bool false,undef,undef,u9,u10,u11,u12,u13,u14,u15,u16,u17,u18,u19,u20,u21,u22,u23,u24,u25,u26,u27,u28,.agg (cnCells {c with pa:=some ⟨g,0,none⟩,pc:=cp}),.bool true,.bool false,.bool false,.bool false,.bool true,.bool true,.bool true,undef,undef,.bool true,.agg (cnCells {c with pa:=some ⟨g,0,none⟩,pc:=cp}),u41,u42,u43,u44,u45,u46,u47,u48,u49,u50,u51] ?_
  go_wp2_with (fail)
  exact bodyPost_ret (results_cn2 (t:=4) (u:=5) rfl _ rfl qB10) rfl ⟨_,_,by rw [hd.out,hn.out];have hw:writeOk c ps=false:=(by unfold writeOk;rw [← hq.out,← hm.out];rfl);unfold writeC writeN;rw [hw];rfl,H,G⟩
 case true=>
 rcases Bool.eq_false_or_eq_true c.fin with hf|hf
 all_goals replace hf:Hid _:=hf
 case inl=>
  refine vR ?_
  refine vB cn_big qB5 (cn_size _) ?_
  refine vK (hk g cp _ H.reads) ?_
  intro qw6 qg7
  replace qB5:=qB5.since qg7
  replace Z:=Z.since qg7
  replace H:=H.since qg7
  replace G:=G.trans qg7
  have qg7_s:=qg7.size
  refine vV (.bool false) ?_
  refine vV (.bool false) ?_
  refine vV (.bool true) ?_
  refine vV (.bool false) ?_
  refine vV (.bool false) ?_
  refine vV (.bool false) ?_
  refine vV (.pointer (some ⟨w.heap.size,15,none⟩)) ?_
  refine vD (.bool true) ((qB5.cell 15).trans (by show some (.bool c.fin:Value)=some (.bool true:Value);rw [hf.out])) ?_
  refine vV (.bool true) ?_
  refine vE #[.agg (cnCells c),.string s,.pointer (some ⟨w.heap.size,0,none⟩),undef,.pointer (some ⟨w.heap.size+1,0,none⟩),.int .i64 0,.bool true,undef,undef,u9,u10,u11,u12,u13,u14,u15,u16,u17,u18,u19,u20,u21,u22,u23,u24,u25,u26,u27,u28,.agg (cnCells {c with pa:=some ⟨g,0,none⟩,pc:=cp}),.bool true,.bool false,.bool false,.bool true,.bool false,.bool false,.bool false,.pointer (some ⟨w.heap.size,15,none⟩),.bool true,.bool true,u40,u41,u42,u43,u44,u45,u46,u47,u48,u49,u50,u51] ?_
  go_upto_region 4 with (fail)
  refine vR ?_
  refine vB cn_big qB5 (cn_size _) ?_
  refine sB (cnCells {c with pa:=some ⟨g,0,none⟩,pc:=cp}) cn_big Z (cn_size _) (cn_size _) (cn_one _) ?_
  intro qw8 qt9 qB10
  clear Z
  replace qB5:=qB5.touch qt9 (by omega)
  replace H:=H.touch qt9 (by omega)
  replace G:=since_touch G qt9 (by omega)
  have qt9_s:=qt9.size
  refine vV (.int .i64 0) ?_
  refine vE #[.agg (cnCells c),.string s,.pointer (some ⟨w.heap.size,0,none⟩),undef,.pointer (some ⟨w.heap.size+1,0,none⟩),.int .i64 0,.bool true,undef,undef,u9,u10,u11,u12,u13,u14,u15,u16,u17,u18,u19,u20,u21,u22,u23,u24,u25,u26,u27,u28,.agg (cnCells {c with pa:=some ⟨g,0,none⟩,pc:=cp}),.bool true,.bool false,.bool false,.bool true,.bool false,.bool false,.bool false,.pointer (some ⟨w.heap.size,15,none⟩),.bool true,.bool true,.agg (cnCells {c with pa:=some ⟨g,0,none⟩,pc:=cp}),u41,u42,u43,u44,u45,u46,u47,u48,u49,u50,u51] ?_
  go_wp2_with (fail)
  exact bodyPost_ret (results_cn2 (t:=4) (u:=5) rfl _ rfl qB10) rfl ⟨_,_,by rw [hd.out,hn.out];have hw:writeOk c ps=false:=(by unfold writeOk;rw [← hq.out,← hm.out,hf.out];rfl);unfold writeC writeN;rw [hw];rfl,H,G⟩
 case inr=>
  refine vR ?_
  refine vB cn_big qB5 (cn_size _) ?_
  refine vK (hk g cp _ H.reads) ?_
  intro qw6 qg7
  replace qB5:=qB5.since qg7
  replace Z:=Z.since qg7
  replace H:=H.since qg7
  replace G:=G.trans qg7
  have qg7_s:=qg7.size
  refine vV (.bool false) ?_
  refine vV (.bool false) ?_
  refine vV (.bool true) ?_
  refine vV (.bool false) ?_
  refine vV (.bool false) ?_
  refine vV (.bool false) ?_
  refine vV (.pointer (some ⟨w.heap.size,15,none⟩)) ?_
  refine vD (.bool false) ((qB5.cell 15).trans (by show some (.bool c.fin:Value)=some (.bool false:Value);rw [hf.out])) ?_
  refine vV (.bool false) ?_
  refine vE #[.agg (cnCells c),.string s,.pointer (some ⟨w.heap.size,0,none⟩),undef,.pointer (some ⟨w.heap.size+1,0,none⟩),.int .i64 0,.bool true,undef,undef,u9,u10,u11,u12,u13,u14,u15,u16,u17,u18,u19,u20,u21,u22,u23,u24,u25,u26,u27,u28,.agg (cnCells {c with pa:=some ⟨g,0,none⟩,pc:=cp}),.bool true,.bool false,.bool false,.bool true,.bool false,.bool false,.bool false,.pointer (some ⟨w.heap.size,15,none⟩),.bool false,.bool false,u40,u41,u42,u43,u44,u45,u46,u47,u48,u49,u50,u51] ?_
  go_upto_region 5 with (fail)
  refine vR ?_
  refine vV (.pointer (some ⟨w.heap.size,8,none⟩)) ?_
  refine vP pOut_big qB5 8 [.int .u32 c.oF,.string c.oD,.int .i64 c.oR] ?_
  refine vV (.string s) ?_
  refine vK (hp _) ?_
  intro qw8 qg9
  replace qB5:=qB5.since qg9
  replace Z:=Z.since qg9
  replace H:=H.since qg9
  replace G:=G.trans qg9
  have qg9_s:=qg9.size
  refine vV (.tuple #[.agg #[.int .u32 c.oF,.string (putD c.oD c.oR s),.int .i64 c.oR],.int .i64 (putN c.oD c.oR s)]) ?_
  refine vV (.agg #[.int .u32 c.oF,.string (putD c.oD c.oR s),.int .i64 c.oR]) ?_
  refine vV (.int .i64 (putN c.oD c.oR s)) ?_
  refine vW (qw8.alloc (.cells #[.int .u32 0,.string ByteArray.empty,.int .i64 0] 43)) (.pointer (some ⟨qw8.heap.size,0,none⟩)) ?_
  have qB11:=Blk.new qw8 #[.int .u32 0,.string ByteArray.empty,.int .i64 0] 43
  have qg12:=(Since.refl qw8).alloc (.cells #[.int .u32 0,.string ByteArray.empty,.int .i64 0] 43)
  replace qB5:=qB5.since qg12
  replace Z:=Z.since qg12
  replace H:=H.since qg12
  replace G:=G.trans qg12
  generalize qw8.alloc (.cells #[.int .u32 0,.string ByteArray.empty,.int .i64 0] 43)=qw10 at qB5 Z H G qB11 qg12 ⊢
  have qB11_l:=qB11.lt
  have qg12_s:=qg12.size
  refine sB #[.int .u32 c.oF,.string (putD c.oD c.oR s),.int .i64 c.oR] pOut_big qB11 rfl rfl (by simp [Value.oneCell']) ?_
  intro qw13 qt14 qB15
  clear qB11
  replace qB5:=qB5.touch qt14 (by omega)
  replace Z:=Z.touch qt14 (by omega)
  replace H:=H.touch qt14 (by omega)
  replace G:=since_touch G qt14 (by omega)
  have qt14_s:=qt14.size
  refine vV (.int .i64 (putN c.oD c.oR s)) ?_
  refine vE #[.agg (cnCells c),.string s,.pointer (some ⟨w.heap.size,0,none⟩),undef,.pointer (some ⟨w.heap.size+1,0,none⟩),.int .i64 0,.bool true,.pointer (some ⟨qw8.heap.size,0,none⟩),.int .i64 (putN c.oD c.oR s),u9,u10,u11,u12,u13,u14,u15,u16,u17,u18,u19,u20,u21,u22,u23,u24,u25,u26,u27,u28,.agg (cnCells {c with pa:=some ⟨g,0,none⟩,pc:=cp}),.bool true,.bool false,.bool false,.bool true,.bool false,.bool false,.bool false,.pointer (some ⟨w.heap.size,15,none⟩),.bool false,.bool false,u40,.tuple #[.agg #[.int .u32 c.oF,.string (putD c.oD c.oR s),.int .i64 c.oR],.int .i64 (putN c.oD c.oR s)],.pointer (some ⟨w.heap.size,8,none⟩),.agg #[.int .u32 c.oF,.string c.oD,.int .i64 c.oR],.string s,.tuple #[.agg #[.int .u32 c.oF,.string (putD c.oD c.oR s),.int .i64 c.oR],.int .i64 (putN c.oD c.oR s)],.agg #[.int .u32 c.oF,.string (putD c.oD c.oR s),.int .i64 c.oR],.int .i64 (putN c.oD c.oR s),u48,u49,u50,u51] ?_
  go_upto_region 6 with (fail)
  refine vR ?_
  refine vB pOut_big qB15 rfl ?_
  refine vV (.pointer (some ⟨w.heap.size,8,none⟩)) ?_
  refine sP (cnCells {c with pa:=some ⟨g,0,none⟩,pc:=cp,oF:=c.oF,oD:=(putD c.oD c.oR s),oR:=c.oR}) pOut_big qB5 8 #[.int .u32 c.oF,.string (putD c.oD c.oR s),.int .i64 c.oR] (cn_size _) (by simp [Value.oneCell']) ?_
  intro qw16 qt17 qB18
  clear qB5
  replace Z:=Z.touch qt17 (by omega)
  replace qB15:=qB15.touch qt17 (by omega)
  replace H:=H.touch qt17 (by omega)
  replace G:=since_touch G qt17 (by omega)
  have qt17_s:=qt17.size
  refine vE #[.agg (cnCells c),.string s,.pointer (some ⟨w.heap.size,0,none⟩),undef,.pointer (some ⟨w.heap.size+1,0,none⟩),.int .i64 0,.bool true,.pointer (some ⟨qw8.heap.size,0,none⟩),.int .i64 (putN c.oD c.oR s),u9,u10,u11,u12,u13,u14,u15,u16,u17,u18,u19,u20,u21,u22,u23,u24,u25,u26,u27,u28,.agg (cnCells {c with pa:=some ⟨g,0,none⟩,pc:=cp}),.bool true,.bool false,.bool false,.bool true,.bool false,.bool false,.bool false,.pointer (some ⟨w.heap.size,15,none⟩),.bool false,.bool false,u40,.tuple #[.agg #[.int .u32 c.oF,.string (putD c.oD c.oR s),.int .i64 c.oR],.int .i64 (putN c.oD c.oR s)],.pointer (some ⟨w.heap.size,8,none⟩),.agg #[.int .u32 c.oF,.string c.oD,.int .i64 c.oR],.string s,.tuple #[.agg #[.int .u32 c.oF,.string (putD c.oD c.oR s),.int .i64 c.oR],.int .i64 (putN c.oD c.oR s)],.agg #[.int .u32 c.oF,.string (putD c.oD c.oR s),.int .i64 c.oR],.int .i64 (putN c.oD c.oR s),.agg #[.int .u32 c.oF,.string (putD c.oD c.oR s),.int .i64 c.oR],.pointer (some ⟨w.heap.size,8,none⟩),u50,u51] ?_
  go_upto_region 7 with (fail)
  refine vR ?_
  refine vB cn_big qB18 (cn_size _) ?_
  refine vV (.int .i64 (putN c.oD c.oR s)) ?_
  refine sB (cnCells {c with pa:=some ⟨g,0,none⟩,pc:=cp,oF:=c.oF,oD:=(putD c.oD c.oR s),oR:=c.oR}) cn_big Z (cn_size _) (cn_size _) (cn_one _) ?_
  intro qw19 qt20 qB21
  clear Z
  replace qB18:=qB18.touch qt20 (by omega)
  replace qB15:=qB15.touch qt20 (by omega)
  replace H:=H.touch qt20 (by omega)
  replace G:=since_touch G qt20 (by omega)
  have qt20_s:=qt20.size
  refine vV (.int .i64 (putN c.oD c.oR s)) ?_
  refine vE #[.agg (cnCells c),.string s,.pointer (some ⟨w.heap.size,0,none⟩),undef,.pointer (some ⟨w.heap.size+1,0,none⟩),.int .i64 (putN c.oD c.oR s),.bool true,.pointer (some ⟨qw8.heap.size,0,none⟩),.int .i64 (putN c.oD c.oR s),u9,u10,u11,u12,u13,u14,u15,u16,u17,u18,u19,u20,u21,u22,u23,u24,u25,u26,u27,u28,.agg (cnCells {c with pa:=some ⟨g,0,none⟩,pc:=cp}),.bool true,.bool false,.bool false,.bool true,.bool false,.bool false,.bool false,.pointer (some ⟨w.heap.size,15,none⟩),.bool false,.bool false,u40,.tuple #[.agg #[.int .u32 c.oF,.string (putD c.oD c.oR s),.int .i64 c.oR],.int .i64 (putN c.oD c.oR s)],.pointer (some ⟨w.heap.size,8,none⟩),.agg #[.int .u32 c.oF,.string c.oD,.int .i64 c.oR],.string s,.tuple #[.agg #[.int .u32 c.oF,.string (putD c.oD c.oR s),.int .i64 c.oR],.int .i64 (putN c.oD c.oR s)],.agg #[.int .u32 c.oF,.string (putD c.oD c.oR s),.int .i64 c.oR],.int .i64 (putN c.oD c.oR s),.agg #[.int .u32 c.oF,.string (putD c.oD c.oR s),.int .i64 c.oR],.pointer (some ⟨w.heap.size,8,none⟩),.agg (cnCells {c with pa:=some ⟨g,0,none⟩,pc:=cp,oF:=c.oF,oD:=(putD c.oD c.oR s),oR:=c.oR}),.int .i64 (putN c.oD c.oR s)] ?_
  go_wp2_with (fail)
  exact bodyPost_ret (results_cn2 (t:=4) (u:=5) rfl _ rfl qB21) rfl ⟨_,_,by rw [hd.out,hn.out];have hw:writeOk c ps=true:=(by unfold writeOk;rw [← hq.out,← hm.out,hf.out];rfl);unfold writeC writeN;rw [hw];rfl,H,G⟩
end Go.Proofs.YtnbopjlpemmkcaaGreat
