/-
  An end that is written to, as impl does it.
-/
import Derived.Test.YtnbopjlpemmkcaaGreatClose11I
import Derived.Test.YtnbopjlpemmkcaaGreatVl
import Derived.Test.YtnbopjlpemmkcaaGreatWrite11
import Derived.Test.YtnbopjlpemmkcaaGreatOutImpl2
import Derived.Deep.DeepCutAuto
namespace Go.Proofs.YtnbopjlpemmkcaaGreat
open Go.ChangeShapes Go.WideShapes Go.ChangeAt Go.RowKit
set_option linter.unusedVariables false
set_option maxRecDepth 10000

set_option maxRecDepth 20000 in
set_option maxHeartbeats 8000000 in
theorem implWrite (c:Cn) (ps:List (Int×ByteArray)) (s:ByteArray) (hs:s.size≤1048576) (gc:GoodC c ps) (w:World) (R:Rd shP w c.pa c.pn ps) :
  Calls Tryz.prog 120 #[.agg (cnCells c),.string s] w fun e w'=>∃ g,e=.returned (.tuple #[.agg (cnCells {writeC c ps s with pa:=some ⟨g,0,none⟩,pc:=c.pn}),.int .i64 (writeN c ps s)])∧Held shP w' w.heap.size g c.pn c.pn ps∧Since w w':=by
 have hp:=fun wx=>implOutPut c.oF c.oD c.oR s gc.w_oF gc.hod hs wx
 unfold outVal at hp
 obtain ⟨d,hd⟩:∃ d,Hid (d=writeC c ps s):=⟨_,rfl⟩
 obtain ⟨n,hn⟩:∃ n,Hid (n=writeN c ps s):=⟨_,rfl⟩
 rw [← hd.out,← hn.out]
 have hc:=fun wx Rx=>implFresh c ps gc wx Rx
 have hk:=fun wx Rx=>implConnOk c ps gc wx Rx
 have hm:=fun wx=>implMayW c wx
 obtain ⟨q,hq⟩:∃ q,Hid (q=connOk c ps):=⟨_,rfl⟩
 rw [← hq.out] at hk
 obtain ⟨m,hmm⟩:∃ m,Hid (m=mayW c.st):=⟨_,rfl⟩
 rw [← hmm.out] at hm
 unfold cnVal at hc hk
 go_enter Tryz.func120,Tryz.ntmps120
 go_upto_region 1 with (fail)
 rw [cn_zero]
 have G:=((Since.refl w).alloc (.cells (cnCells c) 50)).alloc (.cells (cnCells cnZero) 50)
 have A:=(Blk.new w (cnCells c) 50).since ((Since.refl _).alloc (.cells (cnCells cnZero) 50))
 have Z:=Blk.new (w.alloc (.cells (cnCells c) 50)) (cnCells cnZero) 50
 rw [World.size_alloc] at Z
 generalize (w.alloc (.cells (cnCells c) 50)).alloc (.cells (cnCells cnZero) 50)=x0 at A Z G ⊢
 have hZ:=Z.lt
 refine vR ?_
 refine vB cn_big A (cn_size _) ?_
 refine vC (hc _ (R.since G)) ?_
 rintro _ qw1 ⟨g,rfl,H,qg2⟩
 refine ⟨_,rfl,?_⟩
 replace A:=A.since qg2
 replace Z:=Z.since qg2
 replace G:=G.trans qg2
 have qg2_s:=qg2.size
 have hH0:=H.low'
 replace H:=H.raise (show w.heap.size≤g by omega)
 have hH:=H.lt
 refine vW (qw1.alloc (.cells (cnCells cnZero) 50)) (.pointer (some ⟨qw1.heap.size,0,none⟩)) ?_
 have qB4:=Blk.new qw1 (cnCells cnZero) 50
 have qg5:=(Since.refl qw1).alloc (.cells (cnCells cnZero) 50)
 replace A:=A.since qg5
 replace Z:=Z.since qg5
 replace H:=H.since qg5
 replace G:=G.trans qg5
 generalize qw1.alloc (.cells (cnCells cnZero) 50)=qw3 at A Z H G qB4 qg5 ⊢
 have qB4_l:=qB4.lt
 have qg5_s:=qg5.size
 refine sB (cnCells {c with pa:=some ⟨g,0,none⟩,pc:=c.pn}) cn_big qB4 (cn_size _) (cn_size _) (cn_one _) ?_
 intro qw6 qt7 qB8
 clear qB4
 replace A:=A.touch qt7 (by omega)
 replace Z:=Z.touch qt7 (by omega)
 replace H:=H.touch qt7 (by omega)
 replace G:=since_touch G qt7 (by omega)
 have qt7_s:=qt7.size
 refine vV (.int .i64 0) ?_
 refine vE #[.agg (cnCells c),.string s,.pointer (some ⟨w.heap.size,0,none⟩),undef,.pointer (some ⟨w.heap.size+1,0,none⟩),.int .i64 0,.pointer (some ⟨qw1.heap.size,0,none⟩),.int .i64 0,.agg (cnCells c),.agg (cnCells {c with pa:=some ⟨g,0,none⟩,pc:=c.pn}),undef,undef,undef,undef,undef,undef,undef,undef,undef,undef,undef,undef,undef,undef,undef,undef,undef,undef,undef,undef,undef] ?_
 go_upto_region 2 with (fail)
 cases q
 case false=>
  have hw:writeOk c ps=false:=(by unfold writeOk;rw [← hq.out];rfl)
  have e:Hid (d=c):=hd.out.trans (by unfold writeC;rw [hw];rfl)
  have en:Hid (n=0):=hn.out.trans (by unfold writeN;rw [hw];rfl)
  clear hw
  refine vR ?_
  refine vB cn_big A (cn_size _) ?_
  refine vK (hk _ (R.since G)) ?_
  intro qw9 qg10
  replace A:=A.since qg10
  replace Z:=Z.since qg10
  replace qB8:=qB8.since qg10
  replace H:=H.since qg10
  replace G:=G.trans qg10
  have qg10_s:=qg10.size
  refine vV (.bool false) ?_
  refine vS ?_
  refine vS ?_
  refine vV (.bool false) ?_
  refine vV (.bool false) ?_
  refine vS ?_
  refine vS ?_
  refine vS ?_
  refine vV (.bool false) ?_
  refine vE #[.agg (cnCells c),.string s,.pointer (some ⟨w.heap.size,0,none⟩),undef,.pointer (some ⟨w.heap.size+1,0,none⟩),.int .i64 0,.pointer (some ⟨qw1.heap.size,0,none⟩),.int .i64 0,.agg (cnCells c),.agg (cnCells {c with pa:=some ⟨g,0,none⟩,pc:=c.pn}),.agg (cnCells c),.bool false,.bool false,undef,undef,.bool false,.bool false,undef,undef,undef,.bool false,undef,undef,undef,undef,undef,undef,undef,undef,undef,undef] ?_
  go_upto_region 4 with (fail)
  refine vR ?_
  refine vB cn_big qB8 (cn_size _) ?_
  refine vV (.int .i64 0) ?_
  refine sB (cnCells {c with pa:=some ⟨g,0,none⟩,pc:=c.pn}) cn_big Z (cn_size _) (cn_size _) (cn_one _) ?_
  intro qw11 qt12 qB13
  clear Z
  replace A:=A.touch qt12 (by omega)
  replace qB8:=qB8.touch qt12 (by omega)
  replace H:=H.touch qt12 (by omega)
  replace G:=since_touch G qt12 (by omega)
  have qt12_s:=qt12.size
  refine vV (.int .i64 0) ?_
  refine vE #[.agg (cnCells c),.string s,.pointer (some ⟨w.heap.size,0,none⟩),undef,.pointer (some ⟨w.heap.size+1,0,none⟩),.int .i64 0,.pointer (some ⟨qw1.heap.size,0,none⟩),.int .i64 0,.agg (cnCells c),.agg (cnCells {c with pa:=some ⟨g,0,none⟩,pc:=c.pn}),.agg (cnCells c),.bool false,.bool false,undef,undef,.bool false,.bool false,undef,undef,undef,.bool false,undef,undef,undef,undef,undef,undef,undef,undef,.agg (cnCells {c with pa:=some ⟨g,0,none⟩,pc:=c.pn}),.int .i64 0] ?_
  go_wp2_with (fail)
  exact bodyPost_ret (results_cn2 (t:=4) (u:=5) rfl _ rfl qB13) rfl ⟨_,by rw [e.out,en.out];rfl,H,G⟩
 case true=>
  cases m
  case false=>
   have hw:writeOk c ps=false:=(by unfold writeOk;rw [← hq.out,← hmm.out];rfl)
   have e:Hid (d=c):=hd.out.trans (by unfold writeC;rw [hw];rfl)
   have en:Hid (n=0):=hn.out.trans (by unfold writeN;rw [hw];rfl)
   clear hw
   refine vR ?_
   refine vB cn_big A (cn_size _) ?_
   refine vK (hk _ (R.since G)) ?_
   intro qw9 qg10
   replace A:=A.since qg10
   replace Z:=Z.since qg10
   replace qB8:=qB8.since qg10
   replace H:=H.since qg10
   replace G:=G.trans qg10
   have qg10_s:=qg10.size
   refine vV (.bool true) ?_
   refine vB cn_big A (cn_size _) ?_
   refine vK (hm _) ?_
   intro qw11 qg12
   replace A:=A.since qg12
   replace Z:=Z.since qg12
   replace qB8:=qB8.since qg12
   replace H:=H.since qg12
   replace G:=G.trans qg12
   have qg12_s:=qg12.size
   refine vV (.bool false) ?_
   refine vV (.bool false) ?_
   refine vS ?_
   refine vS ?_
   refine vS ?_
   refine vV (.bool false) ?_
   refine vE #[.agg (cnCells c),.string s,.pointer (some ⟨w.heap.size,0,none⟩),undef,.pointer (some ⟨w.heap.size+1,0,none⟩),.int .i64 0,.pointer (some ⟨qw1.heap.size,0,none⟩),.int .i64 0,.agg (cnCells c),.agg (cnCells {c with pa:=some ⟨g,0,none⟩,pc:=c.pn}),.agg (cnCells c),.bool true,.bool true,.agg (cnCells c),.bool false,.bool false,.bool false,undef,undef,undef,.bool false,undef,undef,undef,undef,undef,undef,undef,undef,undef,undef] ?_
   go_upto_region 4 with (fail)
   refine vR ?_
   refine vB cn_big qB8 (cn_size _) ?_
   refine vV (.int .i64 0) ?_
   refine sB (cnCells {c with pa:=some ⟨g,0,none⟩,pc:=c.pn}) cn_big Z (cn_size _) (cn_size _) (cn_one _) ?_
   intro qw13 qt14 qB15
   clear Z
   replace A:=A.touch qt14 (by omega)
   replace qB8:=qB8.touch qt14 (by omega)
   replace H:=H.touch qt14 (by omega)
   replace G:=since_touch G qt14 (by omega)
   have qt14_s:=qt14.size
   refine vV (.int .i64 0) ?_
   refine vE #[.agg (cnCells c),.string s,.pointer (some ⟨w.heap.size,0,none⟩),undef,.pointer (some ⟨w.heap.size+1,0,none⟩),.int .i64 0,.pointer (some ⟨qw1.heap.size,0,none⟩),.int .i64 0,.agg (cnCells c),.agg (cnCells {c with pa:=some ⟨g,0,none⟩,pc:=c.pn}),.agg (cnCells c),.bool true,.bool true,.agg (cnCells c),.bool false,.bool false,.bool false,undef,undef,undef,.bool false,undef,undef,undef,undef,undef,undef,undef,undef,.agg (cnCells {c with pa:=some ⟨g,0,none⟩,pc:=c.pn}),.int .i64 0] ?_
   go_wp2_with (fail)
   exact bodyPost_ret (results_cn2 (t:=4) (u:=5) rfl _ rfl qB15) rfl ⟨_,by rw [e.out,en.out];rfl,H,G⟩
  case true=>
   rcases Bool.eq_false_or_eq_true c.fin with hf|hf
   all_goals replace hf:Hid _:=hf
   case inl=>
    have hw:writeOk c ps=false:=(by unfold writeOk;rw [← hq.out,← hmm.out,hf.out];rfl)
    have e:Hid (d=c):=hd.out.trans (by unfold writeC;rw [hw];rfl)
    have en:Hid (n=0):=hn.out.trans (by unfold writeN;rw [hw];rfl)
    clear hw
    refine vR ?_
    refine vB cn_big A (cn_size _) ?_
    refine vK (hk _ (R.since G)) ?_
    intro qw9 qg10
    replace A:=A.since qg10
    replace Z:=Z.since qg10
    replace qB8:=qB8.since qg10
    replace H:=H.since qg10
    replace G:=G.trans qg10
    have qg10_s:=qg10.size
    refine vV (.bool true) ?_
    refine vB cn_big A (cn_size _) ?_
    refine vK (hm _) ?_
    intro qw11 qg12
    replace A:=A.since qg12
    replace Z:=Z.since qg12
    replace qB8:=qB8.since qg12
    replace H:=H.since qg12
    replace G:=G.trans qg12
    have qg12_s:=qg12.size
    refine vV (.bool true) ?_
    refine vV (.bool true) ?_
    refine vV (.pointer (some ⟨w.heap.size,15,none⟩)) ?_
    refine vD (.bool true) ((A.cell 15).trans (by show some (.bool c.fin:Value)=some (.bool true:Value);rw [hf.out])) ?_
    refine vV (.bool false) ?_
    refine vV (.bool false) ?_
    refine vE #[.agg (cnCells c),.string s,.pointer (some ⟨w.heap.size,0,none⟩),undef,.pointer (some ⟨w.heap.size+1,0,none⟩),.int .i64 0,.pointer (some ⟨qw1.heap.size,0,none⟩),.int .i64 0,.agg (cnCells c),.agg (cnCells {c with pa:=some ⟨g,0,none⟩,pc:=c.pn}),.agg (cnCells c),.bool true,.bool true,.agg (cnCells c),.bool true,.bool true,.bool true,.pointer (some ⟨w.heap.size,15,none⟩),.bool true,.bool false,.bool false,undef,undef,undef,undef,undef,undef,undef,undef,undef,undef] ?_
    go_upto_region 4 with (fail)
    refine vR ?_
    refine vB cn_big qB8 (cn_size _) ?_
    refine vV (.int .i64 0) ?_
    refine sB (cnCells {c with pa:=some ⟨g,0,none⟩,pc:=c.pn}) cn_big Z (cn_size _) (cn_size _) (cn_one _) ?_
    intro qw13 qt14 qB15
    clear Z
    replace A:=A.touch qt14 (by omega)
    replace qB8:=qB8.touch qt14 (by omega)
    replace H:=H.touch qt14 (by omega)
    replace G:=since_touch G qt14 (by omega)
    have qt14_s:=qt14.size
    refine vV (.int .i64 0) ?_
    refine vE #[.agg (cnCells c),.string s,.pointer (some ⟨w.heap.size,0,none⟩),undef,.pointer (some ⟨w.heap.size+1,0,none⟩),.int .i64 0,.pointer (some ⟨qw1.heap.size,0,none⟩),.int .i64 0,.agg (cnCells c),.agg (cnCells {c with pa:=some ⟨g,0,none⟩,pc:=c.pn}),.agg (cnCells c),.bool true,.bool true,.agg (cnCells c),.bool true,.bool true,.bool true,.pointer (some ⟨w.heap.size,15,none⟩),.bool true,.bool false,.bool false,undef,undef,undef,undef,undef,undef,undef,undef,.agg (cnCells {c with pa:=some ⟨g,0,none⟩,pc:=c.pn}),.int .i64 0] ?_
    go_wp2_with (fail)
    exact bodyPost_ret (results_cn2 (t:=4) (u:=5) rfl _ rfl qB15) rfl ⟨_,by rw [e.out,en.out];rfl,H,G⟩
   case inr=>
    have hw:writeOk c ps=true:=(by unfold writeOk;rw [← hq.out,← hmm.out,hf.out];rfl)
    have e:Hid (d={c with oD:=putD c.oD c.oR s}):=hd.out.trans (by unfold writeC;rw [hw];rfl)
    have en:Hid (n=putN c.oD c.oR s):=hn.out.trans (by unfold writeN;rw [hw];rfl)
    clear hw
    refine vR ?_
    refine vB cn_big A (cn_size _) ?_
    refine vK (hk _ (R.since G)) ?_
    intro qw9 qg10
    replace A:=A.since qg10
    replace Z:=Z.since qg10
    replace qB8:=qB8.since qg10
    replace H:=H.since qg10
    replace G:=G.trans qg10
    have qg10_s:=qg10.size
    refine vV (.bool true) ?_
    refine vB cn_big A (cn_size _) ?_
    refine vK (hm _) ?_
    intro qw11 qg12
    replace A:=A.since qg12
    replace Z:=Z.since qg12
    replace qB8:=qB8.since qg12
    replace H:=H.since qg12
    replace G:=G.trans qg12
    have qg12_s:=qg12.size
    refine vV (.bool true) ?_
    refine vV (.bool true) ?_
    refine vV (.pointer (some ⟨w.heap.size,15,none⟩)) ?_
    refine vD (.bool false) ((A.cell 15).trans (by show some (.bool c.fin:Value)=some (.bool false:Value);rw [hf.out])) ?_
    refine vV (.bool true) ?_
    refine vV (.bool true) ?_
    refine vE #[.agg (cnCells c),.string s,.pointer (some ⟨w.heap.size,0,none⟩),undef,.pointer (some ⟨w.heap.size+1,0,none⟩),.int .i64 0,.pointer (some ⟨qw1.heap.size,0,none⟩),.int .i64 0,.agg (cnCells c),.agg (cnCells {c with pa:=some ⟨g,0,none⟩,pc:=c.pn}),.agg (cnCells c),.bool true,.bool true,.agg (cnCells c),.bool true,.bool true,.bool true,.pointer (some ⟨w.heap.size,15,none⟩),.bool false,.bool true,.bool true,undef,undef,undef,undef,undef,undef,undef,undef,undef,undef] ?_
    go_upto_region 3 with (fail)
    refine vR ?_
    refine vV (.pointer (some ⟨w.heap.size,8,none⟩)) ?_
    refine vP pOut_big A 8 [.int .u32 c.oF,.string c.oD,.int .i64 c.oR] ?_
    refine vV (.string s) ?_
    refine vK (hp _) ?_
    intro qw13 qg14
    replace A:=A.since qg14
    replace Z:=Z.since qg14
    replace qB8:=qB8.since qg14
    replace H:=H.since qg14
    replace G:=G.trans qg14
    have qg14_s:=qg14.size
    refine vV (.tuple #[.agg #[.int .u32 c.oF,.string (putD c.oD c.oR s),.int .i64 c.oR],.int .i64 (putN c.oD c.oR s)]) ?_
    refine vV (.agg #[.int .u32 c.oF,.string (putD c.oD c.oR s),.int .i64 c.oR]) ?_
    refine vV (.int .i64 (putN c.oD c.oR s)) ?_
    refine vV (.pointer (some ⟨qw1.heap.size,8,none⟩)) ?_
    refine sP (cnCells {c with pa:=some ⟨g,0,none⟩,pc:=c.pn,oF:=c.oF,oD:=(putD c.oD c.oR s),oR:=c.oR}) pOut_big qB8 8 #[.int .u32 c.oF,.string (putD c.oD c.oR s),.int .i64 c.oR] (cn_size _) (by simp [Value.oneCell']) ?_
    intro qw15 qt16 qB17
    clear qB8
    replace A:=A.touch qt16 (by omega)
    replace Z:=Z.touch qt16 (by omega)
    replace H:=H.touch qt16 (by omega)
    replace G:=since_touch G qt16 (by omega)
    have qt16_s:=qt16.size
    refine vV (.int .i64 (putN c.oD c.oR s)) ?_
    refine vE #[.agg (cnCells c),.string s,.pointer (some ⟨w.heap.size,0,none⟩),undef,.pointer (some ⟨w.heap.size+1,0,none⟩),.int .i64 0,.pointer (some ⟨qw1.heap.size,0,none⟩),.int .i64 (putN c.oD c.oR s),.agg (cnCells c),.agg (cnCells {c with pa:=some ⟨g,0,none⟩,pc:=c.pn}),.agg (cnCells c),.bool true,.bool true,.agg (cnCells c),.bool true,.bool true,.bool true,.pointer (some ⟨w.heap.size,15,none⟩),.bool false,.bool true,.bool true,.tuple #[.agg #[.int .u32 c.oF,.string (putD c.oD c.oR s),.int .i64 c.oR],.int .i64 (putN c.oD c.oR s)],.pointer (some ⟨w.heap.size,8,none⟩),.agg #[.int .u32 c.oF,.string c.oD,.int .i64 c.oR],.string s,.tuple #[.agg #[.int .u32 c.oF,.string (putD c.oD c.oR s),.int .i64 c.oR],.int .i64 (putN c.oD c.oR s)],.agg #[.int .u32 c.oF,.string (putD c.oD c.oR s),.int .i64 c.oR],.int .i64 (putN c.oD c.oR s),.pointer (some ⟨qw1.heap.size,8,none⟩),undef,undef] ?_
    go_upto_region 4 with (fail)
    refine vR ?_
    refine vB cn_big qB17 (cn_size _) ?_
    refine vV (.int .i64 (putN c.oD c.oR s)) ?_
    refine sB (cnCells {c with pa:=some ⟨g,0,none⟩,pc:=c.pn,oF:=c.oF,oD:=(putD c.oD c.oR s),oR:=c.oR}) cn_big Z (cn_size _) (cn_size _) (cn_one _) ?_
    intro qw18 qt19 qB20
    clear Z
    replace A:=A.touch qt19 (by omega)
    replace qB17:=qB17.touch qt19 (by omega)
    replace H:=H.touch qt19 (by omega)
    replace G:=since_touch G qt19 (by omega)
    have qt19_s:=qt19.size
    refine vV (.int .i64 (putN c.oD c.oR s)) ?_
    refine vE #[.agg (cnCells c),.string s,.pointer (some ⟨w.heap.size,0,none⟩),undef,.pointer (some ⟨w.heap.size+1,0,none⟩),.int .i64 (putN c.oD c.oR s),.pointer (some ⟨qw1.heap.size,0,none⟩),.int .i64 (putN c.oD c.oR s),.agg (cnCells c),.agg (cnCells {c with pa:=some ⟨g,0,none⟩,pc:=c.pn}),.agg (cnCells c),.bool true,.bool true,.agg (cnCells c),.bool true,.bool true,.bool true,.pointer (some ⟨w.heap.size,15,none⟩),.bool false,.bool true,.bool true,.tuple #[.agg #[.int .u32 c.oF,.string (putD c.oD c.oR s),.int .i64 c.oR],.int .i64 (putN c.oD c.oR s)],.pointer (some ⟨w.heap.size,8,none⟩),.agg #[.int .u32 c.oF,.string c.oD,.int .i64 c.oR],.string s,.tuple #[.agg #[.int .u32 c.oF,.string (putD c.oD c.oR s),.int .i64 c.oR],.int .i64 (putN c.oD c.oR s)],.agg #[.int .u32 c.oF,.string (putD c.oD c.oR s),.int .i64 c.oR],.int .i64 (putN c.oD c.oR s),.pointer (some ⟨qw1.heap.size,8,none⟩),.agg (cnCells {c with pa:=some ⟨g,0,none⟩,pc:=c.pn,oF:=c.oF,oD:=(putD c.oD c.oR s),oR:=c.oR}),.int .i64 (putN c.oD c.oR s)] ?_
    go_wp2_with (fail)
    exact bodyPost_ret (results_cn2 (t:=4) (u:=5) rfl _ rfl qB20) rfl ⟨_,by rw [e.out,en.out];rfl,H,G⟩
end Go.Proofs.YtnbopjlpemmkcaaGreat
