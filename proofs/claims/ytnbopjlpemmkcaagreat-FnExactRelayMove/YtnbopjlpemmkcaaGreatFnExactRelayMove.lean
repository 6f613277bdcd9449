/-
  Proved: at every two pipes and every two ends impl.RelayMove answers as spec.RelayMove, writes into no argument, and its answer owns its memory (the law FnExactRelayMove returns true, and its arguments read as before); no condition (of pipes and ends of more than 1048576 bytes together the law asks nothing).
-/
import Derived.Test.YtnbopjlpemmkcaaGreatRows
import Derived.Test.YtnbopjlpemmkcaaGreatM18
import Derived.Test.YtnbopjlpemmkcaaGreatM25
import Derived.Test.YtnbopjlpemmkcaaGreatM12
import Derived.Test.YtnbopjlpemmkcaaGreatM21
import Derived.WalkKit
import Derived.ProofKit
import Derived.OpenShut
import Derived.ShutString
import Derived.ChangeOld
import Derived.Below
import Derived.Carry
namespace Go.Proofs.YtnbopjlpemmkcaaGreat.fnExactRelayMove
open Go.ChangeShapes Go.WideShapes Go.ChangeAt Go.RowKit
open Go.ChangeMaps (open_string shut_string)
set_option linter.unusedVariables false

theorem own:ownKnob Tryz.prog.godebug=none:=by kernel_rfl
theorem laidOut:laidOutB Tryz.prog=true:=by kernel_rfl

theorem heldGP {x:World} {B g n cap:Nat} {ps:List (Int×ByteArray)} {B' g' n' cap':Nat} {xs:List Sg} (h:Held shP x B g n cap ps) (k:Held shG x B' g' n' cap' xs):g≠g':=by
 intro e
 subst e
 obtain ⟨c1,h1,-⟩:=h.heap
 obtain ⟨c2,h2,-⟩:=k.heap
 rw [h1] at h2
 simp [shP,shG] at h2

set_option maxHeartbeats 16000000 in
set_option maxRecDepth 20000 in
theorem walk (rm0:Int) (d0:ByteArray) (e0:Bool) (n0:Int) (rn0:Int) (f0:ByteArray) (g0:Bool) (m0:Int) (c1:Cn) (p1:List (Int×ByteArray)) (c2:Cn) (p2:List (Int×ByteArray)) (w:World) (x0:(Lit.int .i64 rm0).wf=true∧(Lit.int .i64 rn0).wf=true) (z0:d0.size≤maxLen∧f0.size≤maxLen) (y0:(Lit.int .i64 n0).wf=true∧(Lit.int .i64 m0).wf=true) (R1:Rd shP w c1.pa c1.pn p1) (u1:WfC c1 p1) (R2:Rd shP w c2.pa c2.pn p2) (u2:WfC c2 p2) :
  Calls Tryz.prog 3 #[.agg #[.int .i64 rm0,.string d0,.bool e0,.int .i64 n0,.int .i64 rn0,.string f0,.bool g0,.int .i64 m0],.agg (cnCells c1),.agg (cnCells c2)] w fun e w'=>e=.returned (.bool true)∧Below w.heap.size w w':=by
 have hzp:=fun wx=>szRelay rm0 d0 e0 n0 rn0 f0 g0 m0 1048576 (by omega) (by have:=z0.1;unfold maxLen at this;omega) (by have:=z0.2;unfold maxLen at this;omega) wx
 have hto:=fun wx=>toRelay rm0 d0 e0 n0 rn0 f0 g0 m0 wx
 unfold rlVal at hzp hto
 have G:=Since.refl w
 by_cases q1:(d0.size:Int)≤1048576
 case neg=>
  rw [if_neg q1] at hzp
  go_enter Tryz.func3,Tryz.ntmps3
  go_upto_region 0 with (fail)
  refine vR ?_
  refine vW (w.alloc (.cells #[.int .i64 rm0,.string d0,.bool e0,.int .i64 n0,.int .i64 rn0,.string f0,.bool g0,.int .i64 m0] 25)) (.pointer (some ⟨w.heap.size,0,none⟩)) ?_
  have qB2:=Blk.new w #[.int .i64 rm0,.string d0,.bool e0,.int .i64 n0,.int .i64 rn0,.string f0,.bool g0,.int .i64 m0] 25
  have qg3:=(Since.refl w).alloc (.cells #[.int .i64 rm0,.string d0,.bool e0,.int .i64 n0,.int .i64 rn0,.string f0,.bool g0,.int .i64 m0] 25)
  replace G:=G.trans qg3
  generalize w.alloc (.cells #[.int .i64 rm0,.string d0,.bool e0,.int .i64 n0,.int .i64 rn0,.string f0,.bool g0,.int .i64 m0] 25)=qw1 at  G qB2 qg3 ⊢
  have qB2_l:=qB2.lt
  have qg3_s:=qg3.size
  refine vW (qw1.alloc (.cells (cnCells c1) 37)) (.pointer (some ⟨qw1.heap.size,0,none⟩)) ?_
  have qB5:=Blk.new qw1 (cnCells c1) 37
  have qg6:=(Since.refl qw1).alloc (.cells (cnCells c1) 37)
  replace qB2:=qB2.since qg6
  replace G:=G.trans qg6
  generalize qw1.alloc (.cells (cnCells c1) 37)=qw4 at qB2 G qB5 qg6 ⊢
  have qB5_l:=qB5.lt
  have qg6_s:=qg6.size
  refine vW (qw4.alloc (.cells (cnCells c2) 37)) (.pointer (some ⟨qw4.heap.size,0,none⟩)) ?_
  have qB8:=Blk.new qw4 (cnCells c2) 37
  have qg9:=(Since.refl qw4).alloc (.cells (cnCells c2) 37)
  replace qB2:=qB2.since qg9
  replace qB5:=qB5.since qg9
  replace G:=G.trans qg9
  generalize qw4.alloc (.cells (cnCells c2) 37)=qw7 at qB2 qB5 G qB8 qg9 ⊢
  have qB8_l:=qB8.lt
  have qg9_s:=qg9.size
  refine vV (.bool false) ?_
  refine vE #[.agg #[.int .i64 rm0,.string d0,.bool e0,.int .i64 n0,.int .i64 rn0,.string f0,.bool g0,.int .i64 m0],.agg (cnCells c1),.agg (cnCells c2),.pointer (some ⟨w.heap.size,0,none⟩),.pointer (some ⟨qw1.heap.size,0,none⟩),.pointer (some ⟨qw4.heap.size,0,none⟩),.bool false,U,U,U,U,U,U,U,U,U,U,U,U,U,U,U,U,U,U,U,U,U,U,U,U,U,U,U,U,U,U,U,U,U,U,U,U,U,U,U,U,U,U,U,U,U,U,U,U,U,U,U,U,U,U,U,U,U,U,U,U,U,U,U,U,U,U,U,U,U,U,U,U,U,U,U,U,U,U,U,U,U,U,U,U,U,U,U,U,U,U,U,U,U,U,U,U,U,U,U,U,U,U,U,U,U,U,U,U,U,U,U,U,U,U,U,U,U,U,U,U,U,U,U,U,U,U,U,U,U,U,U,U,U,U,U,U,U,U,U,U,U,U,U,U,U,U,U,U,U,U,U,U,U,U,U,U,U,U,U,U,U,U,U,U,U,U,U,U,U,U,U,U,U,U,U,U,U,U,U,U,U,U,U,U,U,U,U,U,U,U,U,U,U,U,U,U,U,U,U,U,U,U,U,U,U,U,U,U,U,U,U,U,U,U,U,U,U,U,U,U,U,U,U,U,U,U,U,U,U,U,U,U,U,U,U,U,U,U,U] ?_
  go_upto_region 2 with (fail)
  refine vR ?_
  refine vB lrl_big qB2 rfl ?_
  refine vV (.int .i64 1048576) ?_
  refine vK (hzp _) ?_
  intro qw10 qg11
  replace qB2:=qB2.since qg11
  replace qB5:=qB5.since qg11
  replace qB8:=qB8.since qg11
  replace G:=G.trans qg11
  have qg11_s:=qg11.size
  refine vV (.int .i64 (-1)) ?_
  refine vE #[.agg #[.int .i64 rm0,.string d0,.bool e0,.int .i64 n0,.int .i64 rn0,.string f0,.bool g0,.int .i64 m0],.agg (cnCells c1),.agg (cnCells c2),.pointer (some ⟨w.heap.size,0,none⟩),.pointer (some ⟨qw1.heap.size,0,none⟩),.pointer (some ⟨qw4.heap.size,0,none⟩),.bool false,.int .i64 (-1),U,U,U,U,U,U,U,U,U,U,U,U,U,U,U,U,U,U,U,U,.agg #[.int .i64 rm0,.string d0,.bool e0,.int .i64 n0,.int .i64 rn0,.string f0,.bool g0,.int .i64 m0],.int .i64 1048576,.int .i64 (-1),U,U,U,U,U,U,U,U,U,U,U,U,U,U,U,U,U,U,U,U,U,U,U,U,U,U,U,U,U,U,U,U,U,U,U,U,U,U,U,U,U,U,U,U,U,U,U,U,U,U,U,U,U,U,U,U,U,U,U,U,U,U,U,U,U,U,U,U,U,U,U,U,U,U,U,U,U,U,U,U,U,U,U,U,U,U,U,U,U,U,U,U,U,U,U,U,U,U,U,U,U,U,U,U,U,U,U,U,U,U,U,U,U,U,U,U,U,U,U,U,U,U,U,U,U,U,U,U,U,U,U,U,U,U,U,U,U,U,U,U,U,U,U,U,U,U,U,U,U,U,U,U,U,U,U,U,U,U,U,U,U,U,U,U,U,U,U,U,U,U,U,U,U,U,U,U,U,U,U,U,U,U,U,U,U,U,U,U,U,U,U,U,U,U,U,U,U,U,U,U,U,U,U,U,U,U,U,U,U,U,U,U,U,U,U] ?_
  go_wp2_with (fail)
  go_ret
  exact ⟨rfl,G⟩
 case pos=>
 rw [if_pos q1] at hzp
 by_cases q2:(f0.size:Int)≤1048576 - d0.size
 case neg=>
  rw [if_neg q2] at hzp
  go_enter Tryz.func3,Tryz.ntmps3
  go_upto_region 0 with (fail)
  refine vR ?_
  refine vW (w.alloc (.cells #[.int .i64 rm0,.string d0,.bool e0,.int .i64 n0,.int .i64 rn0,.string f0,.bool g0,.int .i64 m0] 25)) (.pointer (some ⟨w.heap.size,0,none⟩)) ?_
  have qB2:=Blk.new w #[.int .i64 rm0,.string d0,.bool e0,.int .i64 n0,.int .i64 rn0,.string f0,.bool g0,.int .i64 m0] 25
  have qg3:=(Since.refl w).alloc (.cells #[.int .i64 rm0,.string d0,.bool e0,.int .i64 n0,.int .i64 rn0,.string f0,.bool g0,.int .i64 m0] 25)
  replace G:=G.trans qg3
  generalize w.alloc (.cells #[.int .i64 rm0,.string d0,.bool e0,.int .i64 n0,.int .i64 rn0,.string f0,.bool g0,.int .i64 m0] 25)=qw1 at  G qB2 qg3 ⊢
  have qB2_l:=qB2.lt
  have qg3_s:=qg3.size
  refine vW (qw1.alloc (.cells (cnCells c1) 37)) (.pointer (some ⟨qw1.heap.size,0,none⟩)) ?_
  have qB5:=Blk.new qw1 (cnCells c1) 37
  have qg6:=(Since.refl qw1).alloc (.cells (cnCells c1) 37)
  replace qB2:=qB2.since qg6
  replace G:=G.trans qg6
  generalize qw1.alloc (.cells (cnCells c1) 37)=qw4 at qB2 G qB5 qg6 ⊢
  have qB5_l:=qB5.lt
  have qg6_s:=qg6.size
  refine vW (qw4.alloc (.cells (cnCells c2) 37)) (.pointer (some ⟨qw4.heap.size,0,none⟩)) ?_
  have qB8:=Blk.new qw4 (cnCells c2) 37
  have qg9:=(Since.refl qw4).alloc (.cells (cnCells c2) 37)
  replace qB2:=qB2.since qg9
  replace qB5:=qB5.since qg9
  replace G:=G.trans qg9
  generalize qw4.alloc (.cells (cnCells c2) 37)=qw7 at qB2 qB5 G qB8 qg9 ⊢
  have qB8_l:=qB8.lt
  have qg9_s:=qg9.size
  refine vV (.bool false) ?_
  refine vE #[.agg #[.int .i64 rm0,.string d0,.bool e0,.int .i64 n0,.int .i64 rn0,.string f0,.bool g0,.int .i64 m0],.agg (cnCells c1),.agg (cnCells c2),.pointer (some ⟨w.heap.size,0,none⟩),.pointer (some ⟨qw1.heap.size,0,none⟩),.pointer (some ⟨qw4.heap.size,0,none⟩),.bool false,U,U,U,U,U,U,U,U,U,U,U,U,U,U,U,U,U,U,U,U,U,U,U,U,U,U,U,U,U,U,U,U,U,U,U,U,U,U,U,U,U,U,U,U,U,U,U,U,U,U,U,U,U,U,U,U,U,U,U,U,U,U,U,U,U,U,U,U,U,U,U,U,U,U,U,U,U,U,U,U,U,U,U,U,U,U,U,U,U,U,U,U,U,U,U,U,U,U,U,U,U,U,U,U,U,U,U,U,U,U,U,U,U,U,U,U,U,U,U,U,U,U,U,U,U,U,U,U,U,U,U,U,U,U,U,U,U,U,U,U,U,U,U,U,U,U,U,U,U,U,U,U,U,U,U,U,U,U,U,U,U,U,U,U,U,U,U,U,U,U,U,U,U,U,U,U,U,U,U,U,U,U,U,U,U,U,U,U,U,U,U,U,U,U,U,U,U,U,U,U,U,U,U,U,U,U,U,U,U,U,U,U,U,U,U,U,U,U,U,U,U,U,U,U,U,U,U,U,U,U,U,U,U,U,U,U,U,U,U] ?_
  go_upto_region 2 with (fail)
  refine vR ?_
  refine vB lrl_big qB2 rfl ?_
  refine vV (.int .i64 1048576) ?_
  refine vK (hzp _) ?_
  intro qw10 qg11
  replace qB2:=qB2.since qg11
  replace qB5:=qB5.since qg11
  replace qB8:=qB8.since qg11
  replace G:=G.trans qg11
  have qg11_s:=qg11.size
  refine vV (.int .i64 (-1)) ?_
  refine vE #[.agg #[.int .i64 rm0,.string d0,.bool e0,.int .i64 n0,.int .i64 rn0,.string f0,.bool g0,.int .i64 m0],.agg (cnCells c1),.agg (cnCells c2),.pointer (some ⟨w.heap.size,0,none⟩),.pointer (some ⟨qw1.heap.size,0,none⟩),.pointer (some ⟨qw4.heap.size,0,none⟩),.bool false,.int .i64 (-1),U,U,U,U,U,U,U,U,U,U,U,U,U,U,U,U,U,U,U,U,.agg #[.int .i64 rm0,.string d0,.bool e0,.int .i64 n0,.int .i64 rn0,.string f0,.bool g0,.int .i64 m0],.int .i64 1048576,.int .i64 (-1),U,U,U,U,U,U,U,U,U,U,U,U,U,U,U,U,U,U,U,U,U,U,U,U,U,U,U,U,U,U,U,U,U,U,U,U,U,U,U,U,U,U,U,U,U,U,U,U,U,U,U,U,U,U,U,U,U,U,U,U,U,U,U,U,U,U,U,U,U,U,U,U,U,U,U,U,U,U,U,U,U,U,U,U,U,U,U,U,U,U,U,U,U,U,U,U,U,U,U,U,U,U,U,U,U,U,U,U,U,U,U,U,U,U,U,U,U,U,U,U,U,U,U,U,U,U,U,U,U,U,U,U,U,U,U,U,U,U,U,U,U,U,U,U,U,U,U,U,U,U,U,U,U,U,U,U,U,U,U,U,U,U,U,U,U,U,U,U,U,U,U,U,U,U,U,U,U,U,U,U,U,U,U,U,U,U,U,U,U,U,U,U,U,U,U,U,U,U,U,U,U,U,U,U,U,U,U,U,U,U,U,U,U,U,U] ?_
  go_wp2_with (fail)
  go_ret
  exact ⟨rfl,G⟩
 case pos=>
 rw [if_pos q2] at hzp
 have hl0:(0:Int)≤1048576 - d0.size - f0.size∧(1048576:Int) - d0.size - f0.size≤1048576:=by omega
 obtain ⟨l0,hl0e⟩:∃ x,Hid (x=(1048576:Int) - d0.size - f0.size):=⟨_,rfl⟩
 rw [← hl0e.out] at hzp hl0
 go_enter Tryz.func3,Tryz.ntmps3
 go_upto_region 0 with (fail)
 refine vR ?_
 refine vW (w.alloc (.cells #[.int .i64 rm0,.string d0,.bool e0,.int .i64 n0,.int .i64 rn0,.string f0,.bool g0,.int .i64 m0] 25)) (.pointer (some ⟨w.heap.size,0,none⟩)) ?_
 have qB2:=Blk.new w #[.int .i64 rm0,.string d0,.bool e0,.int .i64 n0,.int .i64 rn0,.string f0,.bool g0,.int .i64 m0] 25
 have qg3:=(Since.refl w).alloc (.cells #[.int .i64 rm0,.string d0,.bool e0,.int .i64 n0,.int .i64 rn0,.string f0,.bool g0,.int .i64 m0] 25)
 replace G:=G.trans qg3
 generalize w.alloc (.cells #[.int .i64 rm0,.string d0,.bool e0,.int .i64 n0,.int .i64 rn0,.string f0,.bool g0,.int .i64 m0] 25)=qw1 at  G qB2 qg3 ⊢
 have qB2_l:=qB2.lt
 have qg3_s:=qg3.size
 refine vW (qw1.alloc (.cells (cnCells c1) 37)) (.pointer (some ⟨qw1.heap.size,0,none⟩)) ?_
 have qB5:=Blk.new qw1 (cnCells c1) 37
 have qg6:=(Since.refl qw1).alloc (.cells (cnCells c1) 37)
 replace qB2:=qB2.since qg6
 replace G:=G.trans qg6
 generalize qw1.alloc (.cells (cnCells c1) 37)=qw4 at qB2 G qB5 qg6 ⊢
 have qB5_l:=qB5.lt
 have qg6_s:=qg6.size
 refine vW (qw4.alloc (.cells (cnCells c2) 37)) (.pointer (some ⟨qw4.heap.size,0,none⟩)) ?_
 have qB8:=Blk.new qw4 (cnCells c2) 37
 have qg9:=(Since.refl qw4).alloc (.cells (cnCells c2) 37)
 replace qB2:=qB2.since qg9
 replace qB5:=qB5.since qg9
 replace G:=G.trans qg9
 generalize qw4.alloc (.cells (cnCells c2) 37)=qw7 at qB2 qB5 G qB8 qg9 ⊢
 have qB8_l:=qB8.lt
 have qg9_s:=qg9.size
 refine vV (.bool false) ?_
 refine vE #[.agg #[.int .i64 rm0,.string d0,.bool e0,.int .i64 n0,.int .i64 rn0,.string f0,.bool g0,.int .i64 m0],.agg (cnCells c1),.agg (cnCells c2),pX w.heap.size 0,pX qw1.heap.size 0,pX qw4.heap.size 0,.bool false,U,U,U,U,U,U,U,U,U,U,U,U,U,U,U,U,U,U,U,U,U,U,U,U,U,U,U,U,U,U,U,U,U,U,U,U,U,U,U,U,U,U,U,U,U,U,U,U,U,U,U,U,U,U,U,U,U,U,U,U,U,U,U,U,U,U,U,U,U,U,U,U,U,U,U,U,U,U,U,U,U,U,U,U,U,U,U,U,U,U,U,U,U,U,U,U,U,U,U,U,U,U,U,U,U,U,U,U,U,U,U,U,U,U,U,U,U,U,U,U,U,U,U,U,U,U,U,U,U,U,U,U,U,U,U,U,U,U,U,U,U,U,U,U,U,U,U,U,U,U,U,U,U,U,U,U,U,U,U,U,U,U,U,U,U,U,U,U,U,U,U,U,U,U,U,U,U,U,U,U,U,U,U,U,U,U,U,U,U,U,U,U,U,U,U,U,U,U,U,U,U,U,U,U,U,U,U,U,U,U,U,U,U,U,U,U,U,U,U,U,U,U,U,U,U,U,U,U,U,U,U,U,U,U,U,U,U,U,U] ?_
 generalize (.agg #[.int .i64 rm0,.string d0,.bool e0,.int .i64 n0,.int .i64 rn0,.string f0,.bool g0,.int .i64 m0]:Value)=qz10
 have hS1:=fun wx (Rx:Rd shP wx c1.pa c1.pn p1)=>szConnL c1 p1 l0 hl0.1 hl0.2 u1.v_oD u1.v_iD wx Rx (fun i hi=>(u1.parts i hi).2)
 unfold cnVal at hS1
 go_upto_region 2 with (fail)
 refine vR ?_
 refine vB lrl_big qB2 rfl ?_
 refine vV (.int .i64 1048576) ?_
 refine vK (hzp _) ?_
 intro qw11 qg12
 replace qB2:=qB2.since qg12
 replace qB5:=qB5.since qg12
 replace qB8:=qB8.since qg12
 replace G:=G.trans qg12
 have qg12_s:=qg12.size
 refine vV (.int .i64 l0) ?_
 refine vE #[qz10,.agg (cnCells c1),.agg (cnCells c2),pX w.heap.size 0,pX qw1.heap.size 0,pX qw4.heap.size 0,.bool false,.int .i64 l0,U,U,U,U,U,U,U,U,U,U,U,U,U,U,U,U,U,U,U,U,.agg #[.int .i64 rm0,.string d0,.bool e0,.int .i64 n0,.int .i64 rn0,.string f0,.bool g0,.int .i64 m0],.int .i64 1048576,.int .i64 l0,U,U,U,U,U,U,U,U,U,U,U,U,U,U,U,U,U,U,U,U,U,U,U,U,U,U,U,U,U,U,U,U,U,U,U,U,U,U,U,U,U,U,U,U,U,U,U,U,U,U,U,U,U,U,U,U,U,U,U,U,U,U,U,U,U,U,U,U,U,U,U,U,U,U,U,U,U,U,U,U,U,U,U,U,U,U,U,U,U,U,U,U,U,U,U,U,U,U,U,U,U,U,U,U,U,U,U,U,U,U,U,U,U,U,U,U,U,U,U,U,U,U,U,U,U,U,U,U,U,U,U,U,U,U,U,U,U,U,U,U,U,U,U,U,U,U,U,U,U,U,U,U,U,U,U,U,U,U,U,U,U,U,U,U,U,U,U,U,U,U,U,U,U,U,U,U,U,U,U,U,U,U,U,U,U,U,U,U,U,U,U,U,U,U,U,U,U,U,U,U,U,U,U,U,U,U,U,U,U,U,U,U,U,U,U] ?_
 generalize (.agg #[.int .i64 rm0,.string d0,.bool e0,.int .i64 n0,.int .i64 rn0,.string f0,.bool g0,.int .i64 m0]:Value)=qz13
 clear hzp
 go_upto_region 5 with (fail)
 refine vR ?_
 refine vB lcn_big qB5 (cn_size _) ?_
 refine vV (.int .i64 l0) ?_
 refine vC (hS1 _ (R1.since G)) ?_
 rintro _ qw14 ⟨⟨r1,rfl,hle1,hb1⟩,qg15⟩
 refine ⟨_,rfl,?_⟩
 replace qB2:=qB2.since qg15
 replace qB5:=qB5.since qg15
 replace qB8:=qB8.since qg15
 replace G:=G.trans qg15
 have qg15_s:=qg15.size
 replace hb1:Hid _:=hb1
 refine vV (.int .i64 r1) ?_
 refine vE #[qz10,.agg (cnCells c1),.agg (cnCells c2),pX w.heap.size 0,pX qw1.heap.size 0,pX qw4.heap.size 0,.bool false,.int .i64 r1,U,U,U,U,U,U,U,U,U,U,U,U,U,U,U,U,U,U,U,U,qz13,.int .i64 1048576,.int .i64 l0,.int .i64 l0,.bool (decide (l0<0)),.agg (cnCells c1),.int .i64 l0,.int .i64 r1,U,U,U,U,U,U,U,U,U,U,U,U,U,U,U,U,U,U,U,U,U,U,U,U,U,U,U,U,U,U,U,U,U,U,U,U,U,U,U,U,U,U,U,U,U,U,U,U,U,U,U,U,U,U,U,U,U,U,U,U,U,U,U,U,U,U,U,U,U,U,U,U,U,U,U,U,U,U,U,U,U,U,U,U,U,U,U,U,U,U,U,U,U,U,U,U,U,U,U,U,U,U,U,U,U,U,U,U,U,U,U,U,U,U,U,U,U,U,U,U,U,U,U,U,U,U,U,U,U,U,U,U,U,U,U,U,U,U,U,U,U,U,U,U,U,U,U,U,U,U,U,U,U,U,U,U,U,U,U,U,U,U,U,U,U,U,U,U,U,U,U,U,U,U,U,U,U,U,U,U,U,U,U,U,U,U,U,U,U,U,U,U,U,U,U,U,U,U,U,U,U,U,U,U,U,U,U,U,U,U] ?_
 clear hS1
 rcases Int.lt_or_le r1 0 with hr1|hr1
 ·go_wp2_with (fail)
  go_ret
  exact ⟨rfl,G⟩
 have hq1:=hb1.out hr1
 clear hb1
 have gF:=good_of u1 ⟨by omega,by omega,by omega,fun i hi=>by have:=hq1.2.2.2 i hi;omega⟩
 clear hq1
 have hn1:c1.pn≤1048576:=gF.gd.hn
 have hS2:=fun wx (Rx:Rd shP wx c2.pa c2.pn p2)=>szConnL c2 p2 r1 hr1 (by omega) u2.v_oD u2.v_iD wx Rx (fun i hi=>(u2.parts i hi).2)
 unfold cnVal at hS2
 go_upto_region 8 with (fail)
 refine vR ?_
 refine vB lcn_big qB8 (cn_size _) ?_
 refine vV (.int .i64 r1) ?_
 refine vC (hS2 _ (R2.since G)) ?_
 rintro _ qw16 ⟨⟨r2,rfl,hle2,hb2⟩,qg17⟩
 refine ⟨_,rfl,?_⟩
 replace qB2:=qB2.since qg17
 replace qB5:=qB5.since qg17
 replace qB8:=qB8.since qg17
 replace G:=G.trans qg17
 have qg17_s:=qg17.size
 replace hb2:Hid _:=hb2
 refine vV (.int .i64 r2) ?_
 refine vE #[qz10,.agg (cnCells c1),.agg (cnCells c2),pX w.heap.size 0,pX qw1.heap.size 0,pX qw4.heap.size 0,.bool false,.int .i64 r2,U,U,U,U,U,U,U,U,U,U,U,U,U,U,U,U,U,U,U,U,qz13,.int .i64 1048576,.int .i64 l0,.int .i64 l0,.bool (decide (l0<0)),.agg (cnCells c1),.int .i64 l0,.int .i64 r1,.int .i64 r1,.bool (decide (r1<0)),.agg (cnCells c2),.int .i64 r1,.int .i64 r2,U,U,U,U,U,U,U,U,U,U,U,U,U,U,U,U,U,U,U,U,U,U,U,U,U,U,U,U,U,U,U,U,U,U,U,U,U,U,U,U,U,U,U,U,U,U,U,U,U,U,U,U,U,U,U,U,U,U,U,U,U,U,U,U,U,U,U,U,U,U,U,U,U,U,U,U,U,U,U,U,U,U,U,U,U,U,U,U,U,U,U,U,U,U,U,U,U,U,U,U,U,U,U,U,U,U,U,U,U,U,U,U,U,U,U,U,U,U,U,U,U,U,U,U,U,U,U,U,U,U,U,U,U,U,U,U,U,U,U,U,U,U,U,U,U,U,U,U,U,U,U,U,U,U,U,U,U,U,U,U,U,U,U,U,U,U,U,U,U,U,U,U,U,U,U,U,U,U,U,U,U,U,U,U,U,U,U,U,U,U,U,U,U,U,U,U,U,U,U,U,U,U,U,U,U] ?_
 clear hS2
 rcases Int.lt_or_le r2 0 with hr2|hr2
 ·go_wp2_with (fail)
  go_ret
  exact ⟨rfl,G⟩
 have hq2:=hb2.out hr2
 clear hb2
 have gT:=good_of u2 ⟨by omega,by omega,by omega,fun i hi=>by have:=hq2.2.2.2 i hi;omega⟩
 clear hq2
 have hn2:c2.pn≤1048576:=gT.gd.hn
 have hT1:=fun wx (Rx:Rd shP wx c1.pa c1.pn p1)=>toConn c1 p1 hn1 wx Rx
 have hT2:=fun wx (Rx:Rd shP wx c2.pa c2.pn p2)=>toConn c2 p2 hn2 wx Rx
 unfold cnVal at hT1 hT2
 obtain ⟨A,hA⟩:∃ A,A=rlAns (rlWay rm0 d0 n0 rn0 f0 m0 c1 p1 c2 p2) rm0 d0 e0 n0 rn0 f0 g0 m0 c1 p1 c2 p2:=⟨_,rfl⟩
 have hs:=fun q q2 wx Rx Ry=>specRelayE rm0 d0 e0 n0 rn0 f0 g0 m0 c1 p1 c2 p2 gF gT (by omega) (by omega) q c1.pn q2 c2.pn wx Rx Ry A hA
 have hi:=fun q q2 wx Rx Ry=>implRelayE rm0 d0 e0 n0 rn0 f0 g0 m0 c1 p1 c2 p2 gF gT (by omega) (by omega) q c1.pn q2 c2.pn wx Rx Ry A hA
 have hDF:A.L.pn=c1.pn:=by rw [hA];exact (rlAns_pn _ _ _ _ _ _ _ _ _ _ _ _ _).1
 have hDT:A.R.pn=c2.pn:=by rw [hA];exact (rlAns_pn _ _ _ _ _ _ _ _ _ _ _ _ _).2
 have hla:A.xa.length≤1:=by rw [hA];exact (rlAns_len _ _ _ _ _ _ _ _ _ _ _ _ _).1
 have hlb:A.xb.length≤1:=by rw [hA];exact (rlAns_len _ _ _ _ _ _ _ _ _ _ _ _ _).2
 clear hA
 have he:=fun wx=>eqRelay rm0 A.d A.e A.n rn0 A.f A.g A.m wx
 unfold rlVal at he
 generalize A.d=xD at hs hi he
 generalize A.e=xE at hs hi he
 generalize A.n=xN at hs hi he
 generalize A.f=yD at hs hi he
 generalize A.g=yE at hs hi he
 generalize A.m=yN at hs hi he
 generalize A.L=DF at hs hi hDF
 generalize A.R=DT at hs hi hDT
 generalize A.xa=XA at hs hi hla
 generalize A.xb=XB at hs hi hlb
 generalize hna:XA.length=na at hs hi hla
 generalize hnb:XB.length=nb at hs hi hlb
 clear hna hnb
 have hm1:DF.pn≤1048576:=by omega
 have hm2:DT.pn≤1048576:=by omega
 replace hDF:Hid _:=hDF
 replace hDT:Hid _:=hDT
 have kF:=fun q q2 p p2 B B2 wx (T1:Held shP wx B q DF.pn p p1) (T2:Held shP wx B2 q2 DF.pn p2 p1)=>eqCn DF q p q2 p2 p1 hm1 wx T1.reads T2.reads
 have kT:=fun q q2 p p3 B B2 wx (T1:Held shP wx B q DT.pn p p2) (T2:Held shP wx B2 q2 DT.pn p3 p2)=>eqCn DT q p q2 p3 p2 hm2 wx T1.reads T2.reads
 have k1:=fun q q2 p p2 wx Rx Qx=>eqCn c1 q p q2 p2 p1 hn1 wx Rx Qx
 have k2:=fun q q2 p p3 wx Rx Qx=>eqCn c2 q p q2 p3 p2 hn2 wx Rx Qx
 go_upto_region 11 with (fail)
 have hg_1:=G.size
 refine wp_region_low KeepsT (fun i x v=>match i with
   | 0=>v=.agg #[.int .i64 rm0,.string d0,.bool e0,.int .i64 n0,.int .i64 rn0,.string f0,.bool g0,.int .i64 m0]
   | 1=>v=.agg #[.int .i64 rm0,.string d0,.bool e0,.int .i64 n0,.int .i64 rn0,.string f0,.bool g0,.int .i64 m0]
   | 2=>v=.agg (cnCells c1)
   | 3=>∃ q,v=.agg (cnCells {c1 with pa:=some ⟨q,0,none⟩,pc:=c1.pn})∧Held shP x qw16.heap.size q c1.pn c1.pn p1
   | 4=>v=.agg (cnCells c2)
   | 5=>∃ q,v=.agg (cnCells {c2 with pa:=some ⟨q,0,none⟩,pc:=c2.pn})∧Held shP x qw16.heap.size q c2.pn c2.pn p2
   | 6=>∃ g1 cp1 gg1 cpp1 ga1 ca1 gb1 cb1,v=.tuple #[.agg #[.int .i64 rm0,.string xD,.bool xE,.int .i64 xN,.int .i64 rn0,.string yD,.bool yE,.int .i64 yN],.agg (cnCells {DF with pa:=some ⟨g1,0,none⟩,pc:=cp1}),.agg (cnCells {DT with pa:=some ⟨gg1,0,none⟩,pc:=cpp1}),.slice (some ⟨ga1,0,none⟩) na ca1,.slice (some ⟨gb1,0,none⟩) nb cb1]∧Held shP x qw16.heap.size g1 c1.pn cp1 p1∧Held shP x qw16.heap.size gg1 c2.pn cpp1 p2∧Held shG x qw16.heap.size ga1 na ca1 XA∧Held shG x qw16.heap.size gb1 nb cb1 XB
   | 7=>∃ g1 cp1 gg1 cpp1 ga1 ca1 gb1 cb1,v=.tuple #[.agg #[.int .i64 rm0,.string xD,.bool xE,.int .i64 xN,.int .i64 rn0,.string yD,.bool yE,.int .i64 yN],.agg (cnCells {DF with pa:=some ⟨g1,0,none⟩,pc:=cp1}),.agg (cnCells {DT with pa:=some ⟨gg1,0,none⟩,pc:=cpp1}),.slice (some ⟨ga1,0,none⟩) na ca1,.slice (some ⟨gb1,0,none⟩) nb cb1]∧Held shP x qw16.heap.size g1 c1.pn cp1 p1∧Held shP x qw16.heap.size gg1 c2.pn cpp1 p2∧Held shG x qw16.heap.size ga1 na ca1 XA∧Held shG x qw16.heap.size gb1 nb cb1 XB
   | 13=>∃ b,v=.pointer (some ⟨b,0,none⟩)∧qw16.heap.size≤b∧Typed 42 8 b x
   | 14=>∃ b,v=.pointer (some ⟨b,0,none⟩)∧qw16.heap.size≤b∧Typed 50 37 b x
   | 15=>∃ b,v=.pointer (some ⟨b,0,none⟩)∧qw16.heap.size≤b∧Typed 50 37 b x
   | _=>True)
   (fun f vals x=>Since qw16 x∧(f 8=true→f 7=true∧∀ a0 a1 a2 a3 a4,vals 7=.tuple #[a0,a1,a2,a3,a4]→vals 8=a0)∧(f 9=true→f 7=true∧∀ a0 a1 a2 a3 a4,vals 7=.tuple #[a0,a1,a2,a3,a4]→vals 9=a1)∧(f 10=true→f 7=true∧∀ a0 a1 a2 a3 a4,vals 7=.tuple #[a0,a1,a2,a3,a4]→vals 10=a2)∧(f 11=true→f 7=true∧∀ a0 a1 a2 a3 a4,vals 7=.tuple #[a0,a1,a2,a3,a4]→vals 11=a3)∧(f 12=true→f 7=true∧∀ a0 a1 a2 a3 a4,vals 7=.tuple #[a0,a1,a2,a3,a4]→vals 12=a4)∧(f 13=true→∃ b,vals 13=.pointer (some ⟨b,0,none⟩)∧b<x.heap.size)∧(f 14=true→∃ b,vals 14=.pointer (some ⟨b,0,none⟩)∧b<x.heap.size)∧(f 15=true→∃ b,vals 15=.pointer (some ⟨b,0,none⟩)∧b<x.heap.size)∧(f 13=true→f 14=true→vals 13≠vals 14)∧(f 13=true→f 15=true→vals 13≠vals 15)∧(f 14=true→f 15=true→vals 14≠vals 15)∧(f 16=true→f 13=true∧f 8=true∧∃ b cs,vals 13=.pointer (some ⟨b,0,none⟩)∧vals 8=.agg cs∧Blk b x cs)∧(f 17=true→f 14=true∧f 9=true∧∃ b cs,vals 14=.pointer (some ⟨b,0,none⟩)∧vals 9=.agg cs∧Blk b x cs)∧(f 18=true→f 15=true∧f 10=true∧∃ b cs,vals 15=.pointer (some ⟨b,0,none⟩)∧vals 10=.agg cs∧Blk b x cs)∧(f 19=true→f 7=true∧∀ a0 a1 a2 a3 a4,vals 7=.tuple #[a0,a1,a2,a3,a4]→vals 19=a3)∧(f 20=true→f 7=true∧∀ a0 a1 a2 a3 a4,vals 7=.tuple #[a0,a1,a2,a3,a4]→vals 20=a4))
   (fun v=>{tmps:=#[qz10,.agg (cnCells c1),.agg (cnCells c2),.pointer (some ⟨w.heap.size,0,none⟩),.pointer (some ⟨qw1.heap.size,0,none⟩),.pointer (some ⟨qw4.heap.size,0,none⟩),.bool false,.int .i64 r2,v 13,v 14,v 15,v 19,v 20,U,U,U,U,U,U,U,U,U,U,U,U,U,U,U,qz13,.int .i64 1048576,.int .i64 l0,.int .i64 l0,.bool (decide (l0<0)),.agg (cnCells c1),.int .i64 l0,.int .i64 r1,.int .i64 r1,.bool (decide (r1<0)),.agg (cnCells c2),.int .i64 r1,.int .i64 r2,.int .i64 r2,.bool (decide (r2<0)),v 7,v 0,v 1,v 2,v 3,v 4,v 5,v 6,v 8,v 9,v 10,v 11,v 12,U,U,U,U,U,U,U,U,U,U,U,U,U,U,U,U,U,U,U,U,U,U,U,U,U,U,U,U,U,U,U,U,U,U,U,U,U,U,U,U,U,U,U,U,U,U,U,U,U,U,U,U,U,U,U,U,U,U,U,U,U,U,U,U,U,U,U,U,U,U,U,U,U,U,U,U,U,U,U,U,U,U,U,U,U,U,U,U,U,U,U,U,U,U,U,U,U,U,U,U,U,U,U,U,U,U,U,U,U,U,U,U,U,U,U,U,U,U,U,U,U,U,U,U,U,U,U,U,U,U,U,U,U,U,U,U,U,U,U,U,U,U,U,U,U,U,U,U,U,U,U,U,U,U,U,U,U,U,U,U,U,U,U,U,U,U,U,U,U,U,U,U,U,U,U,U,U,U,U,U,U,U,U,U,U,U,U,U,U,undef],defers:=[]}) (by kernel_rfl) (by kernel_rfl) ?_ ?_ (fun vals=>by kernel_rfl) ?_ ?_
 case refine_1=>
  intro j x y v hl hv
  match j,hv with
  | 0,hv=>exact hv
  | 1,hv=>exact hv
  | 2,hv=>exact hv
  | 3,⟨q,e,H⟩=>exact ⟨q,e,hl.1 _ _ _ _ _ H⟩
  | 4,hv=>exact hv
  | 5,⟨q,e,H⟩=>exact ⟨q,e,hl.1 _ _ _ _ _ H⟩
  | 6,⟨g1,cp1,gg1,cpp1,ga1,ca1,gb1,cb1,e,H1,K1,La1,Lb1⟩=>exact ⟨g1,cp1,gg1,cpp1,ga1,ca1,gb1,cb1,e,hl.1 _ _ _ _ _ H1,hl.1 _ _ _ _ _ K1,hl.2.2 _ _ _ _ _ La1,hl.2.2 _ _ _ _ _ Lb1⟩
  | 7,⟨g1,cp1,gg1,cpp1,ga1,ca1,gb1,cb1,e,H1,K1,La1,Lb1⟩=>exact ⟨g1,cp1,gg1,cpp1,ga1,ca1,gb1,cb1,e,hl.1 _ _ _ _ _ H1,hl.1 _ _ _ _ _ K1,hl.2.2 _ _ _ _ _ La1,hl.2.2 _ _ _ _ _ Lb1⟩
  | 13,⟨b,e,l,t⟩=>exact ⟨b,e,l,hl.2.1 _ _ _ t⟩
  | 14,⟨b,e,l,t⟩=>exact ⟨b,e,l,hl.2.1 _ _ _ t⟩
  | 15,⟨b,e,l,t⟩=>exact ⟨b,e,l,hl.2.1 _ _ _ t⟩
  | 8,_|9,_|10,_|11,_|12,_|16,_|17,_|18,_|19,_|20,_=>trivial
  | n+21,_=>trivial
 case refine_2=>
  intro f vals hf
  exact ⟨((Since.refl _).drew),(fun h=>by rw [hf 8] at h;cases h),(fun h=>by rw [hf 9] at h;cases h),(fun h=>by rw [hf 10] at h;cases h),(fun h=>by rw [hf 11] at h;cases h),(fun h=>by rw [hf 12] at h;cases h),(fun h=>by rw [hf 13] at h;cases h),(fun h=>by rw [hf 14] at h;cases h),(fun h=>by rw [hf 15] at h;cases h),(fun h=>by rw [hf 13] at h;cases h),(fun h=>by rw [hf 13] at h;cases h),(fun h=>by rw [hf 14] at h;cases h),(fun h=>by rw [hf 16] at h;cases h),(fun h=>by rw [hf 17] at h;cases h),(fun h=>by rw [hf 18] at h;cases h),(fun h=>by rw [hf 19] at h;cases h),(fun h=>by rw [hf 20] at h;cases h)⟩
 case refine_3=>
  repeat (first|exact eachLow_nil|refine eachLow_cons ?_ ?_)
  all_goals intro f vals x hf hr hK
  all_goals obtain ⟨k0,x0,x1,x2,x3,x4,b0,b1,b2,d01,d02,d12,s0,s1,s2,ay0,ay1⟩:=hK
  ·obtain ⟨fe,-⟩:=hr ⟨12,.data⟩ (by simp) rfl
   refine does_v (vals 12) ?_ ?_
   ·simp [execOp,go_sem]
   exact ⟨KeepsT.of_since (Since.refl _),⟨k0,x0,x1,x2,x3,x4,b0,b1,b2,d01,d02,d12,s0,s1,s2,ay0,(fun _=>⟨(x4 fe).1,fun a0 a1 a2 a3 a4 h=>(x4 fe).2 a0 a1 a2 a3 a4 h⟩)⟩,trivial⟩
  ·obtain ⟨fe,-⟩:=hr ⟨11,.data⟩ (by simp) rfl
   refine does_v (vals 11) ?_ ?_
   ·simp [execOp,go_sem]
   exact ⟨KeepsT.of_since (Since.refl _),⟨k0,x0,x1,x2,x3,x4,b0,b1,b2,d01,d02,d12,s0,s1,s2,(fun _=>⟨(x3 fe).1,fun a0 a1 a2 a3 a4 h=>(x3 fe).2 a0 a1 a2 a3 a4 h⟩),ay1⟩,trivial⟩
  ·obtain ⟨fa,b,ea,la,ta⟩:=hr ⟨15,.data⟩ (by simp) rfl
   obtain ⟨fe,-⟩:=hr ⟨10,.data⟩ (by simp) rfl
   obtain ⟨-,g1,cp1,gg1,cpp1,ga1,ca1,gb1,cb1,e7,-⟩:=hr ⟨7,.phase⟩ (by simp) rfl
   have ee:=(x2 fe).2 _ _ _ _ _ e7
   refine does_storeT cn_big (cn_size _) ta (by decide) (cn_one _) _ _ rfl ea ee ?_
   intro z hk t B
   exact ⟨hk,⟨since_touch k0 t la,x0,x1,x2,x3,x4,(fun h=>by obtain ⟨b,e,l⟩:=b0 h;exact ⟨b,e,Nat.lt_of_lt_of_le l t.size⟩),(fun h=>by obtain ⟨b,e,l⟩:=b1 h;exact ⟨b,e,Nat.lt_of_lt_of_le l t.size⟩),(fun h=>by obtain ⟨b,e,l⟩:=b2 h;exact ⟨b,e,Nat.lt_of_lt_of_le l t.size⟩),d01,d02,d12,(fun h=>by obtain ⟨f1,f2,b',cs',e1,e2,B'⟩:=s0 h;exact ⟨f1,f2,b',cs',e1,e2,B'.touch t (fun q=>d02 f1 fa (by rw [e1,ea,q]))⟩),(fun h=>by obtain ⟨f1,f2,b',cs',e1,e2,B'⟩:=s1 h;exact ⟨f1,f2,b',cs',e1,e2,B'.touch t (fun q=>d12 f1 fa (by rw [e1,ea,q]))⟩),(fun _=>⟨fa,fe,b,_,ea,ee,B⟩),ay0,ay1⟩,trivial⟩
  ·obtain ⟨fa,b,ea,la,ta⟩:=hr ⟨14,.data⟩ (by simp) rfl
   obtain ⟨fe,-⟩:=hr ⟨9,.data⟩ (by simp) rfl
   obtain ⟨-,g1,cp1,gg1,cpp1,ga1,ca1,gb1,cb1,e7,-⟩:=hr ⟨7,.phase⟩ (by simp) rfl
   have ee:=(x1 fe).2 _ _ _ _ _ e7
   refine does_storeT cn_big (cn_size _) ta (by decide) (cn_one _) _ _ rfl ea ee ?_
   intro z hk t B
   exact ⟨hk,⟨since_touch k0 t la,x0,x1,x2,x3,x4,(fun h=>by obtain ⟨b,e,l⟩:=b0 h;exact ⟨b,e,Nat.lt_of_lt_of_le l t.size⟩),(fun h=>by obtain ⟨b,e,l⟩:=b1 h;exact ⟨b,e,Nat.lt_of_lt_of_le l t.size⟩),(fun h=>by obtain ⟨b,e,l⟩:=b2 h;exact ⟨b,e,Nat.lt_of_lt_of_le l t.size⟩),d01,d02,d12,(fun h=>by obtain ⟨f1,f2,b',cs',e1,e2,B'⟩:=s0 h;exact ⟨f1,f2,b',cs',e1,e2,B'.touch t (fun q=>d01 f1 fa (by rw [e1,ea,q]))⟩),(fun _=>⟨fa,fe,b,_,ea,ee,B⟩),(fun h=>by obtain ⟨f1,f2,b',cs',e1,e2,B'⟩:=s2 h;exact ⟨f1,f2,b',cs',e1,e2,B'.touch t (fun q=>d12 fa f1 (by rw [e1,ea,q]))⟩),ay0,ay1⟩,trivial⟩
  ·obtain ⟨fa,b,ea,la,ta⟩:=hr ⟨13,.data⟩ (by simp) rfl
   obtain ⟨fe,-⟩:=hr ⟨8,.data⟩ (by simp) rfl
   obtain ⟨-,g1,cp1,gg1,cpp1,ga1,ca1,gb1,cb1,e7,-⟩:=hr ⟨7,.phase⟩ (by simp) rfl
   have ee:=(x0 fe).2 _ _ _ _ _ e7
   refine does_storeT rl_big rfl ta (by decide) (by simp [Value.oneCell']) _ _ rfl ea ee ?_
   intro z hk t B
   exact ⟨hk,⟨since_touch k0 t la,x0,x1,x2,x3,x4,(fun h=>by obtain ⟨b,e,l⟩:=b0 h;exact ⟨b,e,Nat.lt_of_lt_of_le l t.size⟩),(fun h=>by obtain ⟨b,e,l⟩:=b1 h;exact ⟨b,e,Nat.lt_of_lt_of_le l t.size⟩),(fun h=>by obtain ⟨b,e,l⟩:=b2 h;exact ⟨b,e,Nat.lt_of_lt_of_le l t.size⟩),d01,d02,d12,(fun _=>⟨fa,fe,b,_,ea,ee,B⟩),(fun h=>by obtain ⟨f1,f2,b',cs',e1,e2,B'⟩:=s1 h;exact ⟨f1,f2,b',cs',e1,e2,B'.touch t (fun q=>d01 fa f1 (by rw [e1,ea,q]))⟩),(fun h=>by obtain ⟨f1,f2,b',cs',e1,e2,B'⟩:=s2 h;exact ⟨f1,f2,b',cs',e1,e2,B'.touch t (fun q=>d02 fa f1 (by rw [e1,ea,q]))⟩),ay0,ay1⟩,trivial⟩
  ·have h1:=(Since.refl x).alloc (.cells (cnCells cnZero) 50)
   refine does_w (.pointer (some ⟨x.heap.size,0,none⟩)) (x.alloc (.cells (cnCells cnZero) 50)) (by kernel_rfl) ?_
   exact ⟨KeepsT.of_since h1,⟨k0.trans h1,x0,x1,x2,x3,x4,(fun h=>by obtain ⟨b,e,l⟩:=b0 h;exact ⟨b,e,Nat.lt_of_lt_of_le l h1.size⟩),(fun h=>by obtain ⟨b,e,l⟩:=b1 h;exact ⟨b,e,Nat.lt_of_lt_of_le l h1.size⟩),(fun _=>⟨_,rfl,by rw [World.size_alloc]<;>omega⟩),d01,(fun h _ q=>by obtain ⟨b,e,l⟩:=b0 h;have q2:vals 13=Value.pointer (some ⟨x.heap.size,0,none⟩):=q;rw [e] at q2;simp at q2<;>omega),(fun h _ q=>by obtain ⟨b,e,l⟩:=b1 h;have q2:vals 14=Value.pointer (some ⟨x.heap.size,0,none⟩):=q;rw [e] at q2;simp at q2<;>omega),(fun h=>by obtain ⟨f1,f2,b,cs,e1,e2,B⟩:=s0 h;exact ⟨f1,f2,b,cs,e1,e2,B.since h1⟩),(fun h=>by obtain ⟨f1,f2,b,cs,e1,e2,B⟩:=s1 h;exact ⟨f1,f2,b,cs,e1,e2,B.since h1⟩),(fun h=>absurd ((s2 h).1) (by rw [hf];decide)),ay0,ay1⟩,_,rfl,k0.size,Typed.new _ _ _ (cn_size _)⟩
  ·have h1:=(Since.refl x).alloc (.cells (cnCells cnZero) 50)
   refine does_w (.pointer (some ⟨x.heap.size,0,none⟩)) (x.alloc (.cells (cnCells cnZero) 50)) (by kernel_rfl) ?_
   exact ⟨KeepsT.of_since h1,⟨k0.trans h1,x0,x1,x2,x3,x4,(fun h=>by obtain ⟨b,e,l⟩:=b0 h;exact ⟨b,e,Nat.lt_of_lt_of_le l h1.size⟩),(fun _=>⟨_,rfl,by rw [World.size_alloc]<;>omega⟩),(fun h=>by obtain ⟨b,e,l⟩:=b2 h;exact ⟨b,e,Nat.lt_of_lt_of_le l h1.size⟩),(fun h _ q=>by obtain ⟨b,e,l⟩:=b0 h;have q2:vals 13=Value.pointer (some ⟨x.heap.size,0,none⟩):=q;rw [e] at q2;simp at q2<;>omega),d02,(fun _ h q=>by obtain ⟨b,e,l⟩:=b2 h;have q2:Value.pointer (some ⟨x.heap.size,0,none⟩)=vals 15:=q;rw [e] at q2;simp at q2<;>omega),(fun h=>by obtain ⟨f1,f2,b,cs,e1,e2,B⟩:=s0 h;exact ⟨f1,f2,b,cs,e1,e2,B.since h1⟩),(fun h=>absurd ((s1 h).1) (by rw [hf];decide)),(fun h=>by obtain ⟨f1,f2,b,cs,e1,e2,B⟩:=s2 h;exact ⟨f1,f2,b,cs,e1,e2,B.since h1⟩),ay0,ay1⟩,_,rfl,k0.size,Typed.new _ _ _ (cn_size _)⟩
  ·have h1:=(Since.refl x).alloc (.cells #[.int .i64 0,.string ByteArray.empty,.bool false,.int .i64 0,.int .i64 0,.string ByteArray.empty,.bool false,.int .i64 0] 42)
   refine does_w (.pointer (some ⟨x.heap.size,0,none⟩)) (x.alloc (.cells #[.int .i64 0,.string ByteArray.empty,.bool false,.int .i64 0,.int .i64 0,.string ByteArray.empty,.bool false,.int .i64 0] 42)) (by kernel_rfl) ?_
   exact ⟨KeepsT.of_since h1,⟨k0.trans h1,x0,x1,x2,x3,x4,(fun _=>⟨_,rfl,by rw [World.size_alloc]<;>omega⟩),(fun h=>by obtain ⟨b,e,l⟩:=b1 h;exact ⟨b,e,Nat.lt_of_lt_of_le l h1.size⟩),(fun h=>by obtain ⟨b,e,l⟩:=b2 h;exact ⟨b,e,Nat.lt_of_lt_of_le l h1.size⟩),(fun _ h q=>by obtain ⟨b,e,l⟩:=b1 h;have q2:Value.pointer (some ⟨x.heap.size,0,none⟩)=vals 14:=q;rw [e] at q2;simp at q2<;>omega),(fun _ h q=>by obtain ⟨b,e,l⟩:=b2 h;have q2:Value.pointer (some ⟨x.heap.size,0,none⟩)=vals 15:=q;rw [e] at q2;simp at q2<;>omega),d12,(fun h=>absurd ((s0 h).1) (by rw [hf];decide)),(fun h=>by obtain ⟨f1,f2,b,cs,e1,e2,B⟩:=s1 h;exact ⟨f1,f2,b,cs,e1,e2,B.since h1⟩),(fun h=>by obtain ⟨f1,f2,b,cs,e1,e2,B⟩:=s2 h;exact ⟨f1,f2,b,cs,e1,e2,B.since h1⟩),ay0,ay1⟩,_,rfl,k0.size,Typed.new _ _ _ rfl⟩
  ·obtain ⟨f7,g1,cp1,gg1,cpp1,ga1,ca1,gb1,cb1,e7,-⟩:=hr ⟨7,.data⟩ (by simp) rfl
   replace e7:vals 7=.tuple #[.agg #[.int .i64 rm0,.string xD,.bool xE,.int .i64 xN,.int .i64 rn0,.string yD,.bool yE,.int .i64 yN],.agg (cnCells {DF with pa:=some ⟨g1,0,none⟩,pc:=cp1}),.agg (cnCells {DT with pa:=some ⟨gg1,0,none⟩,pc:=cpp1}),.slice (some ⟨ga1,0,none⟩) na ca1,.slice (some ⟨gb1,0,none⟩) nb cb1]:=e7
   refine does_v (.slice (some ⟨gb1,0,none⟩) nb cb1) ?_ ?_
   ·simp [execOp,go_sem,e7]
   exact ⟨KeepsT.of_since (Since.refl _),⟨k0,x0,x1,x2,x3,(fun _=>⟨f7,fun a0 a1 a2 a3 a4 h=>by replace h:vals 7=.tuple #[a0,a1,a2,a3,a4]:=h;rw [e7] at h;exact Option.some.inj (congrArg (fun q:Array Value=>q[4]?) (Value.tuple.inj h))⟩),b0,b1,b2,d01,d02,d12,s0,s1,s2,ay0,ay1⟩,trivial⟩
  ·obtain ⟨f7,g1,cp1,gg1,cpp1,ga1,ca1,gb1,cb1,e7,-⟩:=hr ⟨7,.data⟩ (by simp) rfl
   replace e7:vals 7=.tuple #[.agg #[.int .i64 rm0,.string xD,.bool xE,.int .i64 xN,.int .i64 rn0,.string yD,.bool yE,.int .i64 yN],.agg (cnCells {DF with pa:=some ⟨g1,0,none⟩,pc:=cp1}),.agg (cnCells {DT with pa:=some ⟨gg1,0,none⟩,pc:=cpp1}),.slice (some ⟨ga1,0,none⟩) na ca1,.slice (some ⟨gb1,0,none⟩) nb cb1]:=e7
   refine does_v (.slice (some ⟨ga1,0,none⟩) na ca1) ?_ ?_
   ·simp [execOp,go_sem,e7]
   exact ⟨KeepsT.of_since (Since.refl _),⟨k0,x0,x1,x2,(fun _=>⟨f7,fun a0 a1 a2 a3 a4 h=>by replace h:vals 7=.tuple #[a0,a1,a2,a3,a4]:=h;rw [e7] at h;exact Option.some.inj (congrArg (fun q:Array Value=>q[3]?) (Value.tuple.inj h))⟩),x4,b0,b1,b2,d01,d02,d12,s0,s1,s2,ay0,ay1⟩,trivial⟩
  ·obtain ⟨f7,g1,cp1,gg1,cpp1,ga1,ca1,gb1,cb1,e7,-⟩:=hr ⟨7,.data⟩ (by simp) rfl
   replace e7:vals 7=.tuple #[.agg #[.int .i64 rm0,.string xD,.bool xE,.int .i64 xN,.int .i64 rn0,.string yD,.bool yE,.int .i64 yN],.agg (cnCells {DF with pa:=some ⟨g1,0,none⟩,pc:=cp1}),.agg (cnCells {DT with pa:=some ⟨gg1,0,none⟩,pc:=cpp1}),.slice (some ⟨ga1,0,none⟩) na ca1,.slice (some ⟨gb1,0,none⟩) nb cb1]:=e7
   refine does_v (.agg (cnCells {DT with pa:=some ⟨gg1,0,none⟩,pc:=cpp1})) ?_ ?_
   ·simp [execOp,go_sem,e7]
   exact ⟨KeepsT.of_since (Since.refl _),⟨k0,x0,x1,(fun _=>⟨f7,fun a0 a1 a2 a3 a4 h=>by replace h:vals 7=.tuple #[a0,a1,a2,a3,a4]:=h;rw [e7] at h;exact Option.some.inj (congrArg (fun q:Array Value=>q[2]?) (Value.tuple.inj h))⟩),x3,x4,b0,b1,b2,d01,d02,d12,s0,s1,(fun h=>absurd ((s2 h).2.1) (by rw [hf];decide)),ay0,ay1⟩,trivial⟩
  ·obtain ⟨f7,g1,cp1,gg1,cpp1,ga1,ca1,gb1,cb1,e7,-⟩:=hr ⟨7,.data⟩ (by simp) rfl
   replace e7:vals 7=.tuple #[.agg #[.int .i64 rm0,.string xD,.bool xE,.int .i64 xN,.int .i64 rn0,.string yD,.bool yE,.int .i64 yN],.agg (cnCells {DF with pa:=some ⟨g1,0,none⟩,pc:=cp1}),.agg (cnCells {DT with pa:=some ⟨gg1,0,none⟩,pc:=cpp1}),.slice (some ⟨ga1,0,none⟩) na ca1,.slice (some ⟨gb1,0,none⟩) nb cb1]:=e7
   refine does_v (.agg (cnCells {DF with pa:=some ⟨g1,0,none⟩,pc:=cp1})) ?_ ?_
   ·simp [execOp,go_sem,e7]
   exact ⟨KeepsT.of_since (Since.refl _),⟨k0,x0,(fun _=>⟨f7,fun a0 a1 a2 a3 a4 h=>by replace h:vals 7=.tuple #[a0,a1,a2,a3,a4]:=h;rw [e7] at h;exact Option.some.inj (congrArg (fun q:Array Value=>q[1]?) (Value.tuple.inj h))⟩),x2,x3,x4,b0,b1,b2,d01,d02,d12,s0,(fun h=>absurd ((s1 h).2.1) (by rw [hf];decide)),s2,ay0,ay1⟩,trivial⟩
  ·obtain ⟨f7,g1,cp1,gg1,cpp1,ga1,ca1,gb1,cb1,e7,-⟩:=hr ⟨7,.data⟩ (by simp) rfl
   replace e7:vals 7=.tuple #[.agg #[.int .i64 rm0,.string xD,.bool xE,.int .i64 xN,.int .i64 rn0,.string yD,.bool yE,.int .i64 yN],.agg (cnCells {DF with pa:=some ⟨g1,0,none⟩,pc:=cp1}),.agg (cnCells {DT with pa:=some ⟨gg1,0,none⟩,pc:=cpp1}),.slice (some ⟨ga1,0,none⟩) na ca1,.slice (some ⟨gb1,0,none⟩) nb cb1]:=e7
   refine does_v (.agg #[.int .i64 rm0,.string xD,.bool xE,.int .i64 xN,.int .i64 rn0,.string yD,.bool yE,.int .i64 yN]) ?_ ?_
   ·simp [execOp,go_sem,e7]
   exact ⟨KeepsT.of_since (Since.refl _),⟨k0,(fun _=>⟨f7,fun a0 a1 a2 a3 a4 h=>by replace h:vals 7=.tuple #[a0,a1,a2,a3,a4]:=h;rw [e7] at h;exact Option.some.inj (congrArg (fun q:Array Value=>q[0]?) (Value.tuple.inj h))⟩),x1,x2,x3,x4,b0,b1,b2,d01,d02,d12,(fun h=>absurd ((s0 h).2.1) (by rw [hf];decide)),s1,s2,ay0,ay1⟩,trivial⟩
  ·obtain ⟨f6,g1,cp1,gg1,cpp1,ga1,ca1,gb1,cb1,e6,h6⟩:=hr ⟨6,.data⟩ (by simp) rfl
   refine does_v (.tuple #[.agg #[.int .i64 rm0,.string xD,.bool xE,.int .i64 xN,.int .i64 rn0,.string yD,.bool yE,.int .i64 yN],.agg (cnCells {DF with pa:=some ⟨g1,0,none⟩,pc:=cp1}),.agg (cnCells {DT with pa:=some ⟨gg1,0,none⟩,pc:=cpp1}),.slice (some ⟨ga1,0,none⟩) na ca1,.slice (some ⟨gb1,0,none⟩) nb cb1]) ?_ ?_
   ·simp [execOp,go_sem,e6]
   exact ⟨KeepsT.of_since (Since.refl _),⟨k0,(fun h=>absurd ((x0 h).1) (by rw [hf];decide)),(fun h=>absurd ((x1 h).1) (by rw [hf];decide)),(fun h=>absurd ((x2 h).1) (by rw [hf];decide)),(fun h=>absurd ((x3 h).1) (by rw [hf];decide)),(fun h=>absurd ((x4 h).1) (by rw [hf];decide)),b0,b1,b2,d01,d02,d12,s0,s1,s2,(fun h=>absurd ((ay0 h).1) (by rw [hf];decide)),(fun h=>absurd ((ay1 h).1) (by rw [hf];decide))⟩,g1,cp1,gg1,cpp1,ga1,ca1,gb1,cb1,rfl,h6⟩
  ·have e1:vals 1=.agg #[.int .i64 rm0,.string d0,.bool e0,.int .i64 n0,.int .i64 rn0,.string f0,.bool g0,.int .i64 m0]:=(hr ⟨1,.data⟩ (by simp) rfl).2
   obtain ⟨-,q,e3,H3⟩:=hr ⟨3,.data⟩ (by simp) rfl
   obtain ⟨-,q2,e5,H5⟩:=hr ⟨5,.data⟩ (by simp) rfl
   refine does_c #[vals 1,vals 3,vals 5] (hs q q2 _ H3.reads H5.reads) (by rw [e1,e3,e5]) ?_
   rintro _ x' ⟨g1,cp1,gg1,cpp1,ga1,ca1,gb1,cb1,rfl,H1,K1,La1,Lb1,h1⟩
   exact ⟨_,rfl,KeepsT.of_since h1,⟨k0.trans h1,x0,x1,x2,x3,x4,(fun h=>by obtain ⟨b,e,l⟩:=b0 h;exact ⟨b,e,Nat.lt_of_lt_of_le l h1.size⟩),(fun h=>by obtain ⟨b,e,l⟩:=b1 h;exact ⟨b,e,Nat.lt_of_lt_of_le l h1.size⟩),(fun h=>by obtain ⟨b,e,l⟩:=b2 h;exact ⟨b,e,Nat.lt_of_lt_of_le l h1.size⟩),d01,d02,d12,(fun h=>by obtain ⟨f1,f2,b,cs,e1,e2,B⟩:=s0 h;exact ⟨f1,f2,b,cs,e1,e2,B.since h1⟩),(fun h=>by obtain ⟨f1,f2,b,cs,e1,e2,B⟩:=s1 h;exact ⟨f1,f2,b,cs,e1,e2,B.since h1⟩),(fun h=>by obtain ⟨f1,f2,b,cs,e1,e2,B⟩:=s2 h;exact ⟨f1,f2,b,cs,e1,e2,B.since h1⟩),ay0,ay1⟩,g1,cp1,gg1,cpp1,ga1,ca1,gb1,cb1,rfl,H1.raise (by have:=H1.low';have:=k0.size;omega),K1.raise (by have:=K1.low';have:=k0.size;omega),La1.raise (by have:=La1.low';have:=k0.size;omega),Lb1.raise (by have:=Lb1.low';have:=k0.size;omega)⟩
  ·have e4:vals 4=.agg (cnCells c2):=(hr ⟨4,.data⟩ (by simp) rfl).2
   refine does_c #[vals 4] (hT2 _ (R2.since (G.trans k0))) (by rw [e4]) ?_
   rintro _ x' ⟨q,rfl,H,h1⟩
   exact ⟨_,rfl,KeepsT.of_since h1,⟨k0.trans h1,x0,x1,x2,x3,x4,(fun h=>by obtain ⟨b,e,l⟩:=b0 h;exact ⟨b,e,Nat.lt_of_lt_of_le l h1.size⟩),(fun h=>by obtain ⟨b,e,l⟩:=b1 h;exact ⟨b,e,Nat.lt_of_lt_of_le l h1.size⟩),(fun h=>by obtain ⟨b,e,l⟩:=b2 h;exact ⟨b,e,Nat.lt_of_lt_of_le l h1.size⟩),d01,d02,d12,(fun h=>by obtain ⟨f1,f2,b,cs,e1,e2,B⟩:=s0 h;exact ⟨f1,f2,b,cs,e1,e2,B.since h1⟩),(fun h=>by obtain ⟨f1,f2,b,cs,e1,e2,B⟩:=s1 h;exact ⟨f1,f2,b,cs,e1,e2,B.since h1⟩),(fun h=>by obtain ⟨f1,f2,b,cs,e1,e2,B⟩:=s2 h;exact ⟨f1,f2,b,cs,e1,e2,B.since h1⟩),ay0,ay1⟩,q,rfl,H.raise (by have:=H.low';have:=k0.size;omega)⟩
  ·exact does_load lcn_big (cn_size _) (qB8.since k0) _ rfl rfl ⟨KeepsT.of_since (Since.refl _),⟨k0,x0,x1,x2,x3,x4,b0,b1,b2,d01,d02,d12,s0,s1,s2,ay0,ay1⟩,rfl⟩
  ·have e2:vals 2=.agg (cnCells c1):=(hr ⟨2,.data⟩ (by simp) rfl).2
   refine does_c #[vals 2] (hT1 _ (R1.since (G.trans k0))) (by rw [e2]) ?_
   rintro _ x' ⟨q,rfl,H,h1⟩
   exact ⟨_,rfl,KeepsT.of_since h1,⟨k0.trans h1,x0,x1,x2,x3,x4,(fun h=>by obtain ⟨b,e,l⟩:=b0 h;exact ⟨b,e,Nat.lt_of_lt_of_le l h1.size⟩),(fun h=>by obtain ⟨b,e,l⟩:=b1 h;exact ⟨b,e,Nat.lt_of_lt_of_le l h1.size⟩),(fun h=>by obtain ⟨b,e,l⟩:=b2 h;exact ⟨b,e,Nat.lt_of_lt_of_le l h1.size⟩),d01,d02,d12,(fun h=>by obtain ⟨f1,f2,b,cs,e1,e2,B⟩:=s0 h;exact ⟨f1,f2,b,cs,e1,e2,B.since h1⟩),(fun h=>by obtain ⟨f1,f2,b,cs,e1,e2,B⟩:=s1 h;exact ⟨f1,f2,b,cs,e1,e2,B.since h1⟩),(fun h=>by obtain ⟨f1,f2,b,cs,e1,e2,B⟩:=s2 h;exact ⟨f1,f2,b,cs,e1,e2,B.since h1⟩),ay0,ay1⟩,q,rfl,H.raise (by have:=H.low';have:=k0.size;omega)⟩
  ·exact does_load lcn_big (cn_size _) (qB5.since k0) _ rfl rfl ⟨KeepsT.of_since (Since.refl _),⟨k0,x0,x1,x2,x3,x4,b0,b1,b2,d01,d02,d12,s0,s1,s2,ay0,ay1⟩,rfl⟩
  ·have e0:vals 0=.agg #[.int .i64 rm0,.string d0,.bool e0,.int .i64 n0,.int .i64 rn0,.string f0,.bool g0,.int .i64 m0]:=(hr ⟨0,.data⟩ (by simp) rfl).2
   refine does_c #[vals 0] (hto _) (by rw [e0]) ?_
   rintro _ x' ⟨rfl,h1⟩
   exact ⟨_,rfl,KeepsT.of_since h1,⟨k0.trans h1,x0,x1,x2,x3,x4,(fun h=>by obtain ⟨b,e,l⟩:=b0 h;exact ⟨b,e,Nat.lt_of_lt_of_le l h1.size⟩),(fun h=>by obtain ⟨b,e,l⟩:=b1 h;exact ⟨b,e,Nat.lt_of_lt_of_le l h1.size⟩),(fun h=>by obtain ⟨b,e,l⟩:=b2 h;exact ⟨b,e,Nat.lt_of_lt_of_le l h1.size⟩),d01,d02,d12,(fun h=>by obtain ⟨f1,f2,b,cs,e1,e2,B⟩:=s0 h;exact ⟨f1,f2,b,cs,e1,e2,B.since h1⟩),(fun h=>by obtain ⟨f1,f2,b,cs,e1,e2,B⟩:=s1 h;exact ⟨f1,f2,b,cs,e1,e2,B.since h1⟩),(fun h=>by obtain ⟨f1,f2,b,cs,e1,e2,B⟩:=s2 h;exact ⟨f1,f2,b,cs,e1,e2,B.since h1⟩),ay0,ay1⟩,rfl⟩
  ·exact does_load lrl_big rfl (qB2.since k0) _ rfl rfl ⟨KeepsT.of_since (Since.refl _),⟨k0,x0,x1,x2,x3,x4,b0,b1,b2,d01,d02,d12,s0,s1,s2,ay0,ay1⟩,rfl⟩
 intro f qv19 qw18 hK hf hv
 obtain ⟨k0,x0,x1,x2,x3,x4,b0,b1,b2,d01,d02,d12,s0,s1,s2,ay0,ay1⟩:=hK
 have hv0:qv19 0=_:=hv 0 (by decide)
 have hv1:qv19 1=_:=hv 1 (by decide)
 have hv2:qv19 2=_:=hv 2 (by decide)
 obtain ⟨qf3r11,hv3,-⟩:=hv 3 (by decide)
 have hv4:qv19 4=_:=hv 4 (by decide)
 obtain ⟨qf5r11,hv5,-⟩:=hv 5 (by decide)
 obtain ⟨g1c,cp1c,gg1c,cpp1c,ga1c,ca1c,gb1c,cb1c,hv6,-⟩:=hv 6 (by decide)
 obtain ⟨g1,cp1,gg1,cpp1,ga1,ca1,gb1,cb1,hv7,H1,K1,La1,Lb1⟩:=hv 7 (by decide)
 have hv8:=(x0 (hf 8 (by decide))).2 _ _ _ _ _ hv7
 have hv9:=(x1 (hf 9 (by decide))).2 _ _ _ _ _ hv7
 have hv10:=(x2 (hf 10 (by decide))).2 _ _ _ _ _ hv7
 have hv11:=(x3 (hf 11 (by decide))).2 _ _ _ _ _ hv7
 have hv12:=(x4 (hf 12 (by decide))).2 _ _ _ _ _ hv7
 have hv19:=(ay0 (hf 19 (by decide))).2 _ _ _ _ _ hv7
 have hv20:=(ay1 (hf 20 (by decide))).2 _ _ _ _ _ hv7
 obtain ⟨-,-,qx20,cs0,hv13,ec,qB23⟩:=s0 (hf 16 (by decide))
 rw [hv8] at ec
 obtain rfl:=Value.agg.inj ec
 clear ec
 obtain ⟨bb,eb,lb,tb⟩:=hv 13 (by decide)
 rw [hv13] at eb
 obtain rfl:qx20=bb:=by simpa using eb
 have H1_qx20:=typed_ne H1 tb (by decide)
 have K1_qx20:=typed_ne K1 tb (by decide)
 have La1_qx20:=typed_neG La1 tb (by decide)
 have Lb1_qx20:=typed_neG Lb1 tb (by decide)
 have qx20_b:=lb
 clear eb lb tb
 have qB23_l:=qB23.lt
 obtain ⟨-,-,qx21,cs1,hv14,ec,qB24⟩:=s1 (hf 17 (by decide))
 rw [hv9] at ec
 obtain rfl:=Value.agg.inj ec
 clear ec
 obtain ⟨bb,eb,lb,tb⟩:=hv 14 (by decide)
 rw [hv14] at eb
 obtain rfl:qx21=bb:=by simpa using eb
 have H1_qx21:=typed_ne H1 tb (by decide)
 have K1_qx21:=typed_ne K1 tb (by decide)
 have La1_qx21:=typed_neG La1 tb (by decide)
 have Lb1_qx21:=typed_neG Lb1 tb (by decide)
 have qx21_b:=lb
 clear eb lb tb
 have qB24_l:=qB24.lt
 obtain ⟨-,-,qx22,cs2,hv15,ec,qB25⟩:=s2 (hf 18 (by decide))
 rw [hv10] at ec
 obtain rfl:=Value.agg.inj ec
 clear ec
 obtain ⟨bb,eb,lb,tb⟩:=hv 15 (by decide)
 rw [hv15] at eb
 obtain rfl:qx22=bb:=by simpa using eb
 have H1_qx22:=typed_ne H1 tb (by decide)
 have K1_qx22:=typed_ne K1 tb (by decide)
 have La1_qx22:=typed_neG La1 tb (by decide)
 have Lb1_qx22:=typed_neG Lb1 tb (by decide)
 have qx22_b:=lb
 clear eb lb tb
 have qB25_l:=qB25.lt
 have qx20_qx21:qx20≠qx21:=fun q=>d01 (hf 13 (by decide)) (hf 14 (by decide)) (by rw [hv13,hv14,q])
 have qx20_qx22:qx20≠qx22:=fun q=>d02 (hf 13 (by decide)) (hf 15 (by decide)) (by rw [hv13,hv15,q])
 have qx21_qx22:qx21≠qx22:=fun q=>d12 (hf 14 (by decide)) (hf 15 (by decide)) (by rw [hv14,hv15,q])
 clear hv x0 x1 x2 x3 x4 b0 b1 b2 d01 d02 d12 s0 s1 s2 ay0 ay1
 simp only [hv0,hv1,hv2,hv3,hv4,hv5,hv6,hv7,hv8,hv9,hv10,hv11,hv12,hv19,hv20,hv13,hv14,hv15]
 clear hv0 hv1 hv2 hv3 hv4 hv5 hv6 hv7 hv8 hv9 hv10 hv11 hv12 hv19 hv20 hv13 hv14 hv15
 replace qB2:=qB2.since k0
 replace qB5:=qB5.since k0
 replace qB8:=qB8.since k0
 replace G:=G.trans k0
 have qw18_s:=k0.size
 clear k0
 have H1_0:=H1.low'
 replace H1:=H1.raise (show w.heap.size≤g1 by omega)
 have H1_1:=H1.lt
 have H1_p:Held shP qw18 w.heap.size g1 DF.pn cp1 p1:=by rw [hDF.out];exact H1
 clear H1
 have H1:=H1_p
 clear H1_p
 have K1_0:=K1.low'
 replace K1:=K1.raise (show w.heap.size≤gg1 by omega)
 have K1_1:=K1.lt
 have K1_p:Held shP qw18 w.heap.size gg1 DT.pn cpp1 p2:=by rw [hDT.out];exact K1
 clear K1
 have K1:=K1_p
 clear K1_p
 have La1_0:=La1.low'
 replace La1:=La1.raise (show w.heap.size≤ga1 by omega)
 have La1_1:=La1.lt
 have Lb1_0:=Lb1.low'
 replace Lb1:=Lb1.raise (show w.heap.size≤gb1 by omega)
 have Lb1_1:=Lb1.lt
 generalize (.tuple #[.agg #[.int .i64 rm0,.string xD,.bool xE,.int .i64 xN,.int .i64 rn0,.string yD,.bool yE,.int .i64 yN],.agg (cnCells {DF with pa:=some ⟨g1,0,none⟩,pc:=cp1}),.agg (cnCells {DT with pa:=some ⟨gg1,0,none⟩,pc:=cpp1}),.slice (some ⟨ga1,0,none⟩) na ca1,.slice (some ⟨gb1,0,none⟩) nb cb1]:Value)=qz26
 generalize (.agg #[.int .i64 rm0,.string d0,.bool e0,.int .i64 n0,.int .i64 rn0,.string f0,.bool g0,.int .i64 m0]:Value)=qz27
 generalize (.agg (cnCells {c1 with pa:=some ⟨qf3r11,0,none⟩,pc:=c1.pn}):Value)=qz28
 generalize (.agg (cnCells {c2 with pa:=some ⟨qf5r11,0,none⟩,pc:=c2.pn}):Value)=qz29
 generalize (.tuple #[.agg #[.int .i64 rm0,.string xD,.bool xE,.int .i64 xN,.int .i64 rn0,.string yD,.bool yE,.int .i64 yN],.agg (cnCells {DF with pa:=some ⟨g1c,0,none⟩,pc:=cp1c}),.agg (cnCells {DT with pa:=some ⟨gg1c,0,none⟩,pc:=cpp1c}),.slice (some ⟨ga1c,0,none⟩) na ca1c,.slice (some ⟨gb1c,0,none⟩) nb cb1c]:Value)=qz30
 generalize (.agg #[.int .i64 rm0,.string xD,.bool xE,.int .i64 xN,.int .i64 rn0,.string yD,.bool yE,.int .i64 yN]:Value)=qz31
 generalize (.agg (cnCells {DF with pa:=some ⟨g1,0,none⟩,pc:=cp1}):Value)=qz32
 generalize (.agg (cnCells {DT with pa:=some ⟨gg1,0,none⟩,pc:=cpp1}):Value)=qz33
 go_upto_region 12 with (fail)
 refine vR ?_
 refine vB lcn_big qB5 (cn_size _) ?_
 refine vC (hT1 _ (R1.since G)) ?_
 rintro _ qw34 ⟨y1,rfl,X1,qg35⟩
 refine ⟨_,rfl,?_⟩
 replace qB2:=qB2.since qg35
 replace qB5:=qB5.since qg35
 replace qB8:=qB8.since qg35
 replace qB23:=qB23.since qg35
 replace qB24:=qB24.since qg35
 replace qB25:=qB25.since qg35
 replace H1:=H1.since qg35
 replace K1:=K1.since qg35
 replace La1:=La1.since qg35
 replace Lb1:=Lb1.since qg35
 replace G:=G.trans qg35
 have qg35_s:=qg35.size
 have X1_0:=X1.low'
 replace X1:=X1.raise (show w.heap.size≤y1 by omega)
 have X1_1:=X1.lt
 refine vW (qw34.alloc (.cells (cnCells cnZero) 50)) (.pointer (some ⟨qw34.heap.size,0,none⟩)) ?_
 have qB37:=Blk.new qw34 (cnCells cnZero) 50
 have qg38:=(Since.refl qw34).alloc (.cells (cnCells cnZero) 50)
 replace qB2:=qB2.since qg38
 replace qB5:=qB5.since qg38
 replace qB8:=qB8.since qg38
 replace qB23:=qB23.since qg38
 replace qB24:=qB24.since qg38
 replace qB25:=qB25.since qg38
 replace H1:=H1.since qg38
 replace K1:=K1.since qg38
 replace La1:=La1.since qg38
 replace Lb1:=Lb1.since qg38
 replace X1:=X1.since qg38
 replace G:=G.trans qg38
 generalize qw34.alloc (.cells (cnCells cnZero) 50)=qw36 at qB2 qB5 qB8 qB23 qB24 qB25 H1 K1 La1 Lb1 X1 G qB37 qg38 ⊢
 have qB37_l:=qB37.lt
 have qg38_s:=qg38.size
 refine sB (cnCells {c1 with pa:=some ⟨y1,0,none⟩,pc:=c1.pn}) cn_big qB37 (cn_size _) (cn_size _) (cn_one _) ?_
 intro qw39 qt40 qB41
 clear qB37
 replace qB2:=qB2.touch qt40 (by omega)
 replace qB5:=qB5.touch qt40 (by omega)
 replace qB8:=qB8.touch qt40 (by omega)
 replace qB23:=qB23.touch qt40 (by omega)
 replace qB24:=qB24.touch qt40 (by omega)
 replace qB25:=qB25.touch qt40 (by omega)
 replace H1:=H1.touch qt40 (by omega)
 replace K1:=K1.touch qt40 (by omega)
 replace La1:=La1.touch qt40 (by omega)
 replace Lb1:=Lb1.touch qt40 (by omega)
 replace X1:=X1.touch qt40 (by omega)
 replace G:=since_touch G qt40 (by omega)
 have qt40_s:=qt40.size
 refine vE #[qz10,.agg (cnCells c1),.agg (cnCells c2),pX w.heap.size 0,pX qw1.heap.size 0,pX qw4.heap.size 0,.bool false,.int .i64 r2,pX qx20 0,pX qx21 0,pX qx22 0,.slice (some ⟨ga1,0,none⟩) na ca1,.slice (some ⟨gb1,0,none⟩) nb cb1,pX qw34.heap.size 0,U,U,U,U,U,U,U,U,U,U,U,U,U,U,qz13,.int .i64 1048576,.int .i64 l0,.int .i64 l0,.bool (decide (l0<0)),.agg (cnCells c1),.int .i64 l0,.int .i64 r1,.int .i64 r1,.bool (decide (r1<0)),.agg (cnCells c2),.int .i64 r1,.int .i64 r2,.int .i64 r2,.bool (decide (r2<0)),qz26,qz27,qz27,.agg (cnCells c1),qz28,.agg (cnCells c2),qz29,qz30,qz31,qz32,qz33,.slice (some ⟨ga1,0,none⟩) na ca1,.slice (some ⟨gb1,0,none⟩) nb cb1,.agg (cnCells c1),.agg (cnCells {c1 with pa:=some ⟨y1,0,none⟩,pc:=c1.pn}),U,U,U,U,U,U,U,U,U,U,U,U,U,U,U,U,U,U,U,U,U,U,U,U,U,U,U,U,U,U,U,U,U,U,U,U,U,U,U,U,U,U,U,U,U,U,U,U,U,U,U,U,U,U,U,U,U,U,U,U,U,U,U,U,U,U,U,U,U,U,U,U,U,U,U,U,U,U,U,U,U,U,U,U,U,U,U,U,U,U,U,U,U,U,U,U,U,U,U,U,U,U,U,U,U,U,U,U,U,U,U,U,U,U,U,U,U,U,U,U,U,U,U,U,U,U,U,U,U,U,U,U,U,U,U,U,U,U,U,U,U,U,U,U,U,U,U,U,U,U,U,U,U,U,U,U,U,U,U,U,U,U,U,U,U,U,U,U,U,U,U,U,U,U,U,U,U,U,U,U,U,U,U,U,U,U,U,U] ?_
 generalize (.agg (cnCells {c1 with pa:=some ⟨y1,0,none⟩,pc:=c1.pn}):Value)=qz42
 go_upto_region 13 with (fail)
 refine vR ?_
 refine vB lcn_big qB8 (cn_size _) ?_
 refine vC (hT2 _ (R2.since G)) ?_
 rintro _ qw43 ⟨y2,rfl,X2,qg44⟩
 refine ⟨_,rfl,?_⟩
 replace qB2:=qB2.since qg44
 replace qB5:=qB5.since qg44
 replace qB8:=qB8.since qg44
 replace qB23:=qB23.since qg44
 replace qB24:=qB24.since qg44
 replace qB25:=qB25.since qg44
 replace qB41:=qB41.since qg44
 replace H1:=H1.since qg44
 replace K1:=K1.since qg44
 replace La1:=La1.since qg44
 replace Lb1:=Lb1.since qg44
 replace X1:=X1.since qg44
 replace G:=G.trans qg44
 have qg44_s:=qg44.size
 have X2_0:=X2.low'
 replace X2:=X2.raise (show w.heap.size≤y2 by omega)
 have X2_1:=X2.lt
 refine vW (qw43.alloc (.cells (cnCells cnZero) 50)) (.pointer (some ⟨qw43.heap.size,0,none⟩)) ?_
 have qB46:=Blk.new qw43 (cnCells cnZero) 50
 have qg47:=(Since.refl qw43).alloc (.cells (cnCells cnZero) 50)
 replace qB2:=qB2.since qg47
 replace qB5:=qB5.since qg47
 replace qB8:=qB8.since qg47
 replace qB23:=qB23.since qg47
 replace qB24:=qB24.since qg47
 replace qB25:=qB25.since qg47
 replace qB41:=qB41.since qg47
 replace H1:=H1.since qg47
 replace K1:=K1.since qg47
 replace La1:=La1.since qg47
 replace Lb1:=Lb1.since qg47
 replace X1:=X1.since qg47
 replace X2:=X2.since qg47
 replace G:=G.trans qg47
 generalize qw43.alloc (.cells (cnCells cnZero) 50)=qw45 at qB2 qB5 qB8 qB23 qB24 qB25 qB41 H1 K1 La1 Lb1 X1 X2 G qB46 qg47 ⊢
 have qB46_l:=qB46.lt
 have qg47_s:=qg47.size
 refine sB (cnCells {c2 with pa:=some ⟨y2,0,none⟩,pc:=c2.pn}) cn_big qB46 (cn_size _) (cn_size _) (cn_one _) ?_
 intro qw48 qt49 qB50
 clear qB46
 replace qB2:=qB2.touch qt49 (by omega)
 replace qB5:=qB5.touch qt49 (by omega)
 replace qB8:=qB8.touch qt49 (by omega)
 replace qB23:=qB23.touch qt49 (by omega)
 replace qB24:=qB24.touch qt49 (by omega)
 replace qB25:=qB25.touch qt49 (by omega)
 replace qB41:=qB41.touch qt49 (by omega)
 replace H1:=H1.touch qt49 (by omega)
 replace K1:=K1.touch qt49 (by omega)
 replace La1:=La1.touch qt49 (by omega)
 replace Lb1:=Lb1.touch qt49 (by omega)
 replace X1:=X1.touch qt49 (by omega)
 replace X2:=X2.touch qt49 (by omega)
 replace G:=since_touch G qt49 (by omega)
 have qt49_s:=qt49.size
 refine vE #[qz10,.agg (cnCells c1),.agg (cnCells c2),pX w.heap.size 0,pX qw1.heap.size 0,pX qw4.heap.size 0,.bool false,.int .i64 r2,pX qx20 0,pX qx21 0,pX qx22 0,.slice (some ⟨ga1,0,none⟩) na ca1,.slice (some ⟨gb1,0,none⟩) nb cb1,pX qw34.heap.size 0,pX qw43.heap.size 0,U,U,U,U,U,U,U,U,U,U,U,U,U,qz13,.int .i64 1048576,.int .i64 l0,.int .i64 l0,.bool (decide (l0<0)),.agg (cnCells c1),.int .i64 l0,.int .i64 r1,.int .i64 r1,.bool (decide (r1<0)),.agg (cnCells c2),.int .i64 r1,.int .i64 r2,.int .i64 r2,.bool (decide (r2<0)),qz26,qz27,qz27,.agg (cnCells c1),qz28,.agg (cnCells c2),qz29,qz30,qz31,qz32,qz33,.slice (some ⟨ga1,0,none⟩) na ca1,.slice (some ⟨gb1,0,none⟩) nb cb1,.agg (cnCells c1),qz42,.agg (cnCells c2),.agg (cnCells {c2 with pa:=some ⟨y2,0,none⟩,pc:=c2.pn}),U,U,U,U,U,U,U,U,U,U,U,U,U,U,U,U,U,U,U,U,U,U,U,U,U,U,U,U,U,U,U,U,U,U,U,U,U,U,U,U,U,U,U,U,U,U,U,U,U,U,U,U,U,U,U,U,U,U,U,U,U,U,U,U,U,U,U,U,U,U,U,U,U,U,U,U,U,U,U,U,U,U,U,U,U,U,U,U,U,U,U,U,U,U,U,U,U,U,U,U,U,U,U,U,U,U,U,U,U,U,U,U,U,U,U,U,U,U,U,U,U,U,U,U,U,U,U,U,U,U,U,U,U,U,U,U,U,U,U,U,U,U,U,U,U,U,U,U,U,U,U,U,U,U,U,U,U,U,U,U,U,U,U,U,U,U,U,U,U,U,U,U,U,U,U,U,U,U,U,U,U,U,U,U,U,U] ?_
 generalize (.agg (cnCells {c2 with pa:=some ⟨y2,0,none⟩,pc:=c2.pn}):Value)=qz51
 go_upto_region 14 with (fail)
 have hg_2:=G.size
 refine wp_region_low KeepsT (fun i x v=>match i with
   | 0=>v=.agg #[.int .i64 rm0,.string d0,.bool e0,.int .i64 n0,.int .i64 rn0,.string f0,.bool g0,.int .i64 m0]
   | 1=>v=.agg #[.int .i64 rm0,.string d0,.bool e0,.int .i64 n0,.int .i64 rn0,.string f0,.bool g0,.int .i64 m0]
   | 2=>v=.agg (cnCells {c1 with pa:=some ⟨y1,0,none⟩,pc:=c1.pn})
   | 3=>v=.agg (cnCells {c2 with pa:=some ⟨y2,0,none⟩,pc:=c2.pn})
   | 4=>∃ g2 cp2 gg2 cpp2 ga2 ca2 gb2 cb2,v=.tuple #[.agg #[.int .i64 rm0,.string xD,.bool xE,.int .i64 xN,.int .i64 rn0,.string yD,.bool yE,.int .i64 yN],.agg (cnCells {DF with pa:=some ⟨g2,0,none⟩,pc:=cp2}),.agg (cnCells {DT with pa:=some ⟨gg2,0,none⟩,pc:=cpp2}),.slice (some ⟨ga2,0,none⟩) na ca2,.slice (some ⟨gb2,0,none⟩) nb cb2]∧Held shP x qw48.heap.size g2 c1.pn cp2 p1∧Held shP x qw48.heap.size gg2 c2.pn cpp2 p2∧Held shG x qw48.heap.size ga2 na ca2 XA∧Held shG x qw48.heap.size gb2 nb cb2 XB∧(g2≠gg2∧ga2≠gb2)
   | 5=>∃ g2 cp2 gg2 cpp2 ga2 ca2 gb2 cb2,v=.tuple #[.agg #[.int .i64 rm0,.string xD,.bool xE,.int .i64 xN,.int .i64 rn0,.string yD,.bool yE,.int .i64 yN],.agg (cnCells {DF with pa:=some ⟨g2,0,none⟩,pc:=cp2}),.agg (cnCells {DT with pa:=some ⟨gg2,0,none⟩,pc:=cpp2}),.slice (some ⟨ga2,0,none⟩) na ca2,.slice (some ⟨gb2,0,none⟩) nb cb2]∧Held shP x qw48.heap.size g2 c1.pn cp2 p1∧Held shP x qw48.heap.size gg2 c2.pn cpp2 p2∧Held shG x qw48.heap.size ga2 na ca2 XA∧Held shG x qw48.heap.size gb2 nb cb2 XB∧(g2≠gg2∧ga2≠gb2)
   | 11=>∃ b,v=.pointer (some ⟨b,0,none⟩)∧qw48.heap.size≤b∧Typed 42 8 b x
   | 12=>∃ b,v=.pointer (some ⟨b,0,none⟩)∧qw48.heap.size≤b∧Typed 50 37 b x
   | 13=>∃ b,v=.pointer (some ⟨b,0,none⟩)∧qw48.heap.size≤b∧Typed 50 37 b x
   | _=>True)
   (fun f vals x=>Since qw48 x∧(f 6=true→f 5=true∧∀ a0 a1 a2 a3 a4,vals 5=.tuple #[a0,a1,a2,a3,a4]→vals 6=a0)∧(f 7=true→f 5=true∧∀ a0 a1 a2 a3 a4,vals 5=.tuple #[a0,a1,a2,a3,a4]→vals 7=a1)∧(f 8=true→f 5=true∧∀ a0 a1 a2 a3 a4,vals 5=.tuple #[a0,a1,a2,a3,a4]→vals 8=a2)∧(f 9=true→f 5=true∧∀ a0 a1 a2 a3 a4,vals 5=.tuple #[a0,a1,a2,a3,a4]→vals 9=a3)∧(f 10=true→f 5=true∧∀ a0 a1 a2 a3 a4,vals 5=.tuple #[a0,a1,a2,a3,a4]→vals 10=a4)∧(f 11=true→∃ b,vals 11=.pointer (some ⟨b,0,none⟩)∧b<x.heap.size)∧(f 12=true→∃ b,vals 12=.pointer (some ⟨b,0,none⟩)∧b<x.heap.size)∧(f 13=true→∃ b,vals 13=.pointer (some ⟨b,0,none⟩)∧b<x.heap.size)∧(f 11=true→f 12=true→vals 11≠vals 12)∧(f 11=true→f 13=true→vals 11≠vals 13)∧(f 12=true→f 13=true→vals 12≠vals 13)∧(f 14=true→f 11=true∧f 6=true∧∃ b cs,vals 11=.pointer (some ⟨b,0,none⟩)∧vals 6=.agg cs∧Blk b x cs)∧(f 15=true→f 12=true∧f 7=true∧∃ b cs,vals 12=.pointer (some ⟨b,0,none⟩)∧vals 7=.agg cs∧Blk b x cs)∧(f 16=true→f 13=true∧f 8=true∧∃ b cs,vals 13=.pointer (some ⟨b,0,none⟩)∧vals 8=.agg cs∧Blk b x cs)∧(f 17=true→f 5=true∧∀ a0 a1 a2 a3 a4,vals 5=.tuple #[a0,a1,a2,a3,a4]→vals 17=a3)∧(f 18=true→f 5=true∧∀ a0 a1 a2 a3 a4,vals 5=.tuple #[a0,a1,a2,a3,a4]→vals 18=a4))
   (fun v=>{tmps:=#[qz10,.agg (cnCells c1),.agg (cnCells c2),.pointer (some ⟨w.heap.size,0,none⟩),.pointer (some ⟨qw1.heap.size,0,none⟩),.pointer (some ⟨qw4.heap.size,0,none⟩),.bool false,.int .i64 r2,.pointer (some ⟨qx20,0,none⟩),.pointer (some ⟨qx21,0,none⟩),.pointer (some ⟨qx22,0,none⟩),.slice (some ⟨ga1,0,none⟩) na ca1,.slice (some ⟨gb1,0,none⟩) nb cb1,.pointer (some ⟨qw34.heap.size,0,none⟩),.pointer (some ⟨qw43.heap.size,0,none⟩),v 11,v 12,v 13,v 17,v 18,U,U,U,U,U,U,U,U,qz13,.int .i64 1048576,.int .i64 l0,.int .i64 l0,.bool (decide (l0<0)),.agg (cnCells c1),.int .i64 l0,.int .i64 r1,.int .i64 r1,.bool (decide (r1<0)),.agg (cnCells c2),.int .i64 r1,.int .i64 r2,.int .i64 r2,.bool (decide (r2<0)),qz26,qz27,qz27,.agg (cnCells c1),qz28,.agg (cnCells c2),qz29,qz30,qz31,qz32,qz33,.slice (some ⟨ga1,0,none⟩) na ca1,.slice (some ⟨gb1,0,none⟩) nb cb1,.agg (cnCells c1),qz42,.agg (cnCells c2),qz51,v 5,v 0,v 1,v 2,v 3,v 4,v 6,v 7,v 8,v 9,v 10,U,U,U,U,U,U,U,U,U,U,U,U,U,U,U,U,U,U,U,U,U,U,U,U,U,U,U,U,U,U,U,U,U,U,U,U,U,U,U,U,U,U,U,U,U,U,U,U,U,U,U,U,U,U,U,U,U,U,U,U,U,U,U,U,U,U,U,U,U,U,U,U,U,U,U,U,U,U,U,U,U,U,U,U,U,U,U,U,U,U,U,U,U,U,U,U,U,U,U,U,U,U,U,U,U,U,U,U,U,U,U,U,U,U,U,U,U,U,U,U,U,U,U,U,U,U,U,U,U,U,U,U,U,U,U,U,U,U,U,U,U,U,U,U,U,U,U,U,U,U,U,U,U,U,U,U,U,U,U,U,U,U,U,U,U,U,U,U,U,U,U,U,U,U,undef],defers:=[]}) (by kernel_rfl) (by kernel_rfl) ?_ ?_ (fun vals=>by kernel_rfl) ?_ ?_
 case refine_1=>
  intro j x y v hl hv
  match j,hv with
  | 0,hv=>exact hv
  | 1,hv=>exact hv
  | 2,hv=>exact hv
  | 3,hv=>exact hv
  | 4,⟨g2,cp2,gg2,cpp2,ga2,ca2,gb2,cb2,e,H2,K2,La2,Lb2,hne2⟩=>exact ⟨g2,cp2,gg2,cpp2,ga2,ca2,gb2,cb2,e,hl.1 _ _ _ _ _ H2,hl.1 _ _ _ _ _ K2,hl.2.2 _ _ _ _ _ La2,hl.2.2 _ _ _ _ _ Lb2,hne2⟩
  | 5,⟨g2,cp2,gg2,cpp2,ga2,ca2,gb2,cb2,e,H2,K2,La2,Lb2,hne2⟩=>exact ⟨g2,cp2,gg2,cpp2,ga2,ca2,gb2,cb2,e,hl.1 _ _ _ _ _ H2,hl.1 _ _ _ _ _ K2,hl.2.2 _ _ _ _ _ La2,hl.2.2 _ _ _ _ _ Lb2,hne2⟩
  | 11,⟨b,e,l,t⟩=>exact ⟨b,e,l,hl.2.1 _ _ _ t⟩
  | 12,⟨b,e,l,t⟩=>exact ⟨b,e,l,hl.2.1 _ _ _ t⟩
  | 13,⟨b,e,l,t⟩=>exact ⟨b,e,l,hl.2.1 _ _ _ t⟩
  | 6,_|7,_|8,_|9,_|10,_|14,_|15,_|16,_|17,_|18,_=>trivial
  | n+19,_=>trivial
 case refine_2=>
  intro f vals hf
  exact ⟨((Since.refl _).drew),(fun h=>by rw [hf 6] at h;cases h),(fun h=>by rw [hf 7] at h;cases h),(fun h=>by rw [hf 8] at h;cases h),(fun h=>by rw [hf 9] at h;cases h),(fun h=>by rw [hf 10] at h;cases h),(fun h=>by rw [hf 11] at h;cases h),(fun h=>by rw [hf 12] at h;cases h),(fun h=>by rw [hf 13] at h;cases h),(fun h=>by rw [hf 11] at h;cases h),(fun h=>by rw [hf 11] at h;cases h),(fun h=>by rw [hf 12] at h;cases h),(fun h=>by rw [hf 14] at h;cases h),(fun h=>by rw [hf 15] at h;cases h),(fun h=>by rw [hf 16] at h;cases h),(fun h=>by rw [hf 17] at h;cases h),(fun h=>by rw [hf 18] at h;cases h)⟩
 case refine_3=>
  repeat (first|exact eachLow_nil|refine eachLow_cons ?_ ?_)
  all_goals intro f vals x hf hr hK
  all_goals obtain ⟨k0,x0,x1,x2,x3,x4,b0,b1,b2,d01,d02,d12,s0,s1,s2,ay0,ay1⟩:=hK
  ·obtain ⟨fe,-⟩:=hr ⟨10,.data⟩ (by simp) rfl
   refine does_v (vals 10) ?_ ?_
   ·simp [execOp,go_sem]
   exact ⟨KeepsT.of_since (Since.refl _),⟨k0,x0,x1,x2,x3,x4,b0,b1,b2,d01,d02,d12,s0,s1,s2,ay0,(fun _=>⟨(x4 fe).1,fun a0 a1 a2 a3 a4 h=>(x4 fe).2 a0 a1 a2 a3 a4 h⟩)⟩,trivial⟩
  ·obtain ⟨fe,-⟩:=hr ⟨9,.data⟩ (by simp) rfl
   refine does_v (vals 9) ?_ ?_
   ·simp [execOp,go_sem]
   exact ⟨KeepsT.of_since (Since.refl _),⟨k0,x0,x1,x2,x3,x4,b0,b1,b2,d01,d02,d12,s0,s1,s2,(fun _=>⟨(x3 fe).1,fun a0 a1 a2 a3 a4 h=>(x3 fe).2 a0 a1 a2 a3 a4 h⟩),ay1⟩,trivial⟩
  ·obtain ⟨fa,b,ea,la,ta⟩:=hr ⟨13,.data⟩ (by simp) rfl
   obtain ⟨fe,-⟩:=hr ⟨8,.data⟩ (by simp) rfl
   obtain ⟨-,g2,cp2,gg2,cpp2,ga2,ca2,gb2,cb2,e7,-⟩:=hr ⟨5,.phase⟩ (by simp) rfl
   have ee:=(x2 fe).2 _ _ _ _ _ e7
   refine does_storeT cn_big (cn_size _) ta (by decide) (cn_one _) _ _ rfl ea ee ?_
   intro z hk t B
   exact ⟨hk,⟨since_touch k0 t la,x0,x1,x2,x3,x4,(fun h=>by obtain ⟨b,e,l⟩:=b0 h;exact ⟨b,e,Nat.lt_of_lt_of_le l t.size⟩),(fun h=>by obtain ⟨b,e,l⟩:=b1 h;exact ⟨b,e,Nat.lt_of_lt_of_le l t.size⟩),(fun h=>by obtain ⟨b,e,l⟩:=b2 h;exact ⟨b,e,Nat.lt_of_lt_of_le l t.size⟩),d01,d02,d12,(fun h=>by obtain ⟨f1,f2,b',cs',e1,e2,B'⟩:=s0 h;exact ⟨f1,f2,b',cs',e1,e2,B'.touch t (fun q=>d02 f1 fa (by rw [e1,ea,q]))⟩),(fun h=>by obtain ⟨f1,f2,b',cs',e1,e2,B'⟩:=s1 h;exact ⟨f1,f2,b',cs',e1,e2,B'.touch t (fun q=>d12 f1 fa (by rw [e1,ea,q]))⟩),(fun _=>⟨fa,fe,b,_,ea,ee,B⟩),ay0,ay1⟩,trivial⟩
  ·obtain ⟨fa,b,ea,la,ta⟩:=hr ⟨12,.data⟩ (by simp) rfl
   obtain ⟨fe,-⟩:=hr ⟨7,.data⟩ (by simp) rfl
   obtain ⟨-,g2,cp2,gg2,cpp2,ga2,ca2,gb2,cb2,e7,-⟩:=hr ⟨5,.phase⟩ (by simp) rfl
   have ee:=(x1 fe).2 _ _ _ _ _ e7
   refine does_storeT cn_big (cn_size _) ta (by decide) (cn_one _) _ _ rfl ea ee ?_
   intro z hk t B
   exact ⟨hk,⟨since_touch k0 t la,x0,x1,x2,x3,x4,(fun h=>by obtain ⟨b,e,l⟩:=b0 h;exact ⟨b,e,Nat.lt_of_lt_of_le l t.size⟩),(fun h=>by obtain ⟨b,e,l⟩:=b1 h;exact ⟨b,e,Nat.lt_of_lt_of_le l t.size⟩),(fun h=>by obtain ⟨b,e,l⟩:=b2 h;exact ⟨b,e,Nat.lt_of_lt_of_le l t.size⟩),d01,d02,d12,(fun h=>by obtain ⟨f1,f2,b',cs',e1,e2,B'⟩:=s0 h;exact ⟨f1,f2,b',cs',e1,e2,B'.touch t (fun q=>d01 f1 fa (by rw [e1,ea,q]))⟩),(fun _=>⟨fa,fe,b,_,ea,ee,B⟩),(fun h=>by obtain ⟨f1,f2,b',cs',e1,e2,B'⟩:=s2 h;exact ⟨f1,f2,b',cs',e1,e2,B'.touch t (fun q=>d12 fa f1 (by rw [e1,ea,q]))⟩),ay0,ay1⟩,trivial⟩
  ·obtain ⟨fa,b,ea,la,ta⟩:=hr ⟨11,.data⟩ (by simp) rfl
   obtain ⟨fe,-⟩:=hr ⟨6,.data⟩ (by simp) rfl
   obtain ⟨-,g2,cp2,gg2,cpp2,ga2,ca2,gb2,cb2,e7,-⟩:=hr ⟨5,.phase⟩ (by simp) rfl
   have ee:=(x0 fe).2 _ _ _ _ _ e7
   refine does_storeT rl_big rfl ta (by decide) (by simp [Value.oneCell']) _ _ rfl ea ee ?_
   intro z hk t B
   exact ⟨hk,⟨since_touch k0 t la,x0,x1,x2,x3,x4,(fun h=>by obtain ⟨b,e,l⟩:=b0 h;exact ⟨b,e,Nat.lt_of_lt_of_le l t.size⟩),(fun h=>by obtain ⟨b,e,l⟩:=b1 h;exact ⟨b,e,Nat.lt_of_lt_of_le l t.size⟩),(fun h=>by obtain ⟨b,e,l⟩:=b2 h;exact ⟨b,e,Nat.lt_of_lt_of_le l t.size⟩),d01,d02,d12,(fun _=>⟨fa,fe,b,_,ea,ee,B⟩),(fun h=>by obtain ⟨f1,f2,b',cs',e1,e2,B'⟩:=s1 h;exact ⟨f1,f2,b',cs',e1,e2,B'.touch t (fun q=>d01 fa f1 (by rw [e1,ea,q]))⟩),(fun h=>by obtain ⟨f1,f2,b',cs',e1,e2,B'⟩:=s2 h;exact ⟨f1,f2,b',cs',e1,e2,B'.touch t (fun q=>d02 fa f1 (by rw [e1,ea,q]))⟩),ay0,ay1⟩,trivial⟩
  ·have h1:=(Since.refl x).alloc (.cells (cnCells cnZero) 50)
   refine does_w (.pointer (some ⟨x.heap.size,0,none⟩)) (x.alloc (.cells (cnCells cnZero) 50)) (by kernel_rfl) ?_
   exact ⟨KeepsT.of_since h1,⟨k0.trans h1,x0,x1,x2,x3,x4,(fun h=>by obtain ⟨b,e,l⟩:=b0 h;exact ⟨b,e,Nat.lt_of_lt_of_le l h1.size⟩),(fun h=>by obtain ⟨b,e,l⟩:=b1 h;exact ⟨b,e,Nat.lt_of_lt_of_le l h1.size⟩),(fun _=>⟨_,rfl,by rw [World.size_alloc]<;>omega⟩),d01,(fun h _ q=>by obtain ⟨b,e,l⟩:=b0 h;have q2:vals 11=Value.pointer (some ⟨x.heap.size,0,none⟩):=q;rw [e] at q2;simp at q2<;>omega),(fun h _ q=>by obtain ⟨b,e,l⟩:=b1 h;have q2:vals 12=Value.pointer (some ⟨x.heap.size,0,none⟩):=q;rw [e] at q2;simp at q2<;>omega),(fun h=>by obtain ⟨f1,f2,b,cs,e1,e2,B⟩:=s0 h;exact ⟨f1,f2,b,cs,e1,e2,B.since h1⟩),(fun h=>by obtain ⟨f1,f2,b,cs,e1,e2,B⟩:=s1 h;exact ⟨f1,f2,b,cs,e1,e2,B.since h1⟩),(fun h=>absurd ((s2 h).1) (by rw [hf];decide)),ay0,ay1⟩,_,rfl,k0.size,Typed.new _ _ _ (cn_size _)⟩
  ·have h1:=(Since.refl x).alloc (.cells (cnCells cnZero) 50)
   refine does_w (.pointer (some ⟨x.heap.size,0,none⟩)) (x.alloc (.cells (cnCells cnZero) 50)) (by kernel_rfl) ?_
   exact ⟨KeepsT.of_since h1,⟨k0.trans h1,x0,x1,x2,x3,x4,(fun h=>by obtain ⟨b,e,l⟩:=b0 h;exact ⟨b,e,Nat.lt_of_lt_of_le l h1.size⟩),(fun _=>⟨_,rfl,by rw [World.size_alloc]<;>omega⟩),(fun h=>by obtain ⟨b,e,l⟩:=b2 h;exact ⟨b,e,Nat.lt_of_lt_of_le l h1.size⟩),(fun h _ q=>by obtain ⟨b,e,l⟩:=b0 h;have q2:vals 11=Value.pointer (some ⟨x.heap.size,0,none⟩):=q;rw [e] at q2;simp at q2<;>omega),d02,(fun _ h q=>by obtain ⟨b,e,l⟩:=b2 h;have q2:Value.pointer (some ⟨x.heap.size,0,none⟩)=vals 13:=q;rw [e] at q2;simp at q2<;>omega),(fun h=>by obtain ⟨f1,f2,b,cs,e1,e2,B⟩:=s0 h;exact ⟨f1,f2,b,cs,e1,e2,B.since h1⟩),(fun h=>absurd ((s1 h).1) (by rw [hf];decide)),(fun h=>by obtain ⟨f1,f2,b,cs,e1,e2,B⟩:=s2 h;exact ⟨f1,f2,b,cs,e1,e2,B.since h1⟩),ay0,ay1⟩,_,rfl,k0.size,Typed.new _ _ _ (cn_size _)⟩
  ·have h1:=(Since.refl x).alloc (.cells #[.int .i64 0,.string ByteArray.empty,.bool false,.int .i64 0,.int .i64 0,.string ByteArray.empty,.bool false,.int .i64 0] 42)
   refine does_w (.pointer (some ⟨x.heap.size,0,none⟩)) (x.alloc (.cells #[.int .i64 0,.string ByteArray.empty,.bool false,.int .i64 0,.int .i64 0,.string ByteArray.empty,.bool false,.int .i64 0] 42)) (by kernel_rfl) ?_
   exact ⟨KeepsT.of_since h1,⟨k0.trans h1,x0,x1,x2,x3,x4,(fun _=>⟨_,rfl,by rw [World.size_alloc]<;>omega⟩),(fun h=>by obtain ⟨b,e,l⟩:=b1 h;exact ⟨b,e,Nat.lt_of_lt_of_le l h1.size⟩),(fun h=>by obtain ⟨b,e,l⟩:=b2 h;exact ⟨b,e,Nat.lt_of_lt_of_le l h1.size⟩),(fun _ h q=>by obtain ⟨b,e,l⟩:=b1 h;have q2:Value.pointer (some ⟨x.heap.size,0,none⟩)=vals 12:=q;rw [e] at q2;simp at q2<;>omega),(fun _ h q=>by obtain ⟨b,e,l⟩:=b2 h;have q2:Value.pointer (some ⟨x.heap.size,0,none⟩)=vals 13:=q;rw [e] at q2;simp at q2<;>omega),d12,(fun h=>absurd ((s0 h).1) (by rw [hf];decide)),(fun h=>by obtain ⟨f1,f2,b,cs,e1,e2,B⟩:=s1 h;exact ⟨f1,f2,b,cs,e1,e2,B.since h1⟩),(fun h=>by obtain ⟨f1,f2,b,cs,e1,e2,B⟩:=s2 h;exact ⟨f1,f2,b,cs,e1,e2,B.since h1⟩),ay0,ay1⟩,_,rfl,k0.size,Typed.new _ _ _ rfl⟩
  ·obtain ⟨f7,g2,cp2,gg2,cpp2,ga2,ca2,gb2,cb2,e7,-⟩:=hr ⟨5,.data⟩ (by simp) rfl
   replace e7:vals 5=.tuple #[.agg #[.int .i64 rm0,.string xD,.bool xE,.int .i64 xN,.int .i64 rn0,.string yD,.bool yE,.int .i64 yN],.agg (cnCells {DF with pa:=some ⟨g2,0,none⟩,pc:=cp2}),.agg (cnCells {DT with pa:=some ⟨gg2,0,none⟩,pc:=cpp2}),.slice (some ⟨ga2,0,none⟩) na ca2,.slice (some ⟨gb2,0,none⟩) nb cb2]:=e7
   refine does_v (.slice (some ⟨gb2,0,none⟩) nb cb2) ?_ ?_
   ·simp [execOp,go_sem,e7]
   exact ⟨KeepsT.of_since (Since.refl _),⟨k0,x0,x1,x2,x3,(fun _=>⟨f7,fun a0 a1 a2 a3 a4 h=>by replace h:vals 5=.tuple #[a0,a1,a2,a3,a4]:=h;rw [e7] at h;exact Option.some.inj (congrArg (fun q:Array Value=>q[4]?) (Value.tuple.inj h))⟩),b0,b1,b2,d01,d02,d12,s0,s1,s2,ay0,ay1⟩,trivial⟩
  ·obtain ⟨f7,g2,cp2,gg2,cpp2,ga2,ca2,gb2,cb2,e7,-⟩:=hr ⟨5,.data⟩ (by simp) rfl
   replace e7:vals 5=.tuple #[.agg #[.int .i64 rm0,.string xD,.bool xE,.int .i64 xN,.int .i64 rn0,.string yD,.bool yE,.int .i64 yN],.agg (cnCells {DF with pa:=some ⟨g2,0,none⟩,pc:=cp2}),.agg (cnCells {DT with pa:=some ⟨gg2,0,none⟩,pc:=cpp2}),.slice (some ⟨ga2,0,none⟩) na ca2,.slice (some ⟨gb2,0,none⟩) nb cb2]:=e7
   refine does_v (.slice (some ⟨ga2,0,none⟩) na ca2) ?_ ?_
   ·simp [execOp,go_sem,e7]
   exact ⟨KeepsT.of_since (Since.refl _),⟨k0,x0,x1,x2,(fun _=>⟨f7,fun a0 a1 a2 a3 a4 h=>by replace h:vals 5=.tuple #[a0,a1,a2,a3,a4]:=h;rw [e7] at h;exact Option.some.inj (congrArg (fun q:Array Value=>q[3]?) (Value.tuple.inj h))⟩),x4,b0,b1,b2,d01,d02,d12,s0,s1,s2,ay0,ay1⟩,trivial⟩
  ·obtain ⟨f7,g2,cp2,gg2,cpp2,ga2,ca2,gb2,cb2,e7,-⟩:=hr ⟨5,.data⟩ (by simp) rfl
   replace e7:vals 5=.tuple #[.agg #[.int .i64 rm0,.string xD,.bool xE,.int .i64 xN,.int .i64 rn0,.string yD,.bool yE,.int .i64 yN],.agg (cnCells {DF with pa:=some ⟨g2,0,none⟩,pc:=cp2}),.agg (cnCells {DT with pa:=some ⟨gg2,0,none⟩,pc:=cpp2}),.slice (some ⟨ga2,0,none⟩) na ca2,.slice (some ⟨gb2,0,none⟩) nb cb2]:=e7
   refine does_v (.agg (cnCells {DT with pa:=some ⟨gg2,0,none⟩,pc:=cpp2})) ?_ ?_
   ·simp [execOp,go_sem,e7]
   exact ⟨KeepsT.of_since (Since.refl _),⟨k0,x0,x1,(fun _=>⟨f7,fun a0 a1 a2 a3 a4 h=>by replace h:vals 5=.tuple #[a0,a1,a2,a3,a4]:=h;rw [e7] at h;exact Option.some.inj (congrArg (fun q:Array Value=>q[2]?) (Value.tuple.inj h))⟩),x3,x4,b0,b1,b2,d01,d02,d12,s0,s1,(fun h=>absurd ((s2 h).2.1) (by rw [hf];decide)),ay0,ay1⟩,trivial⟩
  ·obtain ⟨f7,g2,cp2,gg2,cpp2,ga2,ca2,gb2,cb2,e7,-⟩:=hr ⟨5,.data⟩ (by simp) rfl
   replace e7:vals 5=.tuple #[.agg #[.int .i64 rm0,.string xD,.bool xE,.int .i64 xN,.int .i64 rn0,.string yD,.bool yE,.int .i64 yN],.agg (cnCells {DF with pa:=some ⟨g2,0,none⟩,pc:=cp2}),.agg (cnCells {DT with pa:=some ⟨gg2,0,none⟩,pc:=cpp2}),.slice (some ⟨ga2,0,none⟩) na ca2,.slice (some ⟨gb2,0,none⟩) nb cb2]:=e7
   refine does_v (.agg (cnCells {DF with pa:=some ⟨g2,0,none⟩,pc:=cp2})) ?_ ?_
   ·simp [execOp,go_sem,e7]
   exact ⟨KeepsT.of_since (Since.refl _),⟨k0,x0,(fun _=>⟨f7,fun a0 a1 a2 a3 a4 h=>by replace h:vals 5=.tuple #[a0,a1,a2,a3,a4]:=h;rw [e7] at h;exact Option.some.inj (congrArg (fun q:Array Value=>q[1]?) (Value.tuple.inj h))⟩),x2,x3,x4,b0,b1,b2,d01,d02,d12,s0,(fun h=>absurd ((s1 h).2.1) (by rw [hf];decide)),s2,ay0,ay1⟩,trivial⟩
  ·obtain ⟨f7,g2,cp2,gg2,cpp2,ga2,ca2,gb2,cb2,e7,-⟩:=hr ⟨5,.data⟩ (by simp) rfl
   replace e7:vals 5=.tuple #[.agg #[.int .i64 rm0,.string xD,.bool xE,.int .i64 xN,.int .i64 rn0,.string yD,.bool yE,.int .i64 yN],.agg (cnCells {DF with pa:=some ⟨g2,0,none⟩,pc:=cp2}),.agg (cnCells {DT with pa:=some ⟨gg2,0,none⟩,pc:=cpp2}),.slice (some ⟨ga2,0,none⟩) na ca2,.slice (some ⟨gb2,0,none⟩) nb cb2]:=e7
   refine does_v (.agg #[.int .i64 rm0,.string xD,.bool xE,.int .i64 xN,.int .i64 rn0,.string yD,.bool yE,.int .i64 yN]) ?_ ?_
   ·simp [execOp,go_sem,e7]
   exact ⟨KeepsT.of_since (Since.refl _),⟨k0,(fun _=>⟨f7,fun a0 a1 a2 a3 a4 h=>by replace h:vals 5=.tuple #[a0,a1,a2,a3,a4]:=h;rw [e7] at h;exact Option.some.inj (congrArg (fun q:Array Value=>q[0]?) (Value.tuple.inj h))⟩),x1,x2,x3,x4,b0,b1,b2,d01,d02,d12,(fun h=>absurd ((s0 h).2.1) (by rw [hf];decide)),s1,s2,ay0,ay1⟩,trivial⟩
  ·obtain ⟨f6,g2,cp2,gg2,cpp2,ga2,ca2,gb2,cb2,e6,h6⟩:=hr ⟨4,.data⟩ (by simp) rfl
   refine does_v (.tuple #[.agg #[.int .i64 rm0,.string xD,.bool xE,.int .i64 xN,.int .i64 rn0,.string yD,.bool yE,.int .i64 yN],.agg (cnCells {DF with pa:=some ⟨g2,0,none⟩,pc:=cp2}),.agg (cnCells {DT with pa:=some ⟨gg2,0,none⟩,pc:=cpp2}),.slice (some ⟨ga2,0,none⟩) na ca2,.slice (some ⟨gb2,0,none⟩) nb cb2]) ?_ ?_
   ·simp [execOp,go_sem,e6]
   exact ⟨KeepsT.of_since (Since.refl _),⟨k0,(fun h=>absurd ((x0 h).1) (by rw [hf];decide)),(fun h=>absurd ((x1 h).1) (by rw [hf];decide)),(fun h=>absurd ((x2 h).1) (by rw [hf];decide)),(fun h=>absurd ((x3 h).1) (by rw [hf];decide)),(fun h=>absurd ((x4 h).1) (by rw [hf];decide)),b0,b1,b2,d01,d02,d12,s0,s1,s2,(fun h=>absurd ((ay0 h).1) (by rw [hf];decide)),(fun h=>absurd ((ay1 h).1) (by rw [hf];decide))⟩,g2,cp2,gg2,cpp2,ga2,ca2,gb2,cb2,rfl,h6⟩
  ·have e1:vals 1=.agg #[.int .i64 rm0,.string d0,.bool e0,.int .i64 n0,.int .i64 rn0,.string f0,.bool g0,.int .i64 m0]:=(hr ⟨1,.data⟩ (by simp) rfl).2
   have e2:vals 2=.agg (cnCells {c1 with pa:=some ⟨y1,0,none⟩,pc:=c1.pn}):=(hr ⟨2,.data⟩ (by simp) rfl).2
   have e3:vals 3=.agg (cnCells {c2 with pa:=some ⟨y2,0,none⟩,pc:=c2.pn}):=(hr ⟨3,.data⟩ (by simp) rfl).2
   refine does_c #[vals 1,vals 2,vals 3] (hi y1 y2 _ (X1.since k0).reads (X2.since k0).reads) (by rw [e1,e2,e3]) ?_
   rintro _ x' ⟨g2,cp2,gg2,cpp2,ga2,ca2,gb2,cb2,rfl,H2,K2,La2,Lb2,hne2,h1⟩
   exact ⟨_,rfl,KeepsT.of_since h1,⟨k0.trans h1,x0,x1,x2,x3,x4,(fun h=>by obtain ⟨b,e,l⟩:=b0 h;exact ⟨b,e,Nat.lt_of_lt_of_le l h1.size⟩),(fun h=>by obtain ⟨b,e,l⟩:=b1 h;exact ⟨b,e,Nat.lt_of_lt_of_le l h1.size⟩),(fun h=>by obtain ⟨b,e,l⟩:=b2 h;exact ⟨b,e,Nat.lt_of_lt_of_le l h1.size⟩),d01,d02,d12,(fun h=>by obtain ⟨f1,f2,b,cs,e1,e2,B⟩:=s0 h;exact ⟨f1,f2,b,cs,e1,e2,B.since h1⟩),(fun h=>by obtain ⟨f1,f2,b,cs,e1,e2,B⟩:=s1 h;exact ⟨f1,f2,b,cs,e1,e2,B.since h1⟩),(fun h=>by obtain ⟨f1,f2,b,cs,e1,e2,B⟩:=s2 h;exact ⟨f1,f2,b,cs,e1,e2,B.since h1⟩),ay0,ay1⟩,g2,cp2,gg2,cpp2,ga2,ca2,gb2,cb2,rfl,H2.raise (by have:=H2.low';have:=k0.size;omega),K2.raise (by have:=K2.low';have:=k0.size;omega),La2.raise (by have:=La2.low';have:=k0.size;omega),Lb2.raise (by have:=Lb2.low';have:=k0.size;omega),hne2⟩
  ·exact does_load cn_big (cn_size _) (qB50.since k0) _ rfl rfl ⟨KeepsT.of_since (Since.refl _),⟨k0,x0,x1,x2,x3,x4,b0,b1,b2,d01,d02,d12,s0,s1,s2,ay0,ay1⟩,rfl⟩
  ·exact does_load cn_big (cn_size _) (qB41.since k0) _ rfl rfl ⟨KeepsT.of_since (Since.refl _),⟨k0,x0,x1,x2,x3,x4,b0,b1,b2,d01,d02,d12,s0,s1,s2,ay0,ay1⟩,rfl⟩
  ·have e0:vals 0=.agg #[.int .i64 rm0,.string d0,.bool e0,.int .i64 n0,.int .i64 rn0,.string f0,.bool g0,.int .i64 m0]:=(hr ⟨0,.data⟩ (by simp) rfl).2
   refine does_c #[vals 0] (hto _) (by rw [e0]) ?_
   rintro _ x' ⟨rfl,h1⟩
   exact ⟨_,rfl,KeepsT.of_since h1,⟨k0.trans h1,x0,x1,x2,x3,x4,(fun h=>by obtain ⟨b,e,l⟩:=b0 h;exact ⟨b,e,Nat.lt_of_lt_of_le l h1.size⟩),(fun h=>by obtain ⟨b,e,l⟩:=b1 h;exact ⟨b,e,Nat.lt_of_lt_of_le l h1.size⟩),(fun h=>by obtain ⟨b,e,l⟩:=b2 h;exact ⟨b,e,Nat.lt_of_lt_of_le l h1.size⟩),d01,d02,d12,(fun h=>by obtain ⟨f1,f2,b,cs,e1,e2,B⟩:=s0 h;exact ⟨f1,f2,b,cs,e1,e2,B.since h1⟩),(fun h=>by obtain ⟨f1,f2,b,cs,e1,e2,B⟩:=s1 h;exact ⟨f1,f2,b,cs,e1,e2,B.since h1⟩),(fun h=>by obtain ⟨f1,f2,b,cs,e1,e2,B⟩:=s2 h;exact ⟨f1,f2,b,cs,e1,e2,B.since h1⟩),ay0,ay1⟩,rfl⟩
  ·exact does_load lrl_big rfl (qB2.since k0) _ rfl rfl ⟨KeepsT.of_since (Since.refl _),⟨k0,x0,x1,x2,x3,x4,b0,b1,b2,d01,d02,d12,s0,s1,s2,ay0,ay1⟩,rfl⟩
 intro f qv53 qw52 hK hf hv
 obtain ⟨k0,x0,x1,x2,x3,x4,b0,b1,b2,d01,d02,d12,s0,s1,s2,ay0,ay1⟩:=hK
 have hv0:qv53 0=_:=hv 0 (by decide)
 have hv1:qv53 1=_:=hv 1 (by decide)
 have hv2:qv53 2=_:=hv 2 (by decide)
 have hv3:qv53 3=_:=hv 3 (by decide)
 obtain ⟨g2c,cp2c,gg2c,cpp2c,ga2c,ca2c,gb2c,cb2c,hv4,-⟩:=hv 4 (by decide)
 obtain ⟨g2,cp2,gg2,cpp2,ga2,ca2,gb2,cb2,hv5,H2,K2,La2,Lb2,hne2⟩:=hv 5 (by decide)
 have hv6:=(x0 (hf 6 (by decide))).2 _ _ _ _ _ hv5
 have hv7:=(x1 (hf 7 (by decide))).2 _ _ _ _ _ hv5
 have hv8:=(x2 (hf 8 (by decide))).2 _ _ _ _ _ hv5
 have hv9:=(x3 (hf 9 (by decide))).2 _ _ _ _ _ hv5
 have hv10:=(x4 (hf 10 (by decide))).2 _ _ _ _ _ hv5
 have hv17:=(ay0 (hf 17 (by decide))).2 _ _ _ _ _ hv5
 have hv18:=(ay1 (hf 18 (by decide))).2 _ _ _ _ _ hv5
 obtain ⟨-,-,qx54,cs0,hv11,ec,qB57⟩:=s0 (hf 14 (by decide))
 rw [hv6] at ec
 obtain rfl:=Value.agg.inj ec
 clear ec
 obtain ⟨bb,eb,lb,tb⟩:=hv 11 (by decide)
 rw [hv11] at eb
 obtain rfl:qx54=bb:=by simpa using eb
 have H2_qx54:=typed_ne H2 tb (by decide)
 have K2_qx54:=typed_ne K2 tb (by decide)
 have La2_qx54:=typed_neG La2 tb (by decide)
 have Lb2_qx54:=typed_neG Lb2 tb (by decide)
 have qx54_b:=lb
 clear eb lb tb
 have qB57_l:=qB57.lt
 obtain ⟨-,-,qx55,cs1,hv12,ec,qB58⟩:=s1 (hf 15 (by decide))
 rw [hv7] at ec
 obtain rfl:=Value.agg.inj ec
 clear ec
 obtain ⟨bb,eb,lb,tb⟩:=hv 12 (by decide)
 rw [hv12] at eb
 obtain rfl:qx55=bb:=by simpa using eb
 have H2_qx55:=typed_ne H2 tb (by decide)
 have K2_qx55:=typed_ne K2 tb (by decide)
 have La2_qx55:=typed_neG La2 tb (by decide)
 have Lb2_qx55:=typed_neG Lb2 tb (by decide)
 have qx55_b:=lb
 clear eb lb tb
 have qB58_l:=qB58.lt
 obtain ⟨-,-,qx56,cs2,hv13,ec,qB59⟩:=s2 (hf 16 (by decide))
 rw [hv8] at ec
 obtain rfl:=Value.agg.inj ec
 clear ec
 obtain ⟨bb,eb,lb,tb⟩:=hv 13 (by decide)
 rw [hv13] at eb
 obtain rfl:qx56=bb:=by simpa using eb
 have H2_qx56:=typed_ne H2 tb (by decide)
 have K2_qx56:=typed_ne K2 tb (by decide)
 have La2_qx56:=typed_neG La2 tb (by decide)
 have Lb2_qx56:=typed_neG Lb2 tb (by decide)
 have qx56_b:=lb
 clear eb lb tb
 have qB59_l:=qB59.lt
 have qx54_qx55:qx54≠qx55:=fun q=>d01 (hf 11 (by decide)) (hf 12 (by decide)) (by rw [hv11,hv12,q])
 have qx54_qx56:qx54≠qx56:=fun q=>d02 (hf 11 (by decide)) (hf 13 (by decide)) (by rw [hv11,hv13,q])
 have qx55_qx56:qx55≠qx56:=fun q=>d12 (hf 12 (by decide)) (hf 13 (by decide)) (by rw [hv12,hv13,q])
 clear hv x0 x1 x2 x3 x4 b0 b1 b2 d01 d02 d12 s0 s1 s2 ay0 ay1
 simp only [hv0,hv1,hv2,hv3,hv4,hv5,hv6,hv7,hv8,hv9,hv10,hv17,hv18,hv11,hv12,hv13]
 clear hv0 hv1 hv2 hv3 hv4 hv5 hv6 hv7 hv8 hv9 hv10 hv17 hv18 hv11 hv12 hv13
 replace qB2:=qB2.since k0
 replace qB5:=qB5.since k0
 replace qB8:=qB8.since k0
 replace qB23:=qB23.since k0
 replace qB24:=qB24.since k0
 replace qB25:=qB25.since k0
 replace qB41:=qB41.since k0
 replace qB50:=qB50.since k0
 replace H1:=H1.since k0
 replace K1:=K1.since k0
 replace La1:=La1.since k0
 replace Lb1:=Lb1.since k0
 replace X1:=X1.since k0
 replace X2:=X2.since k0
 replace G:=G.trans k0
 have qw52_s:=k0.size
 clear k0
 have H2_0:=H2.low'
 replace H2:=H2.raise (show w.heap.size≤g2 by omega)
 have H2_1:=H2.lt
 have H2_p:Held shP qw52 w.heap.size g2 DF.pn cp2 p1:=by rw [hDF.out];exact H2
 clear H2
 have H2:=H2_p
 clear H2_p
 have K2_0:=K2.low'
 replace K2:=K2.raise (show w.heap.size≤gg2 by omega)
 have K2_1:=K2.lt
 have K2_p:Held shP qw52 w.heap.size gg2 DT.pn cpp2 p2:=by rw [hDT.out];exact K2
 clear K2
 have K2:=K2_p
 clear K2_p
 have La2_0:=La2.low'
 replace La2:=La2.raise (show w.heap.size≤ga2 by omega)
 have La2_1:=La2.lt
 have Lb2_0:=Lb2.low'
 replace Lb2:=Lb2.raise (show w.heap.size≤gb2 by omega)
 have Lb2_1:=Lb2.lt
 generalize (.tuple #[.agg #[.int .i64 rm0,.string xD,.bool xE,.int .i64 xN,.int .i64 rn0,.string yD,.bool yE,.int .i64 yN],.agg (cnCells {DF with pa:=some ⟨g2,0,none⟩,pc:=cp2}),.agg (cnCells {DT with pa:=some ⟨gg2,0,none⟩,pc:=cpp2}),.slice (some ⟨ga2,0,none⟩) na ca2,.slice (some ⟨gb2,0,none⟩) nb cb2]:Value)=qz60
 generalize (.agg #[.int .i64 rm0,.string d0,.bool e0,.int .i64 n0,.int .i64 rn0,.string f0,.bool g0,.int .i64 m0]:Value)=qz61
 generalize (.agg (cnCells {c1 with pa:=some ⟨y1,0,none⟩,pc:=c1.pn}):Value)=qz62
 generalize (.agg (cnCells {c2 with pa:=some ⟨y2,0,none⟩,pc:=c2.pn}):Value)=qz63
 generalize (.tuple #[.agg #[.int .i64 rm0,.string xD,.bool xE,.int .i64 xN,.int .i64 rn0,.string yD,.bool yE,.int .i64 yN],.agg (cnCells {DF with pa:=some ⟨g2c,0,none⟩,pc:=cp2c}),.agg (cnCells {DT with pa:=some ⟨gg2c,0,none⟩,pc:=cpp2c}),.slice (some ⟨ga2c,0,none⟩) na ca2c,.slice (some ⟨gb2c,0,none⟩) nb cb2c]:Value)=qz64
 generalize (.agg #[.int .i64 rm0,.string xD,.bool xE,.int .i64 xN,.int .i64 rn0,.string yD,.bool yE,.int .i64 yN]:Value)=qz65
 generalize (.agg (cnCells {DF with pa:=some ⟨g2,0,none⟩,pc:=cp2}):Value)=qz66
 generalize (.agg (cnCells {DT with pa:=some ⟨gg2,0,none⟩,pc:=cpp2}):Value)=qz67
 obtain ⟨hne2p,hne2q⟩:=hne2
 have og0:w.heap.size≤qw16.heap.size:=by omega
 have og1:qw16.heap.size≤qw18.heap.size:=by omega
 have og2:qw18.heap.size≤qw39.heap.size:=by omega
 have og3:qw39.heap.size≤qw48.heap.size:=by omega
 have og4:qw48.heap.size≤qw52.heap.size:=by omega
 have ol0:w.heap.size≤w.heap.size:=by omega
 have oh0:w.heap.size<qw16.heap.size:=by omega
 have ol1:w.heap.size≤qw1.heap.size:=by omega
 have oh1:qw1.heap.size<qw16.heap.size:=by omega
 have ol2:w.heap.size≤qw4.heap.size:=by omega
 have oh2:qw4.heap.size<qw16.heap.size:=by omega
 have ol3:qw16.heap.size≤qx20:=by omega
 have oh3:qx20<qw18.heap.size:=by omega
 have ol4:qw16.heap.size≤qx21:=by omega
 have oh4:qx21<qw18.heap.size:=by omega
 have ol5:qw16.heap.size≤qx22:=by omega
 have oh5:qx22<qw18.heap.size:=by omega
 have ol6:qw16.heap.size≤g1:=by omega
 have oh6:g1<qw18.heap.size:=by omega
 have ol7:qw16.heap.size≤gg1:=by omega
 have oh7:gg1<qw18.heap.size:=by omega
 have ol8:qw16.heap.size≤ga1:=by omega
 have oh8:ga1<qw18.heap.size:=by omega
 have ol9:qw16.heap.size≤gb1:=by omega
 have oh9:gb1<qw18.heap.size:=by omega
 have ol10:qw18.heap.size≤qw34.heap.size:=by omega
 have oh10:qw34.heap.size<qw39.heap.size:=by omega
 have ol11:qw18.heap.size≤y1:=by omega
 have oh11:y1<qw39.heap.size:=by omega
 have ol12:qw39.heap.size≤qw43.heap.size:=by omega
 have oh12:qw43.heap.size<qw48.heap.size:=by omega
 have ol13:qw39.heap.size≤y2:=by omega
 have oh13:y2<qw48.heap.size:=by omega
 have ol14:qw48.heap.size≤qx54:=by omega
 have oh14:qx54<qw52.heap.size:=by omega
 have ol15:qw48.heap.size≤qx55:=by omega
 have oh15:qx55<qw52.heap.size:=by omega
 have ol16:qw48.heap.size≤qx56:=by omega
 have oh16:qx56<qw52.heap.size:=by omega
 have ol17:qw48.heap.size≤g2:=by omega
 have oh17:g2<qw52.heap.size:=by omega
 have ol18:qw48.heap.size≤gg2:=by omega
 have oh18:gg2<qw52.heap.size:=by omega
 have ol19:qw48.heap.size≤ga2:=by omega
 have oh19:ga2<qw52.heap.size:=by omega
 have ol20:qw48.heap.size≤gb2:=by omega
 have oh20:gb2<qw52.heap.size:=by omega
 have oy2:y1<qw34.heap.size:=by omega
 have oy3:y2<qw43.heap.size:=by omega
 try clear qB2_l
 try clear qg3_s
 try clear qB5_l
 try clear qg6_s
 try clear qB8_l
 try clear qg9_s
 try clear qg12_s
 try clear qg15_s
 try clear qg17_s
 try clear hg_1
 try clear qx20_b
 try clear qB23_l
 try clear qx21_b
 try clear qB24_l
 try clear qx22_b
 try clear qB25_l
 try clear qw18_s
 try clear H1_0
 try clear H1_1
 try clear K1_0
 try clear K1_1
 try clear La1_0
 try clear La1_1
 try clear Lb1_0
 try clear Lb1_1
 try clear qg35_s
 try clear X1_0
 try clear X1_1
 try clear qB37_l
 try clear qg38_s
 try clear qt40_s
 try clear qg44_s
 try clear X2_0
 try clear X2_1
 try clear qB46_l
 try clear qg47_s
 try clear qt49_s
 try clear hg_2
 try clear qx54_b
 try clear qB57_l
 try clear qx55_b
 try clear qB58_l
 try clear qx56_b
 try clear qB59_l
 try clear qw52_s
 try clear H2_0
 try clear H2_1
 try clear K2_0
 try clear K2_1
 try clear La2_0
 try clear La2_1
 try clear Lb2_0
 try clear Lb2_1
 go_upto_region 15 with (fail)
 refine vR ?_
 refine vB rl_big qB57 rfl ?_
 refine vB rl_big qB23 rfl ?_
 refine vK (he _) ?_
 intro qw68 qg69
 replace qB2:=qB2.since qg69
 replace qB5:=qB5.since qg69
 replace qB8:=qB8.since qg69
 replace qB23:=qB23.since qg69
 replace qB24:=qB24.since qg69
 replace qB25:=qB25.since qg69
 replace qB41:=qB41.since qg69
 replace qB50:=qB50.since qg69
 replace qB57:=qB57.since qg69
 replace qB58:=qB58.since qg69
 replace qB59:=qB59.since qg69
 replace H1:=H1.since qg69
 replace K1:=K1.since qg69
 replace La1:=La1.since qg69
 replace Lb1:=Lb1.since qg69
 replace X1:=X1.since qg69
 replace X2:=X2.since qg69
 replace H2:=H2.since qg69
 replace K2:=K2.since qg69
 replace La2:=La2.since qg69
 replace Lb2:=Lb2.since qg69
 replace G:=G.trans qg69
 have qg69_s:=qg69.size
 refine vV (.bool false) ?_
 refine vV (.bool false) ?_
 refine vB cn_big qB58 (cn_size _) ?_
 refine vB cn_big qB24 (cn_size _) ?_
 refine vK (kF _ _ _ _ _ _ _ H2 H1) ?_
 intro qw70 qg71
 replace qB2:=qB2.since qg71
 replace qB5:=qB5.since qg71
 replace qB8:=qB8.since qg71
 replace qB23:=qB23.since qg71
 replace qB24:=qB24.since qg71
 replace qB25:=qB25.since qg71
 replace qB41:=qB41.since qg71
 replace qB50:=qB50.since qg71
 replace qB57:=qB57.since qg71
 replace qB58:=qB58.since qg71
 replace qB59:=qB59.since qg71
 replace H1:=H1.since qg71
 replace K1:=K1.since qg71
 replace La1:=La1.since qg71
 replace Lb1:=Lb1.since qg71
 replace X1:=X1.since qg71
 replace X2:=X2.since qg71
 replace H2:=H2.since qg71
 replace K2:=K2.since qg71
 replace La2:=La2.since qg71
 replace Lb2:=Lb2.since qg71
 replace G:=G.trans qg71
 have qg71_s:=qg71.size
 refine vV (.bool false) ?_
 refine vV (.bool false) ?_
 refine vV (.bool false) ?_
 refine vB cn_big qB59 (cn_size _) ?_
 refine vB cn_big qB25 (cn_size _) ?_
 refine vK (kT _ _ _ _ _ _ _ K2 K1) ?_
 intro qw72 qg73
 replace qB2:=qB2.since qg73
 replace qB5:=qB5.since qg73
 replace qB8:=qB8.since qg73
 replace qB23:=qB23.since qg73
 replace qB24:=qB24.since qg73
 replace qB25:=qB25.since qg73
 replace qB41:=qB41.since qg73
 replace qB50:=qB50.since qg73
 replace qB57:=qB57.since qg73
 replace qB58:=qB58.since qg73
 replace qB59:=qB59.since qg73
 replace H1:=H1.since qg73
 replace K1:=K1.since qg73
 replace La1:=La1.since qg73
 replace Lb1:=Lb1.since qg73
 replace X1:=X1.since qg73
 replace X2:=X2.since qg73
 replace H2:=H2.since qg73
 replace K2:=K2.since qg73
 replace La2:=La2.since qg73
 replace Lb2:=Lb2.since qg73
 replace G:=G.trans qg73
 have qg73_s:=qg73.size
 refine vV (.bool false) ?_
 refine vV (.bool false) ?_
 refine vV (.bool false) ?_
 refine vV (.slice (some ⟨ga2,0,none⟩) na ca2) ?_
 refine vV (.slice (some ⟨ga1,0,none⟩) na ca1) ?_
 refine vK (eqSegs _ _ _ _ na _ _ _ (by omega) _ La2 La1) ?_
 intro qw74 qg75
 replace qB2:=qB2.since qg75
 replace qB5:=qB5.since qg75
 replace qB8:=qB8.since qg75
 replace qB23:=qB23.since qg75
 replace qB24:=qB24.since qg75
 replace qB25:=qB25.since qg75
 replace qB41:=qB41.since qg75
 replace qB50:=qB50.since qg75
 replace qB57:=qB57.since qg75
 replace qB58:=qB58.since qg75
 replace qB59:=qB59.since qg75
 replace H1:=H1.since qg75
 replace K1:=K1.since qg75
 replace La1:=La1.since qg75
 replace Lb1:=Lb1.since qg75
 replace X1:=X1.since qg75
 replace X2:=X2.since qg75
 replace H2:=H2.since qg75
 replace K2:=K2.since qg75
 replace La2:=La2.since qg75
 replace Lb2:=Lb2.since qg75
 replace G:=G.trans qg75
 have qg75_s:=qg75.size
 refine vV (.bool false) ?_
 refine vV (.bool false) ?_
 refine vV (.bool false) ?_
 refine vV (.slice (some ⟨gb2,0,none⟩) nb cb2) ?_
 refine vV (.slice (some ⟨gb1,0,none⟩) nb cb1) ?_
 refine vK (eqSegs _ _ _ _ nb _ _ _ (by omega) _ Lb2 Lb1) ?_
 intro qw76 qg77
 replace qB2:=qB2.since qg77
 replace qB5:=qB5.since qg77
 replace qB8:=qB8.since qg77
 replace qB23:=qB23.since qg77
 replace qB24:=qB24.since qg77
 replace qB25:=qB25.since qg77
 replace qB41:=qB41.since qg77
 replace qB50:=qB50.since qg77
 replace qB57:=qB57.since qg77
 replace qB58:=qB58.since qg77
 replace qB59:=qB59.since qg77
 replace H1:=H1.since qg77
 replace K1:=K1.since qg77
 replace La1:=La1.since qg77
 replace Lb1:=Lb1.since qg77
 replace X1:=X1.since qg77
 replace X2:=X2.since qg77
 replace H2:=H2.since qg77
 replace K2:=K2.since qg77
 replace La2:=La2.since qg77
 replace Lb2:=Lb2.since qg77
 replace G:=G.trans qg77
 have qg77_s:=qg77.size
 refine vV (.bool false) ?_
 refine vV (.bool false) ?_
 refine vE #[qz10,.agg (cnCells c1),.agg (cnCells c2),pX w.heap.size 0,pX qw1.heap.size 0,pX qw4.heap.size 0,.bool false,.int .i64 r2,pX qx20 0,pX qx21 0,pX qx22 0,.slice (some ⟨ga1,0,none⟩) na ca1,.slice (some ⟨gb1,0,none⟩) nb cb1,pX qw34.heap.size 0,pX qw43.heap.size 0,pX qx54 0,pX qx55 0,pX qx56 0,.slice (some ⟨ga2,0,none⟩) na ca2,.slice (some ⟨gb2,0,none⟩) nb cb2,U,U,U,U,U,U,U,U,qz13,.int .i64 1048576,.int .i64 l0,.int .i64 l0,.bool (decide (l0<0)),.agg (cnCells c1),.int .i64 l0,.int .i64 r1,.int .i64 r1,.bool (decide (r1<0)),.agg (cnCells c2),.int .i64 r1,.int .i64 r2,.int .i64 r2,.bool (decide (r2<0)),qz26,qz27,qz27,.agg (cnCells c1),qz28,.agg (cnCells c2),qz29,qz30,qz31,qz32,qz33,.slice (some ⟨ga1,0,none⟩) na ca1,.slice (some ⟨gb1,0,none⟩) nb cb1,.agg (cnCells c1),qz42,.agg (cnCells c2),qz51,qz60,qz61,qz61,qz62,qz63,qz64,qz65,qz66,qz67,.slice (some ⟨ga2,0,none⟩) na ca2,.slice (some ⟨gb2,0,none⟩) nb cb2,.agg #[.int .i64 rm0,.string xD,.bool xE,.int .i64 xN,.int .i64 rn0,.string yD,.bool yE,.int .i64 yN],.agg #[.int .i64 rm0,.string xD,.bool xE,.int .i64 xN,.int .i64 rn0,.string yD,.bool yE,.int .i64 yN],.bool true,.bool false,.bool false,.agg (cnCells {DF with pa:=some ⟨g2,0,none⟩,pc:=cp2}),.agg (cnCells {DF with pa:=some ⟨g1,0,none⟩,pc:=cp1}),.bool true,.bool false,.bool false,.bool false,.agg (cnCells {DT with pa:=some ⟨gg2,0,none⟩,pc:=cpp2}),.agg (cnCells {DT with pa:=some ⟨gg1,0,none⟩,pc:=cpp1}),.bool true,.bool false,.bool false,.bool false,.slice (some ⟨ga2,0,none⟩) na ca2,.slice (some ⟨ga1,0,none⟩) na ca1,.bool true,.bool false,.bool false,.bool false,.slice (some ⟨gb2,0,none⟩) nb cb2,.slice (some ⟨gb1,0,none⟩) nb cb1,.bool true,.bool false,.bool false,U,U,U,U,U,U,U,U,U,U,U,U,U,U,U,U,U,U,U,U,U,U,U,U,U,U,U,U,U,U,U,U,U,U,U,U,U,U,U,U,U,U,U,U,U,U,U,U,U,U,U,U,U,U,U,U,U,U,U,U,U,U,U,U,U,U,U,U,U,U,U,U,U,U,U,U,U,U,U,U,U,U,U,U,U,U,U,U,U,U,U,U,U,U,U,U,U,U,U,U,U,U,U,U,U,U,U,U,U,U,U,U,U,U,U,U,U,U,U,U,U,U,U,U,U,U,U,U,U,U,U,U,U,U,U,U,U,U,U,U,U,U,U,U,U,U,U] ?_
 generalize (.agg #[.int .i64 rm0,.string xD,.bool xE,.int .i64 xN,.int .i64 rn0,.string yD,.bool yE,.int .i64 yN]:Value)=qz78
 generalize (.agg (cnCells {DF with pa:=some ⟨g2,0,none⟩,pc:=cp2}):Value)=qz79
 generalize (.agg (cnCells {DF with pa:=some ⟨g1,0,none⟩,pc:=cp1}):Value)=qz80
 generalize (.agg (cnCells {DT with pa:=some ⟨gg2,0,none⟩,pc:=cpp2}):Value)=qz81
 generalize (.agg (cnCells {DT with pa:=some ⟨gg1,0,none⟩,pc:=cpp1}):Value)=qz82
 go_upto_region 17 with (fail)
 refine wp_region_each (wb:=qw76) (fun i x v=>match i with
   | 0=>v=.agg (cnCells {c1 with pa:=some ⟨y1,0,none⟩,pc:=c1.pn})
   | 1=>v=.agg (cnCells c1)
   | 2=>∃ g,v=.agg (cnCells {c1 with pa:=some ⟨g,0,none⟩,pc:=c1.pn})∧Held shP x 0 g c1.pn c1.pn p1
   | 3=>v=.bool true
   | 4=>v=.bool false
   | _=>True) (fun v=>{tmps:=#[qz10,.agg (cnCells c1),.agg (cnCells c2),.pointer (some ⟨w.heap.size,0,none⟩),.pointer (some ⟨qw1.heap.size,0,none⟩),.pointer (some ⟨qw4.heap.size,0,none⟩),.bool false,.int .i64 r2,.pointer (some ⟨qx20,0,none⟩),.pointer (some ⟨qx21,0,none⟩),.pointer (some ⟨qx22,0,none⟩),.slice (some ⟨ga1,0,none⟩) na ca1,.slice (some ⟨gb1,0,none⟩) nb cb1,.pointer (some ⟨qw34.heap.size,0,none⟩),.pointer (some ⟨qw43.heap.size,0,none⟩),.pointer (some ⟨qx54,0,none⟩),.pointer (some ⟨qx55,0,none⟩),.pointer (some ⟨qx56,0,none⟩),.slice (some ⟨ga2,0,none⟩) na ca2,.slice (some ⟨gb2,0,none⟩) nb cb2,U,U,U,U,U,U,U,U,qz13,.int .i64 1048576,.int .i64 l0,.int .i64 l0,.bool (decide (l0<0)),.agg (cnCells c1),.int .i64 l0,.int .i64 r1,.int .i64 r1,.bool (decide (r1<0)),.agg (cnCells c2),.int .i64 r1,.int .i64 r2,.int .i64 r2,.bool (decide (r2<0)),qz26,qz27,qz27,.agg (cnCells c1),qz28,.agg (cnCells c2),qz29,qz30,qz31,qz32,qz33,.slice (some ⟨ga1,0,none⟩) na ca1,.slice (some ⟨gb1,0,none⟩) nb cb1,.agg (cnCells c1),qz42,.agg (cnCells c2),qz51,qz60,qz61,qz61,qz62,qz63,qz64,qz65,qz66,qz67,.slice (some ⟨ga2,0,none⟩) na ca2,.slice (some ⟨gb2,0,none⟩) nb cb2,qz78,qz78,.bool true,.bool false,.bool false,qz79,qz80,.bool true,.bool false,.bool false,.bool false,qz81,qz82,.bool true,.bool false,.bool false,.bool false,.slice (some ⟨ga2,0,none⟩) na ca2,.slice (some ⟨ga1,0,none⟩) na ca1,.bool true,.bool false,.bool false,.bool false,.slice (some ⟨gb2,0,none⟩) nb cb2,.slice (some ⟨gb1,0,none⟩) nb cb1,.bool true,.bool false,.bool false,v 0,v 1,v 2,v 3,v 4,U,U,U,U,U,U,U,U,U,U,U,U,U,U,U,U,U,U,U,U,U,U,U,U,U,U,U,U,U,U,U,U,U,U,U,U,U,U,U,U,U,U,U,U,U,U,U,U,U,U,U,U,U,U,U,U,U,U,U,U,U,U,U,U,U,U,U,U,U,U,U,U,U,U,U,U,U,U,U,U,U,U,U,U,U,U,U,U,U,U,U,U,U,U,U,U,U,U,U,U,U,U,U,U,U,U,U,U,U,U,U,U,U,U,U,U,U,U,U,U,U,U,U,U,U,U,U,U,U,U,U,U,U,U,U,U,U,U,U,U,U,undef],defers:=[]}) (by kernel_rfl) (by kernel_rfl) (Since.refl _) ?_ (fun vals=>by kernel_rfl) ?_ ?_
 case refine_1=>
  intro j x x' v h1 h2
  match j,h2 with
  | 2,h2=>
   obtain ⟨g,e,T⟩:=h2
   exact ⟨g,e,T.since h1⟩
  | 0,h2|1,h2|3,h2|4,h2=>exact h2
  | n+5,_=>trivial
 case refine_2=>
  repeat (first|exact eachDoes_nil|refine eachDoes_cons ?_ ?_)
  all_goals intro vals x hx hv
  all_goals simp [Region.binds] at hv
  ·simp [does,doesUpon,go_sem,hv,Since.refl]
  ·obtain ⟨h0,g,h2,T⟩:=hv
   simp [does,doesUpon,go_sem,h0,h2]
   refine (k1 _ _ _ _ _ (X1.since hx).reads T.reads).mono ?_
   rintro _ x' ⟨rfl,h1⟩
   simp [h1]
  ·simp [does,doesUpon,go_sem,hv]
   refine (hT1 _ (R1.since (G.trans hx))).mono ?_
   rintro _ x' ⟨g,rfl,T,h1⟩
   exact ⟨_,rfl,h1,g,rfl,T.raise (Nat.zero_le _)⟩
  ·exact does_load lcn_big (cn_size _) (qB5.since hx) _ rfl rfl ⟨Since.refl _,rfl⟩
  ·exact does_load cn_big (cn_size _) (qB41.since hx) _ rfl rfl ⟨Since.refl _,rfl⟩
 case refine_3=>
  intro qv85 qw83 qh84 hv
  have hv0:qv85 0=_:=hv 0 (by decide)
  have hv1:qv85 1=_:=hv 1 (by decide)
  obtain ⟨qz86,hv2,-⟩:=hv 2 (by decide)
  have hv3:qv85 3=_:=hv 3 (by decide)
  have hv4:qv85 4=_:=hv 4 (by decide)
  clear hv
  simp only [hv0,hv1,hv2,hv3,hv4]
  clear hv0 hv1 hv2 hv3 hv4
  replace qB2:=qB2.since qh84
  replace qB5:=qB5.since qh84
  replace qB8:=qB8.since qh84
  replace qB23:=qB23.since qh84
  replace qB24:=qB24.since qh84
  replace qB25:=qB25.since qh84
  replace qB41:=qB41.since qh84
  replace qB50:=qB50.since qh84
  replace qB57:=qB57.since qh84
  replace qB58:=qB58.since qh84
  replace qB59:=qB59.since qh84
  replace H1:=H1.since qh84
  replace K1:=K1.since qh84
  replace La1:=La1.since qh84
  replace Lb1:=Lb1.since qh84
  replace X1:=X1.since qh84
  replace X2:=X2.since qh84
  replace H2:=H2.since qh84
  replace K2:=K2.since qh84
  replace La2:=La2.since qh84
  replace Lb2:=Lb2.since qh84
  replace G:=G.trans qh84
  have qh84_s:=qh84.size
  generalize (.agg (cnCells {c1 with pa:=some ⟨y1,0,none⟩,pc:=c1.pn}):Value)=qz87
  generalize (.agg (cnCells {c1 with pa:=some ⟨qz86,0,none⟩,pc:=c1.pn}):Value)=qz88
  go_upto_region 19 with (fail)
  refine wp_region_each (wb:=qw83) (fun i x v=>match i with
    | 0=>v=.agg (cnCells {c2 with pa:=some ⟨y2,0,none⟩,pc:=c2.pn})
    | 1=>v=.agg (cnCells c2)
    | 2=>∃ g,v=.agg (cnCells {c2 with pa:=some ⟨g,0,none⟩,pc:=c2.pn})∧Held shP x 0 g c2.pn c2.pn p2
    | 3=>v=.bool true
    | 4=>v=.bool false
    | _=>True) (fun v=>{tmps:=#[qz10,.agg (cnCells c1),.agg (cnCells c2),.pointer (some ⟨w.heap.size,0,none⟩),.pointer (some ⟨qw1.heap.size,0,none⟩),.pointer (some ⟨qw4.heap.size,0,none⟩),.bool false,.int .i64 r2,.pointer (some ⟨qx20,0,none⟩),.pointer (some ⟨qx21,0,none⟩),.pointer (some ⟨qx22,0,none⟩),.slice (some ⟨ga1,0,none⟩) na ca1,.slice (some ⟨gb1,0,none⟩) nb cb1,.pointer (some ⟨qw34.heap.size,0,none⟩),.pointer (some ⟨qw43.heap.size,0,none⟩),.pointer (some ⟨qx54,0,none⟩),.pointer (some ⟨qx55,0,none⟩),.pointer (some ⟨qx56,0,none⟩),.slice (some ⟨ga2,0,none⟩) na ca2,.slice (some ⟨gb2,0,none⟩) nb cb2,U,U,U,U,U,U,U,U,qz13,.int .i64 1048576,.int .i64 l0,.int .i64 l0,.bool (decide (l0<0)),.agg (cnCells c1),.int .i64 l0,.int .i64 r1,.int .i64 r1,.bool (decide (r1<0)),.agg (cnCells c2),.int .i64 r1,.int .i64 r2,.int .i64 r2,.bool (decide (r2<0)),qz26,qz27,qz27,.agg (cnCells c1),qz28,.agg (cnCells c2),qz29,qz30,qz31,qz32,qz33,.slice (some ⟨ga1,0,none⟩) na ca1,.slice (some ⟨gb1,0,none⟩) nb cb1,.agg (cnCells c1),qz42,.agg (cnCells c2),qz51,qz60,qz61,qz61,qz62,qz63,qz64,qz65,qz66,qz67,.slice (some ⟨ga2,0,none⟩) na ca2,.slice (some ⟨gb2,0,none⟩) nb cb2,qz78,qz78,.bool true,.bool false,.bool false,qz79,qz80,.bool true,.bool false,.bool false,.bool false,qz81,qz82,.bool true,.bool false,.bool false,.bool false,.slice (some ⟨ga2,0,none⟩) na ca2,.slice (some ⟨ga1,0,none⟩) na ca1,.bool true,.bool false,.bool false,.bool false,.slice (some ⟨gb2,0,none⟩) nb cb2,.slice (some ⟨gb1,0,none⟩) nb cb1,.bool true,.bool false,.bool false,qz87,.agg (cnCells c1),qz88,.bool true,.bool false,v 0,v 1,v 2,v 3,v 4,U,U,U,U,U,U,U,U,U,U,U,U,U,U,U,U,U,U,U,U,U,U,U,U,U,U,U,U,U,U,U,U,U,U,U,U,U,U,U,U,U,U,U,U,U,U,U,U,U,U,U,U,U,U,U,U,U,U,U,U,U,U,U,U,U,U,U,U,U,U,U,U,U,U,U,U,U,U,U,U,U,U,U,U,U,U,U,U,U,U,U,U,U,U,U,U,U,U,U,U,U,U,U,U,U,U,U,U,U,U,U,U,U,U,U,U,U,U,U,U,U,U,U,U,U,U,U,U,U,U,U,U,U,U,U,U,undef],defers:=[]}) (by kernel_rfl) (by kernel_rfl) (Since.refl _) ?_ (fun vals=>by kernel_rfl) ?_ ?_
  case refine_1=>
   intro j x x' v h1 h2
   match j,h2 with
   | 2,h2=>
    obtain ⟨g,e,T⟩:=h2
    exact ⟨g,e,T.since h1⟩
   | 0,h2|1,h2|3,h2|4,h2=>exact h2
   | n+5,_=>trivial
  case refine_2=>
   repeat (first|exact eachDoes_nil|refine eachDoes_cons ?_ ?_)
   all_goals intro vals x hx hv
   all_goals simp [Region.binds] at hv
   ·simp [does,doesUpon,go_sem,hv,Since.refl]
   ·obtain ⟨h0,g,h2,T⟩:=hv
    simp [does,doesUpon,go_sem,h0,h2]
    refine (k2 _ _ _ _ _ (X2.since hx).reads T.reads).mono ?_
    rintro _ x' ⟨rfl,h1⟩
    simp [h1]
   ·simp [does,doesUpon,go_sem,hv]
    refine (hT2 _ (R2.since (G.trans hx))).mono ?_
    rintro _ x' ⟨g,rfl,T,h1⟩
    exact ⟨_,rfl,h1,g,rfl,T.raise (Nat.zero_le _)⟩
   ·exact does_load lcn_big (cn_size _) (qB8.since hx) _ rfl rfl ⟨Since.refl _,rfl⟩
   ·exact does_load cn_big (cn_size _) (qB50.since hx) _ rfl rfl ⟨Since.refl _,rfl⟩
  case refine_3=>
   intro qv91 qw89 qh90 hv
   have hv0:qv91 0=_:=hv 0 (by decide)
   have hv1:qv91 1=_:=hv 1 (by decide)
   obtain ⟨qz92,hv2,-⟩:=hv 2 (by decide)
   have hv3:qv91 3=_:=hv 3 (by decide)
   have hv4:qv91 4=_:=hv 4 (by decide)
   clear hv
   simp only [hv0,hv1,hv2,hv3,hv4]
   clear hv0 hv1 hv2 hv3 hv4
   replace qB2:=qB2.since qh90
   replace qB5:=qB5.since qh90
   replace qB8:=qB8.since qh90
   replace qB23:=qB23.since qh90
   replace qB24:=qB24.since qh90
   replace qB25:=qB25.since qh90
   replace qB41:=qB41.since qh90
   replace qB50:=qB50.since qh90
   replace qB57:=qB57.since qh90
   replace qB58:=qB58.since qh90
   replace qB59:=qB59.since qh90
   replace H1:=H1.since qh90
   replace K1:=K1.since qh90
   replace La1:=La1.since qh90
   replace Lb1:=Lb1.since qh90
   replace X1:=X1.since qh90
   replace X2:=X2.since qh90
   replace H2:=H2.since qh90
   replace K2:=K2.since qh90
   replace La2:=La2.since qh90
   replace Lb2:=Lb2.since qh90
   replace G:=G.trans qh90
   have qh90_s:=qh90.size
   generalize (.agg (cnCells {c2 with pa:=some ⟨y2,0,none⟩,pc:=c2.pn}):Value)=qz93
   generalize (.agg (cnCells {c2 with pa:=some ⟨qz92,0,none⟩,pc:=c2.pn}):Value)=qz94
   go_upto_region 22 with (fail)
   refine vR ?_
   refine vB cn_big qB41 (cn_size _) ?_
   refine vV (.int .i64 1) ?_
   have nm_La1_X1:=(heldGP X1 La1).symm
   have nm_Lb1_X1:=(heldGP X1 Lb1).symm
   have nm_La2_X1:=(heldGP X1 La2).symm
   have nm_Lb2_X1:=(heldGP X1 Lb2).symm
   refine vC (markCn c1 y1 _ _ _ 1 (by omega) (by omega) _ X1) ?_
   have X1_2:=X1.low'
   rintro _ qw95 ⟨rfl,qt96,ms3,hM3,X1n⟩
   refine ⟨_,rfl,?_⟩
   clear X1
   have X1:=X1n
   clear X1n
   replace qB2:=qB2.touch qt96 (by omega)
   replace qB5:=qB5.touch qt96 (by omega)
   replace qB8:=qB8.touch qt96 (by omega)
   replace qB23:=qB23.touch qt96 (by omega)
   replace qB24:=qB24.touch qt96 (by omega)
   replace qB25:=qB25.touch qt96 (by omega)
   replace qB41:=qB41.touch qt96 (by first|assumption|exact Ne.symm (by assumption)|omega)
   replace qB50:=qB50.touch qt96 (by omega)
   replace qB57:=qB57.touch qt96 (by omega)
   replace qB58:=qB58.touch qt96 (by omega)
   replace qB59:=qB59.touch qt96 (by omega)
   replace H1:=H1.touch qt96 (by omega)
   replace K1:=K1.touch qt96 (by omega)
   replace La1:=La1.touch qt96 (by omega)
   replace Lb1:=Lb1.touch qt96 (by omega)
   replace X2:=X2.touch qt96 (by omega)
   replace H2:=H2.touch qt96 (by omega)
   replace K2:=K2.touch qt96 (by omega)
   replace La2:=La2.touch qt96 (by omega)
   replace Lb2:=Lb2.touch qt96 (by omega)
   replace G:=since_touch G qt96 (by omega)
   have qt96_s:=qt96.size
   refine vV (.int .i64 (1+2*c1.pn)) ?_
   refine vE #[qz10,.agg (cnCells c1),.agg (cnCells c2),pX w.heap.size 0,pX qw1.heap.size 0,pX qw4.heap.size 0,.bool false,.int .i64 r2,pX qx20 0,pX qx21 0,pX qx22 0,.slice (some ⟨ga1,0,none⟩) na ca1,.slice (some ⟨gb1,0,none⟩) nb cb1,pX qw34.heap.size 0,pX qw43.heap.size 0,pX qx54 0,pX qx55 0,pX qx56 0,.slice (some ⟨ga2,0,none⟩) na ca2,.slice (some ⟨gb2,0,none⟩) nb cb2,.int .i64 (1+2*c1.pn),U,U,U,U,U,U,U,qz13,.int .i64 1048576,.int .i64 l0,.int .i64 l0,.bool (decide (l0<0)),.agg (cnCells c1),.int .i64 l0,.int .i64 r1,.int .i64 r1,.bool (decide (r1<0)),.agg (cnCells c2),.int .i64 r1,.int .i64 r2,.int .i64 r2,.bool (decide (r2<0)),qz26,qz27,qz27,.agg (cnCells c1),qz28,.agg (cnCells c2),qz29,qz30,qz31,qz32,qz33,.slice (some ⟨ga1,0,none⟩) na ca1,.slice (some ⟨gb1,0,none⟩) nb cb1,.agg (cnCells c1),qz42,.agg (cnCells c2),qz51,qz60,qz61,qz61,qz62,qz63,qz64,qz65,qz66,qz67,.slice (some ⟨ga2,0,none⟩) na ca2,.slice (some ⟨gb2,0,none⟩) nb cb2,qz78,qz78,.bool true,.bool false,.bool false,qz79,qz80,.bool true,.bool false,.bool false,.bool false,qz81,qz82,.bool true,.bool false,.bool false,.bool false,.slice (some ⟨ga2,0,none⟩) na ca2,.slice (some ⟨ga1,0,none⟩) na ca1,.bool true,.bool false,.bool false,.bool false,.slice (some ⟨gb2,0,none⟩) nb cb2,.slice (some ⟨gb1,0,none⟩) nb cb1,.bool true,.bool false,.bool false,qz87,.agg (cnCells c1),qz88,.bool true,.bool false,qz93,.agg (cnCells c2),qz94,.bool true,.bool false,.agg (cnCells {c1 with pa:=some ⟨y1,0,none⟩,pc:=c1.pn}),.int .i64 1,.int .i64 (1+2*c1.pn),U,U,U,U,U,U,U,U,U,U,U,U,U,U,U,U,U,U,U,U,U,U,U,U,U,U,U,U,U,U,U,U,U,U,U,U,U,U,U,U,U,U,U,U,U,U,U,U,U,U,U,U,U,U,U,U,U,U,U,U,U,U,U,U,U,U,U,U,U,U,U,U,U,U,U,U,U,U,U,U,U,U,U,U,U,U,U,U,U,U,U,U,U,U,U,U,U,U,U,U,U,U,U,U,U,U,U,U,U,U,U,U,U,U,U,U,U,U,U,U,U,U,U,U,U,U,U,U,U,U,U,U,U,U] ?_
   generalize (.agg (cnCells {c1 with pa:=some ⟨y1,0,none⟩,pc:=c1.pn}):Value)=qz97
   go_upto_region 23 with (fail)
   refine vR ?_
   refine vB cn_big qB50 (cn_size _) ?_
   refine vV (.int .i64 (1+2*c1.pn)) ?_
   have nm_La1_X2:=(heldGP X2 La1).symm
   have nm_Lb1_X2:=(heldGP X2 Lb1).symm
   have nm_La2_X2:=(heldGP X2 La2).symm
   have nm_Lb2_X2:=(heldGP X2 Lb2).symm
   refine vC (markCn c2 y2 _ _ _ (1+2*c1.pn) (by omega) (by omega) _ X2) ?_
   have X2_2:=X2.low'
   rintro _ qw98 ⟨rfl,qt99,ms4,hM4,X2n⟩
   refine ⟨_,rfl,?_⟩
   clear X2
   have X2:=X2n
   clear X2n
   replace qB2:=qB2.touch qt99 (by omega)
   replace qB5:=qB5.touch qt99 (by omega)
   replace qB8:=qB8.touch qt99 (by omega)
   replace qB23:=qB23.touch qt99 (by omega)
   replace qB24:=qB24.touch qt99 (by omega)
   replace qB25:=qB25.touch qt99 (by omega)
   replace qB41:=qB41.touch qt99 (by omega)
   replace qB50:=qB50.touch qt99 (by first|assumption|exact Ne.symm (by assumption)|omega)
   replace qB57:=qB57.touch qt99 (by omega)
   replace qB58:=qB58.touch qt99 (by omega)
   replace qB59:=qB59.touch qt99 (by omega)
   replace H1:=H1.touch qt99 (by omega)
   replace K1:=K1.touch qt99 (by omega)
   replace La1:=La1.touch qt99 (by omega)
   replace Lb1:=Lb1.touch qt99 (by omega)
   replace H2:=H2.touch qt99 (by omega)
   replace K2:=K2.touch qt99 (by omega)
   replace La2:=La2.touch qt99 (by omega)
   replace Lb2:=Lb2.touch qt99 (by omega)
   replace X1:=X1.touch qt99 (by omega)
   replace G:=since_touch G qt99 (by omega)
   have qt99_s:=qt99.size
   refine vV (.int .i64 ((1+2*c1.pn)+2*c2.pn)) ?_
   refine vE #[qz10,.agg (cnCells c1),.agg (cnCells c2),pX w.heap.size 0,pX qw1.heap.size 0,pX qw4.heap.size 0,.bool false,.int .i64 r2,pX qx20 0,pX qx21 0,pX qx22 0,.slice (some ⟨ga1,0,none⟩) na ca1,.slice (some ⟨gb1,0,none⟩) nb cb1,pX qw34.heap.size 0,pX qw43.heap.size 0,pX qx54 0,pX qx55 0,pX qx56 0,.slice (some ⟨ga2,0,none⟩) na ca2,.slice (some ⟨gb2,0,none⟩) nb cb2,.int .i64 ((1+2*c1.pn)+2*c2.pn),U,U,U,U,U,U,U,qz13,.int .i64 1048576,.int .i64 l0,.int .i64 l0,.bool (decide (l0<0)),.agg (cnCells c1),.int .i64 l0,.int .i64 r1,.int .i64 r1,.bool (decide (r1<0)),.agg (cnCells c2),.int .i64 r1,.int .i64 r2,.int .i64 r2,.bool (decide (r2<0)),qz26,qz27,qz27,.agg (cnCells c1),qz28,.agg (cnCells c2),qz29,qz30,qz31,qz32,qz33,.slice (some ⟨ga1,0,none⟩) na ca1,.slice (some ⟨gb1,0,none⟩) nb cb1,.agg (cnCells c1),qz42,.agg (cnCells c2),qz51,qz60,qz61,qz61,qz62,qz63,qz64,qz65,qz66,qz67,.slice (some ⟨ga2,0,none⟩) na ca2,.slice (some ⟨gb2,0,none⟩) nb cb2,qz78,qz78,.bool true,.bool false,.bool false,qz79,qz80,.bool true,.bool false,.bool false,.bool false,qz81,qz82,.bool true,.bool false,.bool false,.bool false,.slice (some ⟨ga2,0,none⟩) na ca2,.slice (some ⟨ga1,0,none⟩) na ca1,.bool true,.bool false,.bool false,.bool false,.slice (some ⟨gb2,0,none⟩) nb cb2,.slice (some ⟨gb1,0,none⟩) nb cb1,.bool true,.bool false,.bool false,qz87,.agg (cnCells c1),qz88,.bool true,.bool false,qz93,.agg (cnCells c2),qz94,.bool true,.bool false,qz97,.int .i64 1,.int .i64 (1+2*c1.pn),.agg (cnCells {c2 with pa:=some ⟨y2,0,none⟩,pc:=c2.pn}),.int .i64 (1+2*c1.pn),.int .i64 ((1+2*c1.pn)+2*c2.pn),U,U,U,U,U,U,U,U,U,U,U,U,U,U,U,U,U,U,U,U,U,U,U,U,U,U,U,U,U,U,U,U,U,U,U,U,U,U,U,U,U,U,U,U,U,U,U,U,U,U,U,U,U,U,U,U,U,U,U,U,U,U,U,U,U,U,U,U,U,U,U,U,U,U,U,U,U,U,U,U,U,U,U,U,U,U,U,U,U,U,U,U,U,U,U,U,U,U,U,U,U,U,U,U,U,U,U,U,U,U,U,U,U,U,U,U,U,U,U,U,U,U,U,U,U,U,U,U,U,U,U] ?_
   generalize (.agg (cnCells {c2 with pa:=some ⟨y2,0,none⟩,pc:=c2.pn}):Value)=qz100
   go_upto_region 24 with (fail)
   have hlt24:decide (((1+2*c1.pn)+2*c2.pn)<0)=false:=decide_eq_false (by omega)
   refine vR ?_
   refine vV (.int .i64 ((1+2*c1.pn)+2*c2.pn)) ?_
   refine vV (.bool false) ?_ (hrun:=by rw [← hlt24];kernel_rfl)
   refine vV (.bool false) ?_
   refine vB rl_big qB57 rfl ?_
   refine vB rl_big qB23 rfl ?_
   refine vK (he _) ?_
   intro qw101 qg102
   replace qB2:=qB2.since qg102
   replace qB5:=qB5.since qg102
   replace qB8:=qB8.since qg102
   replace qB23:=qB23.since qg102
   replace qB24:=qB24.since qg102
   replace qB25:=qB25.since qg102
   replace qB41:=qB41.since qg102
   replace qB50:=qB50.since qg102
   replace qB57:=qB57.since qg102
   replace qB58:=qB58.since qg102
   replace qB59:=qB59.since qg102
   replace H1:=H1.since qg102
   replace K1:=K1.since qg102
   replace La1:=La1.since qg102
   replace Lb1:=Lb1.since qg102
   replace H2:=H2.since qg102
   replace K2:=K2.since qg102
   replace La2:=La2.since qg102
   replace Lb2:=Lb2.since qg102
   replace X1:=X1.since qg102
   replace X2:=X2.since qg102
   replace G:=G.trans qg102
   have qg102_s:=qg102.size
   refine vV (.bool false) ?_
   refine vV (.bool false) ?_
   refine vV (.bool false) ?_
   refine vB cn_big qB58 (cn_size _) ?_
   refine vB cn_big qB24 (cn_size _) ?_
   refine vK (kF _ _ _ _ _ _ _ H2 H1) ?_
   intro qw103 qg104
   replace qB2:=qB2.since qg104
   replace qB5:=qB5.since qg104
   replace qB8:=qB8.since qg104
   replace qB23:=qB23.since qg104
   replace qB24:=qB24.since qg104
   replace qB25:=qB25.since qg104
   replace qB41:=qB41.since qg104
   replace qB50:=qB50.since qg104
   replace qB57:=qB57.since qg104
   replace qB58:=qB58.since qg104
   replace qB59:=qB59.since qg104
   replace H1:=H1.since qg104
   replace K1:=K1.since qg104
   replace La1:=La1.since qg104
   replace Lb1:=Lb1.since qg104
   replace H2:=H2.since qg104
   replace K2:=K2.since qg104
   replace La2:=La2.since qg104
   replace Lb2:=Lb2.since qg104
   replace X1:=X1.since qg104
   replace X2:=X2.since qg104
   replace G:=G.trans qg104
   have qg104_s:=qg104.size
   refine vV (.bool false) ?_
   refine vV (.bool false) ?_
   refine vV (.bool false) ?_
   refine vB cn_big qB59 (cn_size _) ?_
   refine vB cn_big qB25 (cn_size _) ?_
   refine vK (kT _ _ _ _ _ _ _ K2 K1) ?_
   intro qw105 qg106
   replace qB2:=qB2.since qg106
   replace qB5:=qB5.since qg106
   replace qB8:=qB8.since qg106
   replace qB23:=qB23.since qg106
   replace qB24:=qB24.since qg106
   replace qB25:=qB25.since qg106
   replace qB41:=qB41.since qg106
   replace qB50:=qB50.since qg106
   replace qB57:=qB57.since qg106
   replace qB58:=qB58.since qg106
   replace qB59:=qB59.since qg106
   replace H1:=H1.since qg106
   replace K1:=K1.since qg106
   replace La1:=La1.since qg106
   replace Lb1:=Lb1.since qg106
   replace H2:=H2.since qg106
   replace K2:=K2.since qg106
   replace La2:=La2.since qg106
   replace Lb2:=Lb2.since qg106
   replace X1:=X1.since qg106
   replace X2:=X2.since qg106
   replace G:=G.trans qg106
   have qg106_s:=qg106.size
   refine vV (.bool false) ?_
   refine vV (.bool false) ?_
   refine vV (.bool false) ?_
   refine vV (.slice (some ⟨ga2,0,none⟩) na ca2) ?_
   refine vV (.slice (some ⟨ga1,0,none⟩) na ca1) ?_
   refine vK (eqSegs _ _ _ _ na _ _ _ (by omega) _ La2 La1) ?_
   intro qw107 qg108
   replace qB2:=qB2.since qg108
   replace qB5:=qB5.since qg108
   replace qB8:=qB8.since qg108
   replace qB23:=qB23.since qg108
   replace qB24:=qB24.since qg108
   replace qB25:=qB25.since qg108
   replace qB41:=qB41.since qg108
   replace qB50:=qB50.since qg108
   replace qB57:=qB57.since qg108
   replace qB58:=qB58.since qg108
   replace qB59:=qB59.since qg108
   replace H1:=H1.since qg108
   replace K1:=K1.since qg108
   replace La1:=La1.since qg108
   replace Lb1:=Lb1.since qg108
   replace H2:=H2.since qg108
   replace K2:=K2.since qg108
   replace La2:=La2.since qg108
   replace Lb2:=Lb2.since qg108
   replace X1:=X1.since qg108
   replace X2:=X2.since qg108
   replace G:=G.trans qg108
   have qg108_s:=qg108.size
   refine vV (.bool false) ?_
   refine vV (.bool false) ?_
   refine vV (.bool false) ?_
   refine vV (.slice (some ⟨gb2,0,none⟩) nb cb2) ?_
   refine vV (.slice (some ⟨gb1,0,none⟩) nb cb1) ?_
   refine vK (eqSegs _ _ _ _ nb _ _ _ (by omega) _ Lb2 Lb1) ?_
   intro qw109 qg110
   replace qB2:=qB2.since qg110
   replace qB5:=qB5.since qg110
   replace qB8:=qB8.since qg110
   replace qB23:=qB23.since qg110
   replace qB24:=qB24.since qg110
   replace qB25:=qB25.since qg110
   replace qB41:=qB41.since qg110
   replace qB50:=qB50.since qg110
   replace qB57:=qB57.since qg110
   replace qB58:=qB58.since qg110
   replace qB59:=qB59.since qg110
   replace H1:=H1.since qg110
   replace K1:=K1.since qg110
   replace La1:=La1.since qg110
   replace Lb1:=Lb1.since qg110
   replace H2:=H2.since qg110
   replace K2:=K2.since qg110
   replace La2:=La2.since qg110
   replace Lb2:=Lb2.since qg110
   replace X1:=X1.since qg110
   replace X2:=X2.since qg110
   replace G:=G.trans qg110
   have qg110_s:=qg110.size
   refine vV (.bool false) ?_
   refine vV (.bool false) ?_
   refine vE #[qz10,.agg (cnCells c1),.agg (cnCells c2),pX w.heap.size 0,pX qw1.heap.size 0,pX qw4.heap.size 0,.bool false,.int .i64 r2,pX qx20 0,pX qx21 0,pX qx22 0,.slice (some ⟨ga1,0,none⟩) na ca1,.slice (some ⟨gb1,0,none⟩) nb cb1,pX qw34.heap.size 0,pX qw43.heap.size 0,pX qx54 0,pX qx55 0,pX qx56 0,.slice (some ⟨ga2,0,none⟩) na ca2,.slice (some ⟨gb2,0,none⟩) nb cb2,.int .i64 ((1+2*c1.pn)+2*c2.pn),U,U,U,U,U,U,U,qz13,.int .i64 1048576,.int .i64 l0,.int .i64 l0,.bool (decide (l0<0)),.agg (cnCells c1),.int .i64 l0,.int .i64 r1,.int .i64 r1,.bool (decide (r1<0)),.agg (cnCells c2),.int .i64 r1,.int .i64 r2,.int .i64 r2,.bool (decide (r2<0)),qz26,qz27,qz27,.agg (cnCells c1),qz28,.agg (cnCells c2),qz29,qz30,qz31,qz32,qz33,.slice (some ⟨ga1,0,none⟩) na ca1,.slice (some ⟨gb1,0,none⟩) nb cb1,.agg (cnCells c1),qz42,.agg (cnCells c2),qz51,qz60,qz61,qz61,qz62,qz63,qz64,qz65,qz66,qz67,.slice (some ⟨ga2,0,none⟩) na ca2,.slice (some ⟨gb2,0,none⟩) nb cb2,qz78,qz78,.bool true,.bool false,.bool false,qz79,qz80,.bool true,.bool false,.bool false,.bool false,qz81,qz82,.bool true,.bool false,.bool false,.bool false,.slice (some ⟨ga2,0,none⟩) na ca2,.slice (some ⟨ga1,0,none⟩) na ca1,.bool true,.bool false,.bool false,.bool false,.slice (some ⟨gb2,0,none⟩) nb cb2,.slice (some ⟨gb1,0,none⟩) nb cb1,.bool true,.bool false,.bool false,qz87,.agg (cnCells c1),qz88,.bool true,.bool false,qz93,.agg (cnCells c2),qz94,.bool true,.bool false,qz97,.int .i64 1,.int .i64 (1+2*c1.pn),qz100,.int .i64 (1+2*c1.pn),.int .i64 ((1+2*c1.pn)+2*c2.pn),.int .i64 ((1+2*c1.pn)+2*c2.pn),.bool false,.bool false,.agg #[.int .i64 rm0,.string xD,.bool xE,.int .i64 xN,.int .i64 rn0,.string yD,.bool yE,.int .i64 yN],.agg #[.int .i64 rm0,.string xD,.bool xE,.int .i64 xN,.int .i64 rn0,.string yD,.bool yE,.int .i64 yN],.bool true,.bool false,.bool false,.bool false,.agg (cnCells {DF with pa:=some ⟨g2,0,none⟩,pc:=cp2}),.agg (cnCells {DF with pa:=some ⟨g1,0,none⟩,pc:=cp1}),.bool true,.bool false,.bool false,.bool false,.agg (cnCells {DT with pa:=some ⟨gg2,0,none⟩,pc:=cpp2}),.agg (cnCells {DT with pa:=some ⟨gg1,0,none⟩,pc:=cpp1}),.bool true,.bool false,.bool false,.bool false,.slice (some ⟨ga2,0,none⟩) na ca2,.slice (some ⟨ga1,0,none⟩) na ca1,.bool true,.bool false,.bool false,.bool false,.slice (some ⟨gb2,0,none⟩) nb cb2,.slice (some ⟨gb1,0,none⟩) nb cb1,.bool true,.bool false,.bool false,U,U,U,U,U,U,U,U,U,U,U,U,U,U,U,U,U,U,U,U,U,U,U,U,U,U,U,U,U,U,U,U,U,U,U,U,U,U,U,U,U,U,U,U,U,U,U,U,U,U,U,U,U,U,U,U,U,U,U,U,U,U,U,U,U,U,U,U,U,U,U,U,U,U,U,U,U,U,U,U,U,U,U,U,U,U,U,U,U,U,U,U,U,U,U,U,U,U,U] ?_
   generalize (.agg #[.int .i64 rm0,.string xD,.bool xE,.int .i64 xN,.int .i64 rn0,.string yD,.bool yE,.int .i64 yN]:Value)=qz111
   generalize (.agg (cnCells {DF with pa:=some ⟨g2,0,none⟩,pc:=cp2}):Value)=qz112
   generalize (.agg (cnCells {DF with pa:=some ⟨g1,0,none⟩,pc:=cp1}):Value)=qz113
   generalize (.agg (cnCells {DT with pa:=some ⟨gg2,0,none⟩,pc:=cpp2}):Value)=qz114
   generalize (.agg (cnCells {DT with pa:=some ⟨gg1,0,none⟩,pc:=cpp1}):Value)=qz115
   go_upto_region 27 with (fail)
   refine vR ?_
   refine vB cn_big qB58 (cn_size _) ?_
   refine vV (.int .i64 1) ?_
   have nm_La1_H2:=(heldGP H2 La1).symm
   have nm_Lb1_H2:=(heldGP H2 Lb1).symm
   have nm_La2_H2:=(heldGP H2 La2).symm
   have nm_Lb2_H2:=(heldGP H2 Lb2).symm
   refine vC (markCn DF g2 _ _ _ 1 (by omega) (by omega) _ H2) ?_
   have H2_2:=H2.low'
   rintro _ qw116 ⟨rfl,qt117,ms5,hM5,H2n⟩
   refine ⟨_,rfl,?_⟩
   clear H2
   have H2:=H2n
   clear H2n
   replace qB2:=qB2.touch qt117 (by omega)
   replace qB5:=qB5.touch qt117 (by omega)
   replace qB8:=qB8.touch qt117 (by omega)
   replace qB23:=qB23.touch qt117 (by omega)
   replace qB24:=qB24.touch qt117 (by omega)
   replace qB25:=qB25.touch qt117 (by omega)
   replace qB41:=qB41.touch qt117 (by omega)
   replace qB50:=qB50.touch qt117 (by omega)
   replace qB57:=qB57.touch qt117 (by first|assumption|exact Ne.symm (by assumption)|omega)
   replace qB58:=qB58.touch qt117 (by first|assumption|exact Ne.symm (by assumption)|omega)
   replace qB59:=qB59.touch qt117 (by first|assumption|exact Ne.symm (by assumption)|omega)
   replace H1:=H1.touch qt117 (by omega)
   replace K1:=K1.touch qt117 (by omega)
   replace La1:=La1.touch qt117 (by omega)
   replace Lb1:=Lb1.touch qt117 (by omega)
   replace K2:=K2.touch qt117 (by first|assumption|exact Ne.symm (by assumption)|omega)
   replace La2:=La2.touch qt117 (by first|assumption|exact Ne.symm (by assumption)|omega)
   replace Lb2:=Lb2.touch qt117 (by first|assumption|exact Ne.symm (by assumption)|omega)
   replace X1:=X1.touch qt117 (by omega)
   replace X2:=X2.touch qt117 (by omega)
   replace G:=since_touch G qt117 (by omega)
   have qt117_s:=qt117.size
   refine vV (.int .i64 (1+2*DF.pn)) ?_
   refine vE #[qz10,.agg (cnCells c1),.agg (cnCells c2),pX w.heap.size 0,pX qw1.heap.size 0,pX qw4.heap.size 0,.bool false,.int .i64 r2,pX qx20 0,pX qx21 0,pX qx22 0,.slice (some ⟨ga1,0,none⟩) na ca1,.slice (some ⟨gb1,0,none⟩) nb cb1,pX qw34.heap.size 0,pX qw43.heap.size 0,pX qx54 0,pX qx55 0,pX qx56 0,.slice (some ⟨ga2,0,none⟩) na ca2,.slice (some ⟨gb2,0,none⟩) nb cb2,.int .i64 ((1+2*c1.pn)+2*c2.pn),.int .i64 (1+2*DF.pn),U,U,U,U,U,U,qz13,.int .i64 1048576,.int .i64 l0,.int .i64 l0,.bool (decide (l0<0)),.agg (cnCells c1),.int .i64 l0,.int .i64 r1,.int .i64 r1,.bool (decide (r1<0)),.agg (cnCells c2),.int .i64 r1,.int .i64 r2,.int .i64 r2,.bool (decide (r2<0)),qz26,qz27,qz27,.agg (cnCells c1),qz28,.agg (cnCells c2),qz29,qz30,qz31,qz32,qz33,.slice (some ⟨ga1,0,none⟩) na ca1,.slice (some ⟨gb1,0,none⟩) nb cb1,.agg (cnCells c1),qz42,.agg (cnCells c2),qz51,qz60,qz61,qz61,qz62,qz63,qz64,qz65,qz66,qz67,.slice (some ⟨ga2,0,none⟩) na ca2,.slice (some ⟨gb2,0,none⟩) nb cb2,qz78,qz78,.bool true,.bool false,.bool false,qz79,qz80,.bool true,.bool false,.bool false,.bool false,qz81,qz82,.bool true,.bool false,.bool false,.bool false,.slice (some ⟨ga2,0,none⟩) na ca2,.slice (some ⟨ga1,0,none⟩) na ca1,.bool true,.bool false,.bool false,.bool false,.slice (some ⟨gb2,0,none⟩) nb cb2,.slice (some ⟨gb1,0,none⟩) nb cb1,.bool true,.bool false,.bool false,qz87,.agg (cnCells c1),qz88,.bool true,.bool false,qz93,.agg (cnCells c2),qz94,.bool true,.bool false,qz97,.int .i64 1,.int .i64 (1+2*c1.pn),qz100,.int .i64 (1+2*c1.pn),.int .i64 ((1+2*c1.pn)+2*c2.pn),.int .i64 ((1+2*c1.pn)+2*c2.pn),.bool false,.bool false,qz111,qz111,.bool true,.bool false,.bool false,.bool false,qz112,qz113,.bool true,.bool false,.bool false,.bool false,qz114,qz115,.bool true,.bool false,.bool false,.bool false,.slice (some ⟨ga2,0,none⟩) na ca2,.slice (some ⟨ga1,0,none⟩) na ca1,.bool true,.bool false,.bool false,.bool false,.slice (some ⟨gb2,0,none⟩) nb cb2,.slice (some ⟨gb1,0,none⟩) nb cb1,.bool true,.bool false,.bool false,.agg (cnCells {DF with pa:=some ⟨g2,0,none⟩,pc:=cp2}),.int .i64 1,.int .i64 (1+2*DF.pn),U,U,U,U,U,U,U,U,U,U,U,U,U,U,U,U,U,U,U,U,U,U,U,U,U,U,U,U,U,U,U,U,U,U,U,U,U,U,U,U,U,U,U,U,U,U,U,U,U,U,U,U,U,U,U,U,U,U,U,U,U,U,U,U,U,U,U,U,U,U,U,U,U,U,U,U,U,U,U,U,U,U,U,U,U,U,U,U,U,U,U,U,U,U,U,U] ?_
   generalize (.agg (cnCells {DF with pa:=some ⟨g2,0,none⟩,pc:=cp2}):Value)=qz118
   go_upto_region 28 with (fail)
   refine vR ?_
   refine vB cn_big qB59 (cn_size _) ?_
   refine vV (.int .i64 (1+2*DF.pn)) ?_
   have nm_La1_K2:=(heldGP K2 La1).symm
   have nm_Lb1_K2:=(heldGP K2 Lb1).symm
   have nm_La2_K2:=(heldGP K2 La2).symm
   have nm_Lb2_K2:=(heldGP K2 Lb2).symm
   refine vC (markCn DT gg2 _ _ _ (1+2*DF.pn) (by omega) (by omega) _ K2) ?_
   have K2_2:=K2.low'
   rintro _ qw119 ⟨rfl,qt120,ms6,hM6,K2n⟩
   refine ⟨_,rfl,?_⟩
   clear K2
   have K2:=K2n
   clear K2n
   replace qB2:=qB2.touch qt120 (by omega)
   replace qB5:=qB5.touch qt120 (by omega)
   replace qB8:=qB8.touch qt120 (by omega)
   replace qB23:=qB23.touch qt120 (by omega)
   replace qB24:=qB24.touch qt120 (by omega)
   replace qB25:=qB25.touch qt120 (by omega)
   replace qB41:=qB41.touch qt120 (by omega)
   replace qB50:=qB50.touch qt120 (by omega)
   replace qB57:=qB57.touch qt120 (by first|assumption|exact Ne.symm (by assumption)|omega)
   replace qB58:=qB58.touch qt120 (by first|assumption|exact Ne.symm (by assumption)|omega)
   replace qB59:=qB59.touch qt120 (by first|assumption|exact Ne.symm (by assumption)|omega)
   replace H1:=H1.touch qt120 (by omega)
   replace K1:=K1.touch qt120 (by omega)
   replace La1:=La1.touch qt120 (by omega)
   replace Lb1:=Lb1.touch qt120 (by omega)
   replace La2:=La2.touch qt120 (by first|assumption|exact Ne.symm (by assumption)|omega)
   replace Lb2:=Lb2.touch qt120 (by first|assumption|exact Ne.symm (by assumption)|omega)
   replace X1:=X1.touch qt120 (by omega)
   replace X2:=X2.touch qt120 (by omega)
   replace H2:=H2.touch qt120 (by first|assumption|exact Ne.symm (by assumption)|omega)
   replace G:=since_touch G qt120 (by omega)
   have qt120_s:=qt120.size
   refine vV (.int .i64 ((1+2*DF.pn)+2*DT.pn)) ?_
   refine vE #[qz10,.agg (cnCells c1),.agg (cnCells c2),pX w.heap.size 0,pX qw1.heap.size 0,pX qw4.heap.size 0,.bool false,.int .i64 r2,pX qx20 0,pX qx21 0,pX qx22 0,.slice (some ⟨ga1,0,none⟩) na ca1,.slice (some ⟨gb1,0,none⟩) nb cb1,pX qw34.heap.size 0,pX qw43.heap.size 0,pX qx54 0,pX qx55 0,pX qx56 0,.slice (some ⟨ga2,0,none⟩) na ca2,.slice (some ⟨gb2,0,none⟩) nb cb2,.int .i64 ((1+2*c1.pn)+2*c2.pn),.int .i64 ((1+2*DF.pn)+2*DT.pn),U,U,U,U,U,U,qz13,.int .i64 1048576,.int .i64 l0,.int .i64 l0,.bool (decide (l0<0)),.agg (cnCells c1),.int .i64 l0,.int .i64 r1,.int .i64 r1,.bool (decide (r1<0)),.agg (cnCells c2),.int .i64 r1,.int .i64 r2,.int .i64 r2,.bool (decide (r2<0)),qz26,qz27,qz27,.agg (cnCells c1),qz28,.agg (cnCells c2),qz29,qz30,qz31,qz32,qz33,.slice (some ⟨ga1,0,none⟩) na ca1,.slice (some ⟨gb1,0,none⟩) nb cb1,.agg (cnCells c1),qz42,.agg (cnCells c2),qz51,qz60,qz61,qz61,qz62,qz63,qz64,qz65,qz66,qz67,.slice (some ⟨ga2,0,none⟩) na ca2,.slice (some ⟨gb2,0,none⟩) nb cb2,qz78,qz78,.bool true,.bool false,.bool false,qz79,qz80,.bool true,.bool false,.bool false,.bool false,qz81,qz82,.bool true,.bool false,.bool false,.bool false,.slice (some ⟨ga2,0,none⟩) na ca2,.slice (some ⟨ga1,0,none⟩) na ca1,.bool true,.bool false,.bool false,.bool false,.slice (some ⟨gb2,0,none⟩) nb cb2,.slice (some ⟨gb1,0,none⟩) nb cb1,.bool true,.bool false,.bool false,qz87,.agg (cnCells c1),qz88,.bool true,.bool false,qz93,.agg (cnCells c2),qz94,.bool true,.bool false,qz97,.int .i64 1,.int .i64 (1+2*c1.pn),qz100,.int .i64 (1+2*c1.pn),.int .i64 ((1+2*c1.pn)+2*c2.pn),.int .i64 ((1+2*c1.pn)+2*c2.pn),.bool false,.bool false,qz111,qz111,.bool true,.bool false,.bool false,.bool false,qz112,qz113,.bool true,.bool false,.bool false,.bool false,qz114,qz115,.bool true,.bool false,.bool false,.bool false,.slice (some ⟨ga2,0,none⟩) na ca2,.slice (some ⟨ga1,0,none⟩) na ca1,.bool true,.bool false,.bool false,.bool false,.slice (some ⟨gb2,0,none⟩) nb cb2,.slice (some ⟨gb1,0,none⟩) nb cb1,.bool true,.bool false,.bool false,qz118,.int .i64 1,.int .i64 (1+2*DF.pn),.agg (cnCells {DT with pa:=some ⟨gg2,0,none⟩,pc:=cpp2}),.int .i64 (1+2*DF.pn),.int .i64 ((1+2*DF.pn)+2*DT.pn),U,U,U,U,U,U,U,U,U,U,U,U,U,U,U,U,U,U,U,U,U,U,U,U,U,U,U,U,U,U,U,U,U,U,U,U,U,U,U,U,U,U,U,U,U,U,U,U,U,U,U,U,U,U,U,U,U,U,U,U,U,U,U,U,U,U,U,U,U,U,U,U,U,U,U,U,U,U,U,U,U,U,U,U,U,U,U,U,U,U,U,U,U] ?_
   generalize (.agg (cnCells {DT with pa:=some ⟨gg2,0,none⟩,pc:=cpp2}):Value)=qz121
   go_upto_region 29 with (fail)
   refine vR ?_
   refine vV (.slice (some ⟨ga2,0,none⟩) na ca2) ?_
   refine vV (.int .i64 ((1+2*DF.pn)+2*DT.pn)) ?_
   have nm_H1_La2:=heldGP H1 La2
   have nm_K1_La2:=heldGP K1 La2
   have nm_X1_La2:=heldGP X1 La2
   have nm_X2_La2:=heldGP X2 La2
   have nm_H2_La2:=heldGP H2 La2
   have nm_K2_La2:=heldGP K2 La2
   refine vC (markSegs _ ga2 na _ _ ((1+2*DF.pn)+2*DT.pn) (by omega) (by omega) _ La2) ?_
   have La2_2:=La2.low'
   rintro _ qw122 ⟨rfl,qt123,ms7,hM7,La2n⟩
   refine ⟨_,rfl,?_⟩
   clear La2
   have La2:=La2n
   clear La2n
   replace qB2:=qB2.touch qt123 (by omega)
   replace qB5:=qB5.touch qt123 (by omega)
   replace qB8:=qB8.touch qt123 (by omega)
   replace qB23:=qB23.touch qt123 (by omega)
   replace qB24:=qB24.touch qt123 (by omega)
   replace qB25:=qB25.touch qt123 (by omega)
   replace qB41:=qB41.touch qt123 (by omega)
   replace qB50:=qB50.touch qt123 (by omega)
   replace qB57:=qB57.touch qt123 (by first|assumption|exact Ne.symm (by assumption)|omega)
   replace qB58:=qB58.touch qt123 (by first|assumption|exact Ne.symm (by assumption)|omega)
   replace qB59:=qB59.touch qt123 (by first|assumption|exact Ne.symm (by assumption)|omega)
   replace H1:=H1.touch qt123 (by omega)
   replace K1:=K1.touch qt123 (by omega)
   replace La1:=La1.touch qt123 (by omega)
   replace Lb1:=Lb1.touch qt123 (by omega)
   replace Lb2:=Lb2.touch qt123 (by first|assumption|exact Ne.symm (by assumption)|omega)
   replace X1:=X1.touch qt123 (by omega)
   replace X2:=X2.touch qt123 (by omega)
   replace H2:=H2.touch qt123 (by first|assumption|exact Ne.symm (by assumption)|omega)
   replace K2:=K2.touch qt123 (by first|assumption|exact Ne.symm (by assumption)|omega)
   replace G:=since_touch G qt123 (by omega)
   have qt123_s:=qt123.size
   refine vV (.int .i64 (((1+2*DF.pn)+2*DT.pn)+8*na)) ?_
   refine vE #[qz10,.agg (cnCells c1),.agg (cnCells c2),pX w.heap.size 0,pX qw1.heap.size 0,pX qw4.heap.size 0,.bool false,.int .i64 r2,pX qx20 0,pX qx21 0,pX qx22 0,.slice (some ⟨ga1,0,none⟩) na ca1,.slice (some ⟨gb1,0,none⟩) nb cb1,pX qw34.heap.size 0,pX qw43.heap.size 0,pX qx54 0,pX qx55 0,pX qx56 0,.slice (some ⟨ga2,0,none⟩) na ca2,.slice (some ⟨gb2,0,none⟩) nb cb2,.int .i64 ((1+2*c1.pn)+2*c2.pn),.int .i64 (((1+2*DF.pn)+2*DT.pn)+8*na),U,U,U,U,U,U,qz13,.int .i64 1048576,.int .i64 l0,.int .i64 l0,.bool (decide (l0<0)),.agg (cnCells c1),.int .i64 l0,.int .i64 r1,.int .i64 r1,.bool (decide (r1<0)),.agg (cnCells c2),.int .i64 r1,.int .i64 r2,.int .i64 r2,.bool (decide (r2<0)),qz26,qz27,qz27,.agg (cnCells c1),qz28,.agg (cnCells c2),qz29,qz30,qz31,qz32,qz33,.slice (some ⟨ga1,0,none⟩) na ca1,.slice (some ⟨gb1,0,none⟩) nb cb1,.agg (cnCells c1),qz42,.agg (cnCells c2),qz51,qz60,qz61,qz61,qz62,qz63,qz64,qz65,qz66,qz67,.slice (some ⟨ga2,0,none⟩) na ca2,.slice (some ⟨gb2,0,none⟩) nb cb2,qz78,qz78,.bool true,.bool false,.bool false,qz79,qz80,.bool true,.bool false,.bool false,.bool false,qz81,qz82,.bool true,.bool false,.bool false,.bool false,.slice (some ⟨ga2,0,none⟩) na ca2,.slice (some ⟨ga1,0,none⟩) na ca1,.bool true,.bool false,.bool false,.bool false,.slice (some ⟨gb2,0,none⟩) nb cb2,.slice (some ⟨gb1,0,none⟩) nb cb1,.bool true,.bool false,.bool false,qz87,.agg (cnCells c1),qz88,.bool true,.bool false,qz93,.agg (cnCells c2),qz94,.bool true,.bool false,qz97,.int .i64 1,.int .i64 (1+2*c1.pn),qz100,.int .i64 (1+2*c1.pn),.int .i64 ((1+2*c1.pn)+2*c2.pn),.int .i64 ((1+2*c1.pn)+2*c2.pn),.bool false,.bool false,qz111,qz111,.bool true,.bool false,.bool false,.bool false,qz112,qz113,.bool true,.bool false,.bool false,.bool false,qz114,qz115,.bool true,.bool false,.bool false,.bool false,.slice (some ⟨ga2,0,none⟩) na ca2,.slice (some ⟨ga1,0,none⟩) na ca1,.bool true,.bool false,.bool false,.bool false,.slice (some ⟨gb2,0,none⟩) nb cb2,.slice (some ⟨gb1,0,none⟩) nb cb1,.bool true,.bool false,.bool false,qz118,.int .i64 1,.int .i64 (1+2*DF.pn),qz121,.int .i64 (1+2*DF.pn),.int .i64 ((1+2*DF.pn)+2*DT.pn),.slice (some ⟨ga2,0,none⟩) na ca2,.int .i64 ((1+2*DF.pn)+2*DT.pn),.int .i64 (((1+2*DF.pn)+2*DT.pn)+8*na),U,U,U,U,U,U,U,U,U,U,U,U,U,U,U,U,U,U,U,U,U,U,U,U,U,U,U,U,U,U,U,U,U,U,U,U,U,U,U,U,U,U,U,U,U,U,U,U,U,U,U,U,U,U,U,U,U,U,U,U,U,U,U,U,U,U,U,U,U,U,U,U,U,U,U,U,U,U,U,U,U,U,U,U,U,U,U,U,U,U] ?_
   go_upto_region 30 with (fail)
   refine vR ?_
   refine vV (.slice (some ⟨gb2,0,none⟩) nb cb2) ?_
   refine vV (.int .i64 (((1+2*DF.pn)+2*DT.pn)+8*na)) ?_
   have nm_H1_Lb2:=heldGP H1 Lb2
   have nm_K1_Lb2:=heldGP K1 Lb2
   have nm_X1_Lb2:=heldGP X1 Lb2
   have nm_X2_Lb2:=heldGP X2 Lb2
   have nm_H2_Lb2:=heldGP H2 Lb2
   have nm_K2_Lb2:=heldGP K2 Lb2
   refine vC (markSegs _ gb2 nb _ _ (((1+2*DF.pn)+2*DT.pn)+8*na) (by omega) (by omega) _ Lb2) ?_
   have Lb2_2:=Lb2.low'
   rintro _ qw124 ⟨rfl,qt125,ms8,hM8,Lb2n⟩
   refine ⟨_,rfl,?_⟩
   clear Lb2
   have Lb2:=Lb2n
   clear Lb2n
   replace qB2:=qB2.touch qt125 (by omega)
   replace qB5:=qB5.touch qt125 (by omega)
   replace qB8:=qB8.touch qt125 (by omega)
   replace qB23:=qB23.touch qt125 (by omega)
   replace qB24:=qB24.touch qt125 (by omega)
   replace qB25:=qB25.touch qt125 (by omega)
   replace qB41:=qB41.touch qt125 (by omega)
   replace qB50:=qB50.touch qt125 (by omega)
   replace qB57:=qB57.touch qt125 (by first|assumption|exact Ne.symm (by assumption)|omega)
   replace qB58:=qB58.touch qt125 (by first|assumption|exact Ne.symm (by assumption)|omega)
   replace qB59:=qB59.touch qt125 (by first|assumption|exact Ne.symm (by assumption)|omega)
   replace H1:=H1.touch qt125 (by omega)
   replace K1:=K1.touch qt125 (by omega)
   replace La1:=La1.touch qt125 (by omega)
   replace Lb1:=Lb1.touch qt125 (by omega)
   replace X1:=X1.touch qt125 (by omega)
   replace X2:=X2.touch qt125 (by omega)
   replace H2:=H2.touch qt125 (by first|assumption|exact Ne.symm (by assumption)|omega)
   replace K2:=K2.touch qt125 (by first|assumption|exact Ne.symm (by assumption)|omega)
   replace La2:=La2.touch qt125 (by first|assumption|exact Ne.symm (by assumption)|omega)
   replace G:=since_touch G qt125 (by omega)
   have qt125_s:=qt125.size
   refine vV (.int .i64 ((((1+2*DF.pn)+2*DT.pn)+8*na)+8*nb)) ?_
   refine vE #[qz10,.agg (cnCells c1),.agg (cnCells c2),pX w.heap.size 0,pX qw1.heap.size 0,pX qw4.heap.size 0,.bool false,.int .i64 r2,pX qx20 0,pX qx21 0,pX qx22 0,.slice (some ⟨ga1,0,none⟩) na ca1,.slice (some ⟨gb1,0,none⟩) nb cb1,pX qw34.heap.size 0,pX qw43.heap.size 0,pX qx54 0,pX qx55 0,pX qx56 0,.slice (some ⟨ga2,0,none⟩) na ca2,.slice (some ⟨gb2,0,none⟩) nb cb2,.int .i64 ((1+2*c1.pn)+2*c2.pn),.int .i64 ((((1+2*DF.pn)+2*DT.pn)+8*na)+8*nb),U,U,U,U,U,U,qz13,.int .i64 1048576,.int .i64 l0,.int .i64 l0,.bool (decide (l0<0)),.agg (cnCells c1),.int .i64 l0,.int .i64 r1,.int .i64 r1,.bool (decide (r1<0)),.agg (cnCells c2),.int .i64 r1,.int .i64 r2,.int .i64 r2,.bool (decide (r2<0)),qz26,qz27,qz27,.agg (cnCells c1),qz28,.agg (cnCells c2),qz29,qz30,qz31,qz32,qz33,.slice (some ⟨ga1,0,none⟩) na ca1,.slice (some ⟨gb1,0,none⟩) nb cb1,.agg (cnCells c1),qz42,.agg (cnCells c2),qz51,qz60,qz61,qz61,qz62,qz63,qz64,qz65,qz66,qz67,.slice (some ⟨ga2,0,none⟩) na ca2,.slice (some ⟨gb2,0,none⟩) nb cb2,qz78,qz78,.bool true,.bool false,.bool false,qz79,qz80,.bool true,.bool false,.bool false,.bool false,qz81,qz82,.bool true,.bool false,.bool false,.bool false,.slice (some ⟨ga2,0,none⟩) na ca2,.slice (some ⟨ga1,0,none⟩) na ca1,.bool true,.bool false,.bool false,.bool false,.slice (some ⟨gb2,0,none⟩) nb cb2,.slice (some ⟨gb1,0,none⟩) nb cb1,.bool true,.bool false,.bool false,qz87,.agg (cnCells c1),qz88,.bool true,.bool false,qz93,.agg (cnCells c2),qz94,.bool true,.bool false,qz97,.int .i64 1,.int .i64 (1+2*c1.pn),qz100,.int .i64 (1+2*c1.pn),.int .i64 ((1+2*c1.pn)+2*c2.pn),.int .i64 ((1+2*c1.pn)+2*c2.pn),.bool false,.bool false,qz111,qz111,.bool true,.bool false,.bool false,.bool false,qz112,qz113,.bool true,.bool false,.bool false,.bool false,qz114,qz115,.bool true,.bool false,.bool false,.bool false,.slice (some ⟨ga2,0,none⟩) na ca2,.slice (some ⟨ga1,0,none⟩) na ca1,.bool true,.bool false,.bool false,.bool false,.slice (some ⟨gb2,0,none⟩) nb cb2,.slice (some ⟨gb1,0,none⟩) nb cb1,.bool true,.bool false,.bool false,qz118,.int .i64 1,.int .i64 (1+2*DF.pn),qz121,.int .i64 (1+2*DF.pn),.int .i64 ((1+2*DF.pn)+2*DT.pn),.slice (some ⟨ga2,0,none⟩) na ca2,.int .i64 ((1+2*DF.pn)+2*DT.pn),.int .i64 (((1+2*DF.pn)+2*DT.pn)+8*na),.slice (some ⟨gb2,0,none⟩) nb cb2,.int .i64 (((1+2*DF.pn)+2*DT.pn)+8*na),.int .i64 ((((1+2*DF.pn)+2*DT.pn)+8*na)+8*nb),U,U,U,U,U,U,U,U,U,U,U,U,U,U,U,U,U,U,U,U,U,U,U,U,U,U,U,U,U,U,U,U,U,U,U,U,U,U,U,U,U,U,U,U,U,U,U,U,U,U,U,U,U,U,U,U,U,U,U,U,U,U,U,U,U,U,U,U,U,U,U,U,U,U,U,U,U,U,U,U,U,U,U,U,U,U,U] ?_
   go_upto_region 32 with (fail)
   refine vR ?_
   refine vB cn_big qB58 (cn_size _) ?_
   refine vV (.int .i64 1) ?_
   refine vK (heldCn DF g2 _ _ _ 1 (by omega) (by omega) _ H2 hM5) ?_
   intro qw126 qg127
   replace qB2:=qB2.since qg127
   replace qB5:=qB5.since qg127
   replace qB8:=qB8.since qg127
   replace qB23:=qB23.since qg127
   replace qB24:=qB24.since qg127
   replace qB25:=qB25.since qg127
   replace qB41:=qB41.since qg127
   replace qB50:=qB50.since qg127
   replace qB57:=qB57.since qg127
   replace qB58:=qB58.since qg127
   replace qB59:=qB59.since qg127
   replace H1:=H1.since qg127
   replace K1:=K1.since qg127
   replace La1:=La1.since qg127
   replace Lb1:=Lb1.since qg127
   replace X1:=X1.since qg127
   replace X2:=X2.since qg127
   replace H2:=H2.since qg127
   replace K2:=K2.since qg127
   replace La2:=La2.since qg127
   replace Lb2:=Lb2.since qg127
   replace G:=G.trans qg127
   have qg127_s:=qg127.size
   refine vV (.int .i64 (1+2*DF.pn)) ?_
   refine vE #[qz10,.agg (cnCells c1),.agg (cnCells c2),pX w.heap.size 0,pX qw1.heap.size 0,pX qw4.heap.size 0,.bool false,.int .i64 r2,pX qx20 0,pX qx21 0,pX qx22 0,.slice (some ⟨ga1,0,none⟩) na ca1,.slice (some ⟨gb1,0,none⟩) nb cb1,pX qw34.heap.size 0,pX qw43.heap.size 0,pX qx54 0,pX qx55 0,pX qx56 0,.slice (some ⟨ga2,0,none⟩) na ca2,.slice (some ⟨gb2,0,none⟩) nb cb2,.int .i64 ((1+2*c1.pn)+2*c2.pn),.int .i64 ((((1+2*DF.pn)+2*DT.pn)+8*na)+8*nb),.int .i64 (1+2*DF.pn),U,U,U,U,U,qz13,.int .i64 1048576,.int .i64 l0,.int .i64 l0,.bool (decide (l0<0)),.agg (cnCells c1),.int .i64 l0,.int .i64 r1,.int .i64 r1,.bool (decide (r1<0)),.agg (cnCells c2),.int .i64 r1,.int .i64 r2,.int .i64 r2,.bool (decide (r2<0)),qz26,qz27,qz27,.agg (cnCells c1),qz28,.agg (cnCells c2),qz29,qz30,qz31,qz32,qz33,.slice (some ⟨ga1,0,none⟩) na ca1,.slice (some ⟨gb1,0,none⟩) nb cb1,.agg (cnCells c1),qz42,.agg (cnCells c2),qz51,qz60,qz61,qz61,qz62,qz63,qz64,qz65,qz66,qz67,.slice (some ⟨ga2,0,none⟩) na ca2,.slice (some ⟨gb2,0,none⟩) nb cb2,qz78,qz78,.bool true,.bool false,.bool false,qz79,qz80,.bool true,.bool false,.bool false,.bool false,qz81,qz82,.bool true,.bool false,.bool false,.bool false,.slice (some ⟨ga2,0,none⟩) na ca2,.slice (some ⟨ga1,0,none⟩) na ca1,.bool true,.bool false,.bool false,.bool false,.slice (some ⟨gb2,0,none⟩) nb cb2,.slice (some ⟨gb1,0,none⟩) nb cb1,.bool true,.bool false,.bool false,qz87,.agg (cnCells c1),qz88,.bool true,.bool false,qz93,.agg (cnCells c2),qz94,.bool true,.bool false,qz97,.int .i64 1,.int .i64 (1+2*c1.pn),qz100,.int .i64 (1+2*c1.pn),.int .i64 ((1+2*c1.pn)+2*c2.pn),.int .i64 ((1+2*c1.pn)+2*c2.pn),.bool false,.bool false,qz111,qz111,.bool true,.bool false,.bool false,.bool false,qz112,qz113,.bool true,.bool false,.bool false,.bool false,qz114,qz115,.bool true,.bool false,.bool false,.bool false,.slice (some ⟨ga2,0,none⟩) na ca2,.slice (some ⟨ga1,0,none⟩) na ca1,.bool true,.bool false,.bool false,.bool false,.slice (some ⟨gb2,0,none⟩) nb cb2,.slice (some ⟨gb1,0,none⟩) nb cb1,.bool true,.bool false,.bool false,qz118,.int .i64 1,.int .i64 (1+2*DF.pn),qz121,.int .i64 (1+2*DF.pn),.int .i64 ((1+2*DF.pn)+2*DT.pn),.slice (some ⟨ga2,0,none⟩) na ca2,.int .i64 ((1+2*DF.pn)+2*DT.pn),.int .i64 (((1+2*DF.pn)+2*DT.pn)+8*na),.slice (some ⟨gb2,0,none⟩) nb cb2,.int .i64 (((1+2*DF.pn)+2*DT.pn)+8*na),.int .i64 ((((1+2*DF.pn)+2*DT.pn)+8*na)+8*nb),.agg (cnCells {DF with pa:=some ⟨g2,0,none⟩,pc:=cp2}),.int .i64 1,.int .i64 (1+2*DF.pn),U,U,U,U,U,U,U,U,U,U,U,U,U,U,U,U,U,U,U,U,U,U,U,U,U,U,U,U,U,U,U,U,U,U,U,U,U,U,U,U,U,U,U,U,U,U,U,U,U,U,U,U,U,U,U,U,U,U,U,U,U,U,U,U,U,U,U,U,U,U,U,U,U,U,U,U,U,U,U,U,U,U,U,U] ?_
   generalize (.agg (cnCells {DF with pa:=some ⟨g2,0,none⟩,pc:=cp2}):Value)=qz128
   go_upto_region 35 with (fail)
   refine vR ?_
   refine vB cn_big qB59 (cn_size _) ?_
   refine vV (.int .i64 (1+2*DF.pn)) ?_
   refine vK (heldCn DT gg2 _ _ _ (1+2*DF.pn) (by omega) (by omega) _ K2 hM6) ?_
   intro qw129 qg130
   replace qB2:=qB2.since qg130
   replace qB5:=qB5.since qg130
   replace qB8:=qB8.since qg130
   replace qB23:=qB23.since qg130
   replace qB24:=qB24.since qg130
   replace qB25:=qB25.since qg130
   replace qB41:=qB41.since qg130
   replace qB50:=qB50.since qg130
   replace qB57:=qB57.since qg130
   replace qB58:=qB58.since qg130
   replace qB59:=qB59.since qg130
   replace H1:=H1.since qg130
   replace K1:=K1.since qg130
   replace La1:=La1.since qg130
   replace Lb1:=Lb1.since qg130
   replace X1:=X1.since qg130
   replace X2:=X2.since qg130
   replace H2:=H2.since qg130
   replace K2:=K2.since qg130
   replace La2:=La2.since qg130
   replace Lb2:=Lb2.since qg130
   replace G:=G.trans qg130
   have qg130_s:=qg130.size
   refine vV (.int .i64 ((1+2*DF.pn)+2*DT.pn)) ?_
   refine vE #[qz10,.agg (cnCells c1),.agg (cnCells c2),pX w.heap.size 0,pX qw1.heap.size 0,pX qw4.heap.size 0,.bool false,.int .i64 r2,pX qx20 0,pX qx21 0,pX qx22 0,.slice (some ⟨ga1,0,none⟩) na ca1,.slice (some ⟨gb1,0,none⟩) nb cb1,pX qw34.heap.size 0,pX qw43.heap.size 0,pX qx54 0,pX qx55 0,pX qx56 0,.slice (some ⟨ga2,0,none⟩) na ca2,.slice (some ⟨gb2,0,none⟩) nb cb2,.int .i64 ((1+2*c1.pn)+2*c2.pn),.int .i64 ((((1+2*DF.pn)+2*DT.pn)+8*na)+8*nb),.int .i64 ((1+2*DF.pn)+2*DT.pn),U,U,U,U,U,qz13,.int .i64 1048576,.int .i64 l0,.int .i64 l0,.bool (decide (l0<0)),.agg (cnCells c1),.int .i64 l0,.int .i64 r1,.int .i64 r1,.bool (decide (r1<0)),.agg (cnCells c2),.int .i64 r1,.int .i64 r2,.int .i64 r2,.bool (decide (r2<0)),qz26,qz27,qz27,.agg (cnCells c1),qz28,.agg (cnCells c2),qz29,qz30,qz31,qz32,qz33,.slice (some ⟨ga1,0,none⟩) na ca1,.slice (some ⟨gb1,0,none⟩) nb cb1,.agg (cnCells c1),qz42,.agg (cnCells c2),qz51,qz60,qz61,qz61,qz62,qz63,qz64,qz65,qz66,qz67,.slice (some ⟨ga2,0,none⟩) na ca2,.slice (some ⟨gb2,0,none⟩) nb cb2,qz78,qz78,.bool true,.bool false,.bool false,qz79,qz80,.bool true,.bool false,.bool false,.bool false,qz81,qz82,.bool true,.bool false,.bool false,.bool false,.slice (some ⟨ga2,0,none⟩) na ca2,.slice (some ⟨ga1,0,none⟩) na ca1,.bool true,.bool false,.bool false,.bool false,.slice (some ⟨gb2,0,none⟩) nb cb2,.slice (some ⟨gb1,0,none⟩) nb cb1,.bool true,.bool false,.bool false,qz87,.agg (cnCells c1),qz88,.bool true,.bool false,qz93,.agg (cnCells c2),qz94,.bool true,.bool false,qz97,.int .i64 1,.int .i64 (1+2*c1.pn),qz100,.int .i64 (1+2*c1.pn),.int .i64 ((1+2*c1.pn)+2*c2.pn),.int .i64 ((1+2*c1.pn)+2*c2.pn),.bool false,.bool false,qz111,qz111,.bool true,.bool false,.bool false,.bool false,qz112,qz113,.bool true,.bool false,.bool false,.bool false,qz114,qz115,.bool true,.bool false,.bool false,.bool false,.slice (some ⟨ga2,0,none⟩) na ca2,.slice (some ⟨ga1,0,none⟩) na ca1,.bool true,.bool false,.bool false,.bool false,.slice (some ⟨gb2,0,none⟩) nb cb2,.slice (some ⟨gb1,0,none⟩) nb cb1,.bool true,.bool false,.bool false,qz118,.int .i64 1,.int .i64 (1+2*DF.pn),qz121,.int .i64 (1+2*DF.pn),.int .i64 ((1+2*DF.pn)+2*DT.pn),.slice (some ⟨ga2,0,none⟩) na ca2,.int .i64 ((1+2*DF.pn)+2*DT.pn),.int .i64 (((1+2*DF.pn)+2*DT.pn)+8*na),.slice (some ⟨gb2,0,none⟩) nb cb2,.int .i64 (((1+2*DF.pn)+2*DT.pn)+8*na),.int .i64 ((((1+2*DF.pn)+2*DT.pn)+8*na)+8*nb),qz128,.int .i64 1,.int .i64 (1+2*DF.pn),.int .i64 (1+2*DF.pn),.bool (decide ((1+2*DF.pn)<0)),.agg (cnCells {DT with pa:=some ⟨gg2,0,none⟩,pc:=cpp2}),.int .i64 (1+2*DF.pn),.int .i64 ((1+2*DF.pn)+2*DT.pn),U,U,U,U,U,U,U,U,U,U,U,U,U,U,U,U,U,U,U,U,U,U,U,U,U,U,U,U,U,U,U,U,U,U,U,U,U,U,U,U,U,U,U,U,U,U,U,U,U,U,U,U,U,U,U,U,U,U,U,U,U,U,U,U,U,U,U,U,U,U,U,U,U,U,U,U,U,U,U] ?_
   generalize (.agg (cnCells {DT with pa:=some ⟨gg2,0,none⟩,pc:=cpp2}):Value)=qz131
   go_upto_region 38 with (fail)
   refine vR ?_
   refine vV (.slice (some ⟨ga2,0,none⟩) na ca2) ?_
   refine vV (.int .i64 ((1+2*DF.pn)+2*DT.pn)) ?_
   refine vK (heldSegs _ ga2 na _ _ ((1+2*DF.pn)+2*DT.pn) (by omega) (by omega) _ La2 hM7) ?_
   intro qw132 qg133
   replace qB2:=qB2.since qg133
   replace qB5:=qB5.since qg133
   replace qB8:=qB8.since qg133
   replace qB23:=qB23.since qg133
   replace qB24:=qB24.since qg133
   replace qB25:=qB25.since qg133
   replace qB41:=qB41.since qg133
   replace qB50:=qB50.since qg133
   replace qB57:=qB57.since qg133
   replace qB58:=qB58.since qg133
   replace qB59:=qB59.since qg133
   replace H1:=H1.since qg133
   replace K1:=K1.since qg133
   replace La1:=La1.since qg133
   replace Lb1:=Lb1.since qg133
   replace X1:=X1.since qg133
   replace X2:=X2.since qg133
   replace H2:=H2.since qg133
   replace K2:=K2.since qg133
   replace La2:=La2.since qg133
   replace Lb2:=Lb2.since qg133
   replace G:=G.trans qg133
   have qg133_s:=qg133.size
   refine vV (.int .i64 (((1+2*DF.pn)+2*DT.pn)+8*na)) ?_
   refine vE #[qz10,.agg (cnCells c1),.agg (cnCells c2),pX w.heap.size 0,pX qw1.heap.size 0,pX qw4.heap.size 0,.bool false,.int .i64 r2,pX qx20 0,pX qx21 0,pX qx22 0,.slice (some ⟨ga1,0,none⟩) na ca1,.slice (some ⟨gb1,0,none⟩) nb cb1,pX qw34.heap.size 0,pX qw43.heap.size 0,pX qx54 0,pX qx55 0,pX qx56 0,.slice (some ⟨ga2,0,none⟩) na ca2,.slice (some ⟨gb2,0,none⟩) nb cb2,.int .i64 ((1+2*c1.pn)+2*c2.pn),.int .i64 ((((1+2*DF.pn)+2*DT.pn)+8*na)+8*nb),.int .i64 (((1+2*DF.pn)+2*DT.pn)+8*na),U,U,U,U,U,qz13,.int .i64 1048576,.int .i64 l0,.int .i64 l0,.bool (decide (l0<0)),.agg (cnCells c1),.int .i64 l0,.int .i64 r1,.int .i64 r1,.bool (decide (r1<0)),.agg (cnCells c2),.int .i64 r1,.int .i64 r2,.int .i64 r2,.bool (decide (r2<0)),qz26,qz27,qz27,.agg (cnCells c1),qz28,.agg (cnCells c2),qz29,qz30,qz31,qz32,qz33,.slice (some ⟨ga1,0,none⟩) na ca1,.slice (some ⟨gb1,0,none⟩) nb cb1,.agg (cnCells c1),qz42,.agg (cnCells c2),qz51,qz60,qz61,qz61,qz62,qz63,qz64,qz65,qz66,qz67,.slice (some ⟨ga2,0,none⟩) na ca2,.slice (some ⟨gb2,0,none⟩) nb cb2,qz78,qz78,.bool true,.bool false,.bool false,qz79,qz80,.bool true,.bool false,.bool false,.bool false,qz81,qz82,.bool true,.bool false,.bool false,.bool false,.slice (some ⟨ga2,0,none⟩) na ca2,.slice (some ⟨ga1,0,none⟩) na ca1,.bool true,.bool false,.bool false,.bool false,.slice (some ⟨gb2,0,none⟩) nb cb2,.slice (some ⟨gb1,0,none⟩) nb cb1,.bool true,.bool false,.bool false,qz87,.agg (cnCells c1),qz88,.bool true,.bool false,qz93,.agg (cnCells c2),qz94,.bool true,.bool false,qz97,.int .i64 1,.int .i64 (1+2*c1.pn),qz100,.int .i64 (1+2*c1.pn),.int .i64 ((1+2*c1.pn)+2*c2.pn),.int .i64 ((1+2*c1.pn)+2*c2.pn),.bool false,.bool false,qz111,qz111,.bool true,.bool false,.bool false,.bool false,qz112,qz113,.bool true,.bool false,.bool false,.bool false,qz114,qz115,.bool true,.bool false,.bool false,.bool false,.slice (some ⟨ga2,0,none⟩) na ca2,.slice (some ⟨ga1,0,none⟩) na ca1,.bool true,.bool false,.bool false,.bool false,.slice (some ⟨gb2,0,none⟩) nb cb2,.slice (some ⟨gb1,0,none⟩) nb cb1,.bool true,.bool false,.bool false,qz118,.int .i64 1,.int .i64 (1+2*DF.pn),qz121,.int .i64 (1+2*DF.pn),.int .i64 ((1+2*DF.pn)+2*DT.pn),.slice (some ⟨ga2,0,none⟩) na ca2,.int .i64 ((1+2*DF.pn)+2*DT.pn),.int .i64 (((1+2*DF.pn)+2*DT.pn)+8*na),.slice (some ⟨gb2,0,none⟩) nb cb2,.int .i64 (((1+2*DF.pn)+2*DT.pn)+8*na),.int .i64 ((((1+2*DF.pn)+2*DT.pn)+8*na)+8*nb),qz128,.int .i64 1,.int .i64 (1+2*DF.pn),.int .i64 (1+2*DF.pn),.bool (decide ((1+2*DF.pn)<0)),qz131,.int .i64 (1+2*DF.pn),.int .i64 ((1+2*DF.pn)+2*DT.pn),.int .i64 ((1+2*DF.pn)+2*DT.pn),.bool (decide (((1+2*DF.pn)+2*DT.pn)<0)),.slice (some ⟨ga2,0,none⟩) na ca2,.int .i64 ((1+2*DF.pn)+2*DT.pn),.int .i64 (((1+2*DF.pn)+2*DT.pn)+8*na),U,U,U,U,U,U,U,U,U,U,U,U,U,U,U,U,U,U,U,U,U,U,U,U,U,U,U,U,U,U,U,U,U,U,U,U,U,U,U,U,U,U,U,U,U,U,U,U,U,U,U,U,U,U,U,U,U,U,U,U,U,U,U,U,U,U,U,U,U,U,U,U,U,U] ?_
   go_upto_region 41 with (fail)
   refine vR ?_
   refine vV (.slice (some ⟨gb2,0,none⟩) nb cb2) ?_
   refine vV (.int .i64 (((1+2*DF.pn)+2*DT.pn)+8*na)) ?_
   refine vK (heldSegs _ gb2 nb _ _ (((1+2*DF.pn)+2*DT.pn)+8*na) (by omega) (by omega) _ Lb2 hM8) ?_
   intro qw134 qg135
   replace qB2:=qB2.since qg135
   replace qB5:=qB5.since qg135
   replace qB8:=qB8.since qg135
   replace qB23:=qB23.since qg135
   replace qB24:=qB24.since qg135
   replace qB25:=qB25.since qg135
   replace qB41:=qB41.since qg135
   replace qB50:=qB50.since qg135
   replace qB57:=qB57.since qg135
   replace qB58:=qB58.since qg135
   replace qB59:=qB59.since qg135
   replace H1:=H1.since qg135
   replace K1:=K1.since qg135
   replace La1:=La1.since qg135
   replace Lb1:=Lb1.since qg135
   replace X1:=X1.since qg135
   replace X2:=X2.since qg135
   replace H2:=H2.since qg135
   replace K2:=K2.since qg135
   replace La2:=La2.since qg135
   replace Lb2:=Lb2.since qg135
   replace G:=G.trans qg135
   have qg135_s:=qg135.size
   refine vV (.int .i64 ((((1+2*DF.pn)+2*DT.pn)+8*na)+8*nb)) ?_
   refine vE #[qz10,.agg (cnCells c1),.agg (cnCells c2),pX w.heap.size 0,pX qw1.heap.size 0,pX qw4.heap.size 0,.bool false,.int .i64 r2,pX qx20 0,pX qx21 0,pX qx22 0,.slice (some ⟨ga1,0,none⟩) na ca1,.slice (some ⟨gb1,0,none⟩) nb cb1,pX qw34.heap.size 0,pX qw43.heap.size 0,pX qx54 0,pX qx55 0,pX qx56 0,.slice (some ⟨ga2,0,none⟩) na ca2,.slice (some ⟨gb2,0,none⟩) nb cb2,.int .i64 ((1+2*c1.pn)+2*c2.pn),.int .i64 ((((1+2*DF.pn)+2*DT.pn)+8*na)+8*nb),.int .i64 ((((1+2*DF.pn)+2*DT.pn)+8*na)+8*nb),U,U,U,U,U,qz13,.int .i64 1048576,.int .i64 l0,.int .i64 l0,.bool (decide (l0<0)),.agg (cnCells c1),.int .i64 l0,.int .i64 r1,.int .i64 r1,.bool (decide (r1<0)),.agg (cnCells c2),.int .i64 r1,.int .i64 r2,.int .i64 r2,.bool (decide (r2<0)),qz26,qz27,qz27,.agg (cnCells c1),qz28,.agg (cnCells c2),qz29,qz30,qz31,qz32,qz33,.slice (some ⟨ga1,0,none⟩) na ca1,.slice (some ⟨gb1,0,none⟩) nb cb1,.agg (cnCells c1),qz42,.agg (cnCells c2),qz51,qz60,qz61,qz61,qz62,qz63,qz64,qz65,qz66,qz67,.slice (some ⟨ga2,0,none⟩) na ca2,.slice (some ⟨gb2,0,none⟩) nb cb2,qz78,qz78,.bool true,.bool false,.bool false,qz79,qz80,.bool true,.bool false,.bool false,.bool false,qz81,qz82,.bool true,.bool false,.bool false,.bool false,.slice (some ⟨ga2,0,none⟩) na ca2,.slice (some ⟨ga1,0,none⟩) na ca1,.bool true,.bool false,.bool false,.bool false,.slice (some ⟨gb2,0,none⟩) nb cb2,.slice (some ⟨gb1,0,none⟩) nb cb1,.bool true,.bool false,.bool false,qz87,.agg (cnCells c1),qz88,.bool true,.bool false,qz93,.agg (cnCells c2),qz94,.bool true,.bool false,qz97,.int .i64 1,.int .i64 (1+2*c1.pn),qz100,.int .i64 (1+2*c1.pn),.int .i64 ((1+2*c1.pn)+2*c2.pn),.int .i64 ((1+2*c1.pn)+2*c2.pn),.bool false,.bool false,qz111,qz111,.bool true,.bool false,.bool false,.bool false,qz112,qz113,.bool true,.bool false,.bool false,.bool false,qz114,qz115,.bool true,.bool false,.bool false,.bool false,.slice (some ⟨ga2,0,none⟩) na ca2,.slice (some ⟨ga1,0,none⟩) na ca1,.bool true,.bool false,.bool false,.bool false,.slice (some ⟨gb2,0,none⟩) nb cb2,.slice (some ⟨gb1,0,none⟩) nb cb1,.bool true,.bool false,.bool false,qz118,.int .i64 1,.int .i64 (1+2*DF.pn),qz121,.int .i64 (1+2*DF.pn),.int .i64 ((1+2*DF.pn)+2*DT.pn),.slice (some ⟨ga2,0,none⟩) na ca2,.int .i64 ((1+2*DF.pn)+2*DT.pn),.int .i64 (((1+2*DF.pn)+2*DT.pn)+8*na),.slice (some ⟨gb2,0,none⟩) nb cb2,.int .i64 (((1+2*DF.pn)+2*DT.pn)+8*na),.int .i64 ((((1+2*DF.pn)+2*DT.pn)+8*na)+8*nb),qz128,.int .i64 1,.int .i64 (1+2*DF.pn),.int .i64 (1+2*DF.pn),.bool (decide ((1+2*DF.pn)<0)),qz131,.int .i64 (1+2*DF.pn),.int .i64 ((1+2*DF.pn)+2*DT.pn),.int .i64 ((1+2*DF.pn)+2*DT.pn),.bool (decide (((1+2*DF.pn)+2*DT.pn)<0)),.slice (some ⟨ga2,0,none⟩) na ca2,.int .i64 ((1+2*DF.pn)+2*DT.pn),.int .i64 (((1+2*DF.pn)+2*DT.pn)+8*na),.int .i64 (((1+2*DF.pn)+2*DT.pn)+8*na),.bool (decide ((((1+2*DF.pn)+2*DT.pn)+8*na)<0)),.slice (some ⟨gb2,0,none⟩) nb cb2,.int .i64 (((1+2*DF.pn)+2*DT.pn)+8*na),.int .i64 ((((1+2*DF.pn)+2*DT.pn)+8*na)+8*nb),U,U,U,U,U,U,U,U,U,U,U,U,U,U,U,U,U,U,U,U,U,U,U,U,U,U,U,U,U,U,U,U,U,U,U,U,U,U,U,U,U,U,U,U,U,U,U,U,U,U,U,U,U,U,U,U,U,U,U,U,U,U,U,U,U,U,U,U,U] ?_
   go_upto_region 46 with (fail)
   have hg_3:=G.size
   refine wp_region_low KeepsT (fun i x v=>match i with
     | 0=>v=.agg #[.int .i64 rm0,.string d0,.bool e0,.int .i64 n0,.int .i64 rn0,.string f0,.bool g0,.int .i64 m0]
     | 1=>v=.agg #[.int .i64 rm0,.string d0,.bool e0,.int .i64 n0,.int .i64 rn0,.string f0,.bool g0,.int .i64 m0]
     | 2=>v=.agg (cnCells c1)
     | 3=>∃ q,v=.agg (cnCells {c1 with pa:=some ⟨q,0,none⟩,pc:=c1.pn})∧Held shP x qw134.heap.size q c1.pn c1.pn p1
     | 4=>v=.agg (cnCells c2)
     | 5=>∃ q,v=.agg (cnCells {c2 with pa:=some ⟨q,0,none⟩,pc:=c2.pn})∧Held shP x qw134.heap.size q c2.pn c2.pn p2
     | 6=>∃ g3 cp3 gg3 cpp3 ga3 ca3 gb3 cb3,v=.tuple #[.agg #[.int .i64 rm0,.string xD,.bool xE,.int .i64 xN,.int .i64 rn0,.string yD,.bool yE,.int .i64 yN],.agg (cnCells {DF with pa:=some ⟨g3,0,none⟩,pc:=cp3}),.agg (cnCells {DT with pa:=some ⟨gg3,0,none⟩,pc:=cpp3}),.slice (some ⟨ga3,0,none⟩) na ca3,.slice (some ⟨gb3,0,none⟩) nb cb3]∧Held shP x qw134.heap.size g3 c1.pn cp3 p1∧Held shP x qw134.heap.size gg3 c2.pn cpp3 p2∧Held shG x qw134.heap.size ga3 na ca3 XA∧Held shG x qw134.heap.size gb3 nb cb3 XB∧(g3≠gg3∧ga3≠gb3)
     | 7=>∃ g3 cp3 gg3 cpp3 ga3 ca3 gb3 cb3,v=.tuple #[.agg #[.int .i64 rm0,.string xD,.bool xE,.int .i64 xN,.int .i64 rn0,.string yD,.bool yE,.int .i64 yN],.agg (cnCells {DF with pa:=some ⟨g3,0,none⟩,pc:=cp3}),.agg (cnCells {DT with pa:=some ⟨gg3,0,none⟩,pc:=cpp3}),.slice (some ⟨ga3,0,none⟩) na ca3,.slice (some ⟨gb3,0,none⟩) nb cb3]∧Held shP x qw134.heap.size g3 c1.pn cp3 p1∧Held shP x qw134.heap.size gg3 c2.pn cpp3 p2∧Held shG x qw134.heap.size ga3 na ca3 XA∧Held shG x qw134.heap.size gb3 nb cb3 XB∧(g3≠gg3∧ga3≠gb3)
     | 13=>∃ b,v=.pointer (some ⟨b,0,none⟩)∧qw134.heap.size≤b∧Typed 42 8 b x
     | 14=>∃ b,v=.pointer (some ⟨b,0,none⟩)∧qw134.heap.size≤b∧Typed 50 37 b x
     | 15=>∃ b,v=.pointer (some ⟨b,0,none⟩)∧qw134.heap.size≤b∧Typed 50 37 b x
     | _=>True)
     (fun f vals x=>Since qw134 x∧(f 8=true→f 7=true∧∀ a0 a1 a2 a3 a4,vals 7=.tuple #[a0,a1,a2,a3,a4]→vals 8=a0)∧(f 9=true→f 7=true∧∀ a0 a1 a2 a3 a4,vals 7=.tuple #[a0,a1,a2,a3,a4]→vals 9=a1)∧(f 10=true→f 7=true∧∀ a0 a1 a2 a3 a4,vals 7=.tuple #[a0,a1,a2,a3,a4]→vals 10=a2)∧(f 11=true→f 7=true∧∀ a0 a1 a2 a3 a4,vals 7=.tuple #[a0,a1,a2,a3,a4]→vals 11=a3)∧(f 12=true→f 7=true∧∀ a0 a1 a2 a3 a4,vals 7=.tuple #[a0,a1,a2,a3,a4]→vals 12=a4)∧(f 13=true→∃ b,vals 13=.pointer (some ⟨b,0,none⟩)∧b<x.heap.size)∧(f 14=true→∃ b,vals 14=.pointer (some ⟨b,0,none⟩)∧b<x.heap.size)∧(f 15=true→∃ b,vals 15=.pointer (some ⟨b,0,none⟩)∧b<x.heap.size)∧(f 13=true→f 14=true→vals 13≠vals 14)∧(f 13=true→f 15=true→vals 13≠vals 15)∧(f 14=true→f 15=true→vals 14≠vals 15)∧(f 16=true→f 13=true∧f 8=true∧∃ b cs,vals 13=.pointer (some ⟨b,0,none⟩)∧vals 8=.agg cs∧Blk b x cs)∧(f 17=true→f 14=true∧f 9=true∧∃ b cs,vals 14=.pointer (some ⟨b,0,none⟩)∧vals 9=.agg cs∧Blk b x cs)∧(f 18=true→f 15=true∧f 10=true∧∃ b cs,vals 15=.pointer (some ⟨b,0,none⟩)∧vals 10=.agg cs∧Blk b x cs)∧(f 19=true→f 7=true∧∀ a0 a1 a2 a3 a4,vals 7=.tuple #[a0,a1,a2,a3,a4]→vals 19=a3)∧(f 20=true→f 7=true∧∀ a0 a1 a2 a3 a4,vals 7=.tuple #[a0,a1,a2,a3,a4]→vals 20=a4))
     (fun v=>{tmps:=#[qz10,.agg (cnCells c1),.agg (cnCells c2),.pointer (some ⟨w.heap.size,0,none⟩),.pointer (some ⟨qw1.heap.size,0,none⟩),.pointer (some ⟨qw4.heap.size,0,none⟩),.bool false,.int .i64 r2,.pointer (some ⟨qx20,0,none⟩),.pointer (some ⟨qx21,0,none⟩),.pointer (some ⟨qx22,0,none⟩),.slice (some ⟨ga1,0,none⟩) na ca1,.slice (some ⟨gb1,0,none⟩) nb cb1,.pointer (some ⟨qw34.heap.size,0,none⟩),.pointer (some ⟨qw43.heap.size,0,none⟩),.pointer (some ⟨qx54,0,none⟩),.pointer (some ⟨qx55,0,none⟩),.pointer (some ⟨qx56,0,none⟩),.slice (some ⟨ga2,0,none⟩) na ca2,.slice (some ⟨gb2,0,none⟩) nb cb2,.int .i64 ((1+2*c1.pn)+2*c2.pn),.int .i64 ((((1+2*DF.pn)+2*DT.pn)+8*na)+8*nb),.int .i64 ((((1+2*DF.pn)+2*DT.pn)+8*na)+8*nb),v 13,v 14,v 15,v 19,v 20,qz13,.int .i64 1048576,.int .i64 l0,.int .i64 l0,.bool (decide (l0<0)),.agg (cnCells c1),.int .i64 l0,.int .i64 r1,.int .i64 r1,.bool (decide (r1<0)),.agg (cnCells c2),.int .i64 r1,.int .i64 r2,.int .i64 r2,.bool (decide (r2<0)),qz26,qz27,qz27,.agg (cnCells c1),qz28,.agg (cnCells c2),qz29,qz30,qz31,qz32,qz33,.slice (some ⟨ga1,0,none⟩) na ca1,.slice (some ⟨gb1,0,none⟩) nb cb1,.agg (cnCells c1),qz42,.agg (cnCells c2),qz51,qz60,qz61,qz61,qz62,qz63,qz64,qz65,qz66,qz67,.slice (some ⟨ga2,0,none⟩) na ca2,.slice (some ⟨gb2,0,none⟩) nb cb2,qz78,qz78,.bool true,.bool false,.bool false,qz79,qz80,.bool true,.bool false,.bool false,.bool false,qz81,qz82,.bool true,.bool false,.bool false,.bool false,.slice (some ⟨ga2,0,none⟩) na ca2,.slice (some ⟨ga1,0,none⟩) na ca1,.bool true,.bool false,.bool false,.bool false,.slice (some ⟨gb2,0,none⟩) nb cb2,.slice (some ⟨gb1,0,none⟩) nb cb1,.bool true,.bool false,.bool false,qz87,.agg (cnCells c1),qz88,.bool true,.bool false,qz93,.agg (cnCells c2),qz94,.bool true,.bool false,qz97,.int .i64 1,.int .i64 (1+2*c1.pn),qz100,.int .i64 (1+2*c1.pn),.int .i64 ((1+2*c1.pn)+2*c2.pn),.int .i64 ((1+2*c1.pn)+2*c2.pn),.bool false,.bool false,qz111,qz111,.bool true,.bool false,.bool false,.bool false,qz112,qz113,.bool true,.bool false,.bool false,.bool false,qz114,qz115,.bool true,.bool false,.bool false,.bool false,.slice (some ⟨ga2,0,none⟩) na ca2,.slice (some ⟨ga1,0,none⟩) na ca1,.bool true,.bool false,.bool false,.bool false,.slice (some ⟨gb2,0,none⟩) nb cb2,.slice (some ⟨gb1,0,none⟩) nb cb1,.bool true,.bool false,.bool false,qz118,.int .i64 1,.int .i64 (1+2*DF.pn),qz121,.int .i64 (1+2*DF.pn),.int .i64 ((1+2*DF.pn)+2*DT.pn),.slice (some ⟨ga2,0,none⟩) na ca2,.int .i64 ((1+2*DF.pn)+2*DT.pn),.int .i64 (((1+2*DF.pn)+2*DT.pn)+8*na),.slice (some ⟨gb2,0,none⟩) nb cb2,.int .i64 (((1+2*DF.pn)+2*DT.pn)+8*na),.int .i64 ((((1+2*DF.pn)+2*DT.pn)+8*na)+8*nb),qz128,.int .i64 1,.int .i64 (1+2*DF.pn),.int .i64 (1+2*DF.pn),.bool (decide ((1+2*DF.pn)<0)),qz131,.int .i64 (1+2*DF.pn),.int .i64 ((1+2*DF.pn)+2*DT.pn),.int .i64 ((1+2*DF.pn)+2*DT.pn),.bool (decide (((1+2*DF.pn)+2*DT.pn)<0)),.slice (some ⟨ga2,0,none⟩) na ca2,.int .i64 ((1+2*DF.pn)+2*DT.pn),.int .i64 (((1+2*DF.pn)+2*DT.pn)+8*na),.int .i64 (((1+2*DF.pn)+2*DT.pn)+8*na),.bool (decide ((((1+2*DF.pn)+2*DT.pn)+8*na)<0)),.slice (some ⟨gb2,0,none⟩) nb cb2,.int .i64 (((1+2*DF.pn)+2*DT.pn)+8*na),.int .i64 ((((1+2*DF.pn)+2*DT.pn)+8*na)+8*nb),.int .i64 ((((1+2*DF.pn)+2*DT.pn)+8*na)+8*nb),.bool (decide (((((1+2*DF.pn)+2*DT.pn)+8*na)+8*nb)<0)),.int .i64 ((((1+2*DF.pn)+2*DT.pn)+8*na)+8*nb),.int .i64 ((((1+2*DF.pn)+2*DT.pn)+8*na)+8*nb),.bool false,v 7,v 0,v 1,v 2,v 3,v 4,v 5,v 6,v 8,v 9,v 10,v 11,v 12,U,U,U,U,U,U,U,U,U,U,U,U,U,U,U,U,U,U,U,U,U,U,U,U,U,U,U,U,U,U,U,U,U,U,U,U,U,U,U,U,U,U,U,U,U,U,U,U,U,U,undef],defers:=[]}) (by kernel_rfl) (by kernel_rfl) ?_ ?_ (fun vals=>by kernel_rfl) ?_ ?_
   case refine_1=>
    intro j x y v hl hv
    match j,hv with
    | 0,hv=>exact hv
    | 1,hv=>exact hv
    | 2,hv=>exact hv
    | 3,⟨q,e,H⟩=>exact ⟨q,e,hl.1 _ _ _ _ _ H⟩
    | 4,hv=>exact hv
    | 5,⟨q,e,H⟩=>exact ⟨q,e,hl.1 _ _ _ _ _ H⟩
    | 6,⟨g3,cp3,gg3,cpp3,ga3,ca3,gb3,cb3,e,H3,K3,La3,Lb3,hne3⟩=>exact ⟨g3,cp3,gg3,cpp3,ga3,ca3,gb3,cb3,e,hl.1 _ _ _ _ _ H3,hl.1 _ _ _ _ _ K3,hl.2.2 _ _ _ _ _ La3,hl.2.2 _ _ _ _ _ Lb3,hne3⟩
    | 7,⟨g3,cp3,gg3,cpp3,ga3,ca3,gb3,cb3,e,H3,K3,La3,Lb3,hne3⟩=>exact ⟨g3,cp3,gg3,cpp3,ga3,ca3,gb3,cb3,e,hl.1 _ _ _ _ _ H3,hl.1 _ _ _ _ _ K3,hl.2.2 _ _ _ _ _ La3,hl.2.2 _ _ _ _ _ Lb3,hne3⟩
    | 13,⟨b,e,l,t⟩=>exact ⟨b,e,l,hl.2.1 _ _ _ t⟩
    | 14,⟨b,e,l,t⟩=>exact ⟨b,e,l,hl.2.1 _ _ _ t⟩
    | 15,⟨b,e,l,t⟩=>exact ⟨b,e,l,hl.2.1 _ _ _ t⟩
    | 8,_|9,_|10,_|11,_|12,_|16,_|17,_|18,_|19,_|20,_=>trivial
    | n+21,_=>trivial
   case refine_2=>
    intro f vals hf
    exact ⟨((Since.refl _).drew),(fun h=>by rw [hf 8] at h;cases h),(fun h=>by rw [hf 9] at h;cases h),(fun h=>by rw [hf 10] at h;cases h),(fun h=>by rw [hf 11] at h;cases h),(fun h=>by rw [hf 12] at h;cases h),(fun h=>by rw [hf 13] at h;cases h),(fun h=>by rw [hf 14] at h;cases h),(fun h=>by rw [hf 15] at h;cases h),(fun h=>by rw [hf 13] at h;cases h),(fun h=>by rw [hf 13] at h;cases h),(fun h=>by rw [hf 14] at h;cases h),(fun h=>by rw [hf 16] at h;cases h),(fun h=>by rw [hf 17] at h;cases h),(fun h=>by rw [hf 18] at h;cases h),(fun h=>by rw [hf 19] at h;cases h),(fun h=>by rw [hf 20] at h;cases h)⟩
   case refine_3=>
    repeat (first|exact eachLow_nil|refine eachLow_cons ?_ ?_)
    all_goals intro f vals x hf hr hK
    all_goals obtain ⟨k0,x0,x1,x2,x3,x4,b0,b1,b2,d01,d02,d12,s0,s1,s2,ay0,ay1⟩:=hK
    ·obtain ⟨fe,-⟩:=hr ⟨12,.data⟩ (by simp) rfl
     refine does_v (vals 12) ?_ ?_
     ·simp [execOp,go_sem]
     exact ⟨KeepsT.of_since (Since.refl _),⟨k0,x0,x1,x2,x3,x4,b0,b1,b2,d01,d02,d12,s0,s1,s2,ay0,(fun _=>⟨(x4 fe).1,fun a0 a1 a2 a3 a4 h=>(x4 fe).2 a0 a1 a2 a3 a4 h⟩)⟩,trivial⟩
    ·obtain ⟨fe,-⟩:=hr ⟨11,.data⟩ (by simp) rfl
     refine does_v (vals 11) ?_ ?_
     ·simp [execOp,go_sem]
     exact ⟨KeepsT.of_since (Since.refl _),⟨k0,x0,x1,x2,x3,x4,b0,b1,b2,d01,d02,d12,s0,s1,s2,(fun _=>⟨(x3 fe).1,fun a0 a1 a2 a3 a4 h=>(x3 fe).2 a0 a1 a2 a3 a4 h⟩),ay1⟩,trivial⟩
    ·obtain ⟨fa,b,ea,la,ta⟩:=hr ⟨15,.data⟩ (by simp) rfl
     obtain ⟨fe,-⟩:=hr ⟨10,.data⟩ (by simp) rfl
     obtain ⟨-,g3,cp3,gg3,cpp3,ga3,ca3,gb3,cb3,e7,-⟩:=hr ⟨7,.phase⟩ (by simp) rfl
     have ee:=(x2 fe).2 _ _ _ _ _ e7
     refine does_storeT cn_big (cn_size _) ta (by decide) (cn_one _) _ _ rfl ea ee ?_
     intro z hk t B
     exact ⟨hk,⟨since_touch k0 t la,x0,x1,x2,x3,x4,(fun h=>by obtain ⟨b,e,l⟩:=b0 h;exact ⟨b,e,Nat.lt_of_lt_of_le l t.size⟩),(fun h=>by obtain ⟨b,e,l⟩:=b1 h;exact ⟨b,e,Nat.lt_of_lt_of_le l t.size⟩),(fun h=>by obtain ⟨b,e,l⟩:=b2 h;exact ⟨b,e,Nat.lt_of_lt_of_le l t.size⟩),d01,d02,d12,(fun h=>by obtain ⟨f1,f2,b',cs',e1,e2,B'⟩:=s0 h;exact ⟨f1,f2,b',cs',e1,e2,B'.touch t (fun q=>d02 f1 fa (by rw [e1,ea,q]))⟩),(fun h=>by obtain ⟨f1,f2,b',cs',e1,e2,B'⟩:=s1 h;exact ⟨f1,f2,b',cs',e1,e2,B'.touch t (fun q=>d12 f1 fa (by rw [e1,ea,q]))⟩),(fun _=>⟨fa,fe,b,_,ea,ee,B⟩),ay0,ay1⟩,trivial⟩
    ·obtain ⟨fa,b,ea,la,ta⟩:=hr ⟨14,.data⟩ (by simp) rfl
     obtain ⟨fe,-⟩:=hr ⟨9,.data⟩ (by simp) rfl
     obtain ⟨-,g3,cp3,gg3,cpp3,ga3,ca3,gb3,cb3,e7,-⟩:=hr ⟨7,.phase⟩ (by simp) rfl
     have ee:=(x1 fe).2 _ _ _ _ _ e7
     refine does_storeT cn_big (cn_size _) ta (by decide) (cn_one _) _ _ rfl ea ee ?_
     intro z hk t B
     exact ⟨hk,⟨since_touch k0 t la,x0,x1,x2,x3,x4,(fun h=>by obtain ⟨b,e,l⟩:=b0 h;exact ⟨b,e,Nat.lt_of_lt_of_le l t.size⟩),(fun h=>by obtain ⟨b,e,l⟩:=b1 h;exact ⟨b,e,Nat.lt_of_lt_of_le l t.size⟩),(fun h=>by obtain ⟨b,e,l⟩:=b2 h;exact ⟨b,e,Nat.lt_of_lt_of_le l t.size⟩),d01,d02,d12,(fun h=>by obtain ⟨f1,f2,b',cs',e1,e2,B'⟩:=s0 h;exact ⟨f1,f2,b',cs',e1,e2,B'.touch t (fun q=>d01 f1 fa (by rw [e1,ea,q]))⟩),(fun _=>⟨fa,fe,b,_,ea,ee,B⟩),(fun h=>by obtain ⟨f1,f2,b',cs',e1,e2,B'⟩:=s2 h;exact ⟨f1,f2,b',cs',e1,e2,B'.touch t (fun q=>d12 fa f1 (by rw [e1,ea,q]))⟩),ay0,ay1⟩,trivial⟩
    ·obtain ⟨fa,b,ea,la,ta⟩:=hr ⟨13,.data⟩ (by simp) rfl
     obtain ⟨fe,-⟩:=hr ⟨8,.data⟩ (by simp) rfl
     obtain ⟨-,g3,cp3,gg3,cpp3,ga3,ca3,gb3,cb3,e7,-⟩:=hr ⟨7,.phase⟩ (by simp) rfl
     have ee:=(x0 fe).2 _ _ _ _ _ e7
     refine does_storeT rl_big rfl ta (by decide) (by simp [Value.oneCell']) _ _ rfl ea ee ?_
     intro z hk t B
     exact ⟨hk,⟨since_touch k0 t la,x0,x1,x2,x3,x4,(fun h=>by obtain ⟨b,e,l⟩:=b0 h;exact ⟨b,e,Nat.lt_of_lt_of_le l t.size⟩),(fun h=>by obtain ⟨b,e,l⟩:=b1 h;exact ⟨b,e,Nat.lt_of_lt_of_le l t.size⟩),(fun h=>by obtain ⟨b,e,l⟩:=b2 h;exact ⟨b,e,Nat.lt_of_lt_of_le l t.size⟩),d01,d02,d12,(fun _=>⟨fa,fe,b,_,ea,ee,B⟩),(fun h=>by obtain ⟨f1,f2,b',cs',e1,e2,B'⟩:=s1 h;exact ⟨f1,f2,b',cs',e1,e2,B'.touch t (fun q=>d01 fa f1 (by rw [e1,ea,q]))⟩),(fun h=>by obtain ⟨f1,f2,b',cs',e1,e2,B'⟩:=s2 h;exact ⟨f1,f2,b',cs',e1,e2,B'.touch t (fun q=>d02 fa f1 (by rw [e1,ea,q]))⟩),ay0,ay1⟩,trivial⟩
    ·have h1:=(Since.refl x).alloc (.cells (cnCells cnZero) 50)
     refine does_w (.pointer (some ⟨x.heap.size,0,none⟩)) (x.alloc (.cells (cnCells cnZero) 50)) (by kernel_rfl) ?_
     exact ⟨KeepsT.of_since h1,⟨k0.trans h1,x0,x1,x2,x3,x4,(fun h=>by obtain ⟨b,e,l⟩:=b0 h;exact ⟨b,e,Nat.lt_of_lt_of_le l h1.size⟩),(fun h=>by obtain ⟨b,e,l⟩:=b1 h;exact ⟨b,e,Nat.lt_of_lt_of_le l h1.size⟩),(fun _=>⟨_,rfl,by rw [World.size_alloc]<;>omega⟩),d01,(fun h _ q=>by obtain ⟨b,e,l⟩:=b0 h;have q2:vals 13=Value.pointer (some ⟨x.heap.size,0,none⟩):=q;rw [e] at q2;simp at q2<;>omega),(fun h _ q=>by obtain ⟨b,e,l⟩:=b1 h;have q2:vals 14=Value.pointer (some ⟨x.heap.size,0,none⟩):=q;rw [e] at q2;simp at q2<;>omega),(fun h=>by obtain ⟨f1,f2,b,cs,e1,e2,B⟩:=s0 h;exact ⟨f1,f2,b,cs,e1,e2,B.since h1⟩),(fun h=>by obtain ⟨f1,f2,b,cs,e1,e2,B⟩:=s1 h;exact ⟨f1,f2,b,cs,e1,e2,B.since h1⟩),(fun h=>absurd ((s2 h).1) (by rw [hf];decide)),ay0,ay1⟩,_,rfl,k0.size,Typed.new _ _ _ (cn_size _)⟩
    ·have h1:=(Since.refl x).alloc (.cells (cnCells cnZero) 50)
     refine does_w (.pointer (some ⟨x.heap.size,0,none⟩)) (x.alloc (.cells (cnCells cnZero) 50)) (by kernel_rfl) ?_
     exact ⟨KeepsT.of_since h1,⟨k0.trans h1,x0,x1,x2,x3,x4,(fun h=>by obtain ⟨b,e,l⟩:=b0 h;exact ⟨b,e,Nat.lt_of_lt_of_le l h1.size⟩),(fun _=>⟨_,rfl,by rw [World.size_alloc]<;>omega⟩),(fun h=>by obtain ⟨b,e,l⟩:=b2 h;exact ⟨b,e,Nat.lt_of_lt_of_le l h1.size⟩),(fun h _ q=>by obtain ⟨b,e,l⟩:=b0 h;have q2:vals 13=Value.pointer (some ⟨x.heap.size,0,none⟩):=q;rw [e] at q2;simp at q2<;>omega),d02,(fun _ h q=>by obtain ⟨b,e,l⟩:=b2 h;have q2:Value.pointer (some ⟨x.heap.size,0,none⟩)=vals 15:=q;rw [e] at q2;simp at q2<;>omega),(fun h=>by obtain ⟨f1,f2,b,cs,e1,e2,B⟩:=s0 h;exact ⟨f1,f2,b,cs,e1,e2,B.since h1⟩),(fun h=>absurd ((s1 h).1) (by rw [hf];decide)),(fun h=>by obtain ⟨f1,f2,b,cs,e1,e2,B⟩:=s2 h;exact ⟨f1,f2,b,cs,e1,e2,B.since h1⟩),ay0,ay1⟩,_,rfl,k0.size,Typed.new _ _ _ (cn_size _)⟩
    ·have h1:=(Since.refl x).alloc (.cells #[.int .i64 0,.string ByteArray.empty,.bool false,.int .i64 0,.int .i64 0,.string ByteArray.empty,.bool false,.int .i64 0] 42)
     refine does_w (.pointer (some ⟨x.heap.size,0,none⟩)) (x.alloc (.cells #[.int .i64 0,.string ByteArray.empty,.bool false,.int .i64 0,.int .i64 0,.string ByteArray.empty,.bool false,.int .i64 0] 42)) (by kernel_rfl) ?_
     exact ⟨KeepsT.of_since h1,⟨k0.trans h1,x0,x1,x2,x3,x4,(fun _=>⟨_,rfl,by rw [World.size_alloc]<;>omega⟩),(fun h=>by obtain ⟨b,e,l⟩:=b1 h;exact ⟨b,e,Nat.lt_of_lt_of_le l h1.size⟩),(fun h=>by obtain ⟨b,e,l⟩:=b2 h;exact ⟨b,e,Nat.lt_of_lt_of_le l h1.size⟩),(fun _ h q=>by obtain ⟨b,e,l⟩:=b1 h;have q2:Value.pointer (some ⟨x.heap.size,0,none⟩)=vals 14:=q;rw [e] at q2;simp at q2<;>omega),(fun _ h q=>by obtain ⟨b,e,l⟩:=b2 h;have q2:Value.pointer (some ⟨x.heap.size,0,none⟩)=vals 15:=q;rw [e] at q2;simp at q2<;>omega),d12,(fun h=>absurd ((s0 h).1) (by rw [hf];decide)),(fun h=>by obtain ⟨f1,f2,b,cs,e1,e2,B⟩:=s1 h;exact ⟨f1,f2,b,cs,e1,e2,B.since h1⟩),(fun h=>by obtain ⟨f1,f2,b,cs,e1,e2,B⟩:=s2 h;exact ⟨f1,f2,b,cs,e1,e2,B.since h1⟩),ay0,ay1⟩,_,rfl,k0.size,Typed.new _ _ _ rfl⟩
    ·obtain ⟨f7,g3,cp3,gg3,cpp3,ga3,ca3,gb3,cb3,e7,-⟩:=hr ⟨7,.data⟩ (by simp) rfl
     replace e7:vals 7=.tuple #[.agg #[.int .i64 rm0,.string xD,.bool xE,.int .i64 xN,.int .i64 rn0,.string yD,.bool yE,.int .i64 yN],.agg (cnCells {DF with pa:=some ⟨g3,0,none⟩,pc:=cp3}),.agg (cnCells {DT with pa:=some ⟨gg3,0,none⟩,pc:=cpp3}),.slice (some ⟨ga3,0,none⟩) na ca3,.slice (some ⟨gb3,0,none⟩) nb cb3]:=e7
     refine does_v (.slice (some ⟨gb3,0,none⟩) nb cb3) ?_ ?_
     ·simp [execOp,go_sem,e7]
     exact ⟨KeepsT.of_since (Since.refl _),⟨k0,x0,x1,x2,x3,(fun _=>⟨f7,fun a0 a1 a2 a3 a4 h=>by replace h:vals 7=.tuple #[a0,a1,a2,a3,a4]:=h;rw [e7] at h;exact Option.some.inj (congrArg (fun q:Array Value=>q[4]?) (Value.tuple.inj h))⟩),b0,b1,b2,d01,d02,d12,s0,s1,s2,ay0,ay1⟩,trivial⟩
    ·obtain ⟨f7,g3,cp3,gg3,cpp3,ga3,ca3,gb3,cb3,e7,-⟩:=hr ⟨7,.data⟩ (by simp) rfl
     replace e7:vals 7=.tuple #[.agg #[.int .i64 rm0,.string xD,.bool xE,.int .i64 xN,.int .i64 rn0,.string yD,.bool yE,.int .i64 yN],.agg (cnCells {DF with pa:=some ⟨g3,0,none⟩,pc:=cp3}),.agg (cnCells {DT with pa:=some ⟨gg3,0,none⟩,pc:=cpp3}),.slice (some ⟨ga3,0,none⟩) na ca3,.slice (some ⟨gb3,0,none⟩) nb cb3]:=e7
     refine does_v (.slice (some ⟨ga3,0,none⟩) na ca3) ?_ ?_
     ·simp [execOp,go_sem,e7]
     exact ⟨KeepsT.of_since (Since.refl _),⟨k0,x0,x1,x2,(fun _=>⟨f7,fun a0 a1 a2 a3 a4 h=>by replace h:vals 7=.tuple #[a0,a1,a2,a3,a4]:=h;rw [e7] at h;exact Option.some.inj (congrArg (fun q:Array Value=>q[3]?) (Value.tuple.inj h))⟩),x4,b0,b1,b2,d01,d02,d12,s0,s1,s2,ay0,ay1⟩,trivial⟩
    ·obtain ⟨f7,g3,cp3,gg3,cpp3,ga3,ca3,gb3,cb3,e7,-⟩:=hr ⟨7,.data⟩ (by simp) rfl
     replace e7:vals 7=.tuple #[.agg #[.int .i64 rm0,.string xD,.bool xE,.int .i64 xN,.int .i64 rn0,.string yD,.bool yE,.int .i64 yN],.agg (cnCells {DF with pa:=some ⟨g3,0,none⟩,pc:=cp3}),.agg (cnCells {DT with pa:=some ⟨gg3,0,none⟩,pc:=cpp3}),.slice (some ⟨ga3,0,none⟩) na ca3,.slice (some ⟨gb3,0,none⟩) nb cb3]:=e7
     refine does_v (.agg (cnCells {DT with pa:=some ⟨gg3,0,none⟩,pc:=cpp3})) ?_ ?_
     ·simp [execOp,go_sem,e7]
     exact ⟨KeepsT.of_since (Since.refl _),⟨k0,x0,x1,(fun _=>⟨f7,fun a0 a1 a2 a3 a4 h=>by replace h:vals 7=.tuple #[a0,a1,a2,a3,a4]:=h;rw [e7] at h;exact Option.some.inj (congrArg (fun q:Array Value=>q[2]?) (Value.tuple.inj h))⟩),x3,x4,b0,b1,b2,d01,d02,d12,s0,s1,(fun h=>absurd ((s2 h).2.1) (by rw [hf];decide)),ay0,ay1⟩,trivial⟩
    ·obtain ⟨f7,g3,cp3,gg3,cpp3,ga3,ca3,gb3,cb3,e7,-⟩:=hr ⟨7,.data⟩ (by simp) rfl
     replace e7:vals 7=.tuple #[.agg #[.int .i64 rm0,.string xD,.bool xE,.int .i64 xN,.int .i64 rn0,.string yD,.bool yE,.int .i64 yN],.agg (cnCells {DF with pa:=some ⟨g3,0,none⟩,pc:=cp3}),.agg (cnCells {DT with pa:=some ⟨gg3,0,none⟩,pc:=cpp3}),.slice (some ⟨ga3,0,none⟩) na ca3,.slice (some ⟨gb3,0,none⟩) nb cb3]:=e7
     refine does_v (.agg (cnCells {DF with pa:=some ⟨g3,0,none⟩,pc:=cp3})) ?_ ?_
     ·simp [execOp,go_sem,e7]
     exact ⟨KeepsT.of_since (Since.refl _),⟨k0,x0,(fun _=>⟨f7,fun a0 a1 a2 a3 a4 h=>by replace h:vals 7=.tuple #[a0,a1,a2,a3,a4]:=h;rw [e7] at h;exact Option.some.inj (congrArg (fun q:Array Value=>q[1]?) (Value.tuple.inj h))⟩),x2,x3,x4,b0,b1,b2,d01,d02,d12,s0,(fun h=>absurd ((s1 h).2.1) (by rw [hf];decide)),s2,ay0,ay1⟩,trivial⟩
    ·obtain ⟨f7,g3,cp3,gg3,cpp3,ga3,ca3,gb3,cb3,e7,-⟩:=hr ⟨7,.data⟩ (by simp) rfl
     replace e7:vals 7=.tuple #[.agg #[.int .i64 rm0,.string xD,.bool xE,.int .i64 xN,.int .i64 rn0,.string yD,.bool yE,.int .i64 yN],.agg (cnCells {DF with pa:=some ⟨g3,0,none⟩,pc:=cp3}),.agg (cnCells {DT with pa:=some ⟨gg3,0,none⟩,pc:=cpp3}),.slice (some ⟨ga3,0,none⟩) na ca3,.slice (some ⟨gb3,0,none⟩) nb cb3]:=e7
     refine does_v (.agg #[.int .i64 rm0,.string xD,.bool xE,.int .i64 xN,.int .i64 rn0,.string yD,.bool yE,.int .i64 yN]) ?_ ?_
     ·simp [execOp,go_sem,e7]
     exact ⟨KeepsT.of_since (Since.refl _),⟨k0,(fun _=>⟨f7,fun a0 a1 a2 a3 a4 h=>by replace h:vals 7=.tuple #[a0,a1,a2,a3,a4]:=h;rw [e7] at h;exact Option.some.inj (congrArg (fun q:Array Value=>q[0]?) (Value.tuple.inj h))⟩),x1,x2,x3,x4,b0,b1,b2,d01,d02,d12,(fun h=>absurd ((s0 h).2.1) (by rw [hf];decide)),s1,s2,ay0,ay1⟩,trivial⟩
    ·obtain ⟨f6,g3,cp3,gg3,cpp3,ga3,ca3,gb3,cb3,e6,h6⟩:=hr ⟨6,.data⟩ (by simp) rfl
     refine does_v (.tuple #[.agg #[.int .i64 rm0,.string xD,.bool xE,.int .i64 xN,.int .i64 rn0,.string yD,.bool yE,.int .i64 yN],.agg (cnCells {DF with pa:=some ⟨g3,0,none⟩,pc:=cp3}),.agg (cnCells {DT with pa:=some ⟨gg3,0,none⟩,pc:=cpp3}),.slice (some ⟨ga3,0,none⟩) na ca3,.slice (some ⟨gb3,0,none⟩) nb cb3]) ?_ ?_
     ·simp [execOp,go_sem,e6]
     exact ⟨KeepsT.of_since (Since.refl _),⟨k0,(fun h=>absurd ((x0 h).1) (by rw [hf];decide)),(fun h=>absurd ((x1 h).1) (by rw [hf];decide)),(fun h=>absurd ((x2 h).1) (by rw [hf];decide)),(fun h=>absurd ((x3 h).1) (by rw [hf];decide)),(fun h=>absurd ((x4 h).1) (by rw [hf];decide)),b0,b1,b2,d01,d02,d12,s0,s1,s2,(fun h=>absurd ((ay0 h).1) (by rw [hf];decide)),(fun h=>absurd ((ay1 h).1) (by rw [hf];decide))⟩,g3,cp3,gg3,cpp3,ga3,ca3,gb3,cb3,rfl,h6⟩
    ·have e1:vals 1=.agg #[.int .i64 rm0,.string d0,.bool e0,.int .i64 n0,.int .i64 rn0,.string f0,.bool g0,.int .i64 m0]:=(hr ⟨1,.data⟩ (by simp) rfl).2
     obtain ⟨-,q,e3,H3⟩:=hr ⟨3,.data⟩ (by simp) rfl
     obtain ⟨-,q2,e5,H5⟩:=hr ⟨5,.data⟩ (by simp) rfl
     refine does_c #[vals 1,vals 3,vals 5] (hi q q2 _ H3.reads H5.reads) (by rw [e1,e3,e5]) ?_
     rintro _ x' ⟨g3,cp3,gg3,cpp3,ga3,ca3,gb3,cb3,rfl,H3,K3,La3,Lb3,hne3,h1⟩
     exact ⟨_,rfl,KeepsT.of_since h1,⟨k0.trans h1,x0,x1,x2,x3,x4,(fun h=>by obtain ⟨b,e,l⟩:=b0 h;exact ⟨b,e,Nat.lt_of_lt_of_le l h1.size⟩),(fun h=>by obtain ⟨b,e,l⟩:=b1 h;exact ⟨b,e,Nat.lt_of_lt_of_le l h1.size⟩),(fun h=>by obtain ⟨b,e,l⟩:=b2 h;exact ⟨b,e,Nat.lt_of_lt_of_le l h1.size⟩),d01,d02,d12,(fun h=>by obtain ⟨f1,f2,b,cs,e1,e2,B⟩:=s0 h;exact ⟨f1,f2,b,cs,e1,e2,B.since h1⟩),(fun h=>by obtain ⟨f1,f2,b,cs,e1,e2,B⟩:=s1 h;exact ⟨f1,f2,b,cs,e1,e2,B.since h1⟩),(fun h=>by obtain ⟨f1,f2,b,cs,e1,e2,B⟩:=s2 h;exact ⟨f1,f2,b,cs,e1,e2,B.since h1⟩),ay0,ay1⟩,g3,cp3,gg3,cpp3,ga3,ca3,gb3,cb3,rfl,H3.raise (by have:=H3.low';have:=k0.size;omega),K3.raise (by have:=K3.low';have:=k0.size;omega),La3.raise (by have:=La3.low';have:=k0.size;omega),Lb3.raise (by have:=Lb3.low';have:=k0.size;omega),hne3⟩
    ·have e4:vals 4=.agg (cnCells c2):=(hr ⟨4,.data⟩ (by simp) rfl).2
     refine does_c #[vals 4] (hT2 _ (R2.since (G.trans k0))) (by rw [e4]) ?_
     rintro _ x' ⟨q,rfl,H,h1⟩
     exact ⟨_,rfl,KeepsT.of_since h1,⟨k0.trans h1,x0,x1,x2,x3,x4,(fun h=>by obtain ⟨b,e,l⟩:=b0 h;exact ⟨b,e,Nat.lt_of_lt_of_le l h1.size⟩),(fun h=>by obtain ⟨b,e,l⟩:=b1 h;exact ⟨b,e,Nat.lt_of_lt_of_le l h1.size⟩),(fun h=>by obtain ⟨b,e,l⟩:=b2 h;exact ⟨b,e,Nat.lt_of_lt_of_le l h1.size⟩),d01,d02,d12,(fun h=>by obtain ⟨f1,f2,b,cs,e1,e2,B⟩:=s0 h;exact ⟨f1,f2,b,cs,e1,e2,B.since h1⟩),(fun h=>by obtain ⟨f1,f2,b,cs,e1,e2,B⟩:=s1 h;exact ⟨f1,f2,b,cs,e1,e2,B.since h1⟩),(fun h=>by obtain ⟨f1,f2,b,cs,e1,e2,B⟩:=s2 h;exact ⟨f1,f2,b,cs,e1,e2,B.since h1⟩),ay0,ay1⟩,q,rfl,H.raise (by have:=H.low';have:=k0.size;omega)⟩
    ·exact does_load lcn_big (cn_size _) (qB8.since k0) _ rfl rfl ⟨KeepsT.of_since (Since.refl _),⟨k0,x0,x1,x2,x3,x4,b0,b1,b2,d01,d02,d12,s0,s1,s2,ay0,ay1⟩,rfl⟩
    ·have e2:vals 2=.agg (cnCells c1):=(hr ⟨2,.data⟩ (by simp) rfl).2
     refine does_c #[vals 2] (hT1 _ (R1.since (G.trans k0))) (by rw [e2]) ?_
     rintro _ x' ⟨q,rfl,H,h1⟩
     exact ⟨_,rfl,KeepsT.of_since h1,⟨k0.trans h1,x0,x1,x2,x3,x4,(fun h=>by obtain ⟨b,e,l⟩:=b0 h;exact ⟨b,e,Nat.lt_of_lt_of_le l h1.size⟩),(fun h=>by obtain ⟨b,e,l⟩:=b1 h;exact ⟨b,e,Nat.lt_of_lt_of_le l h1.size⟩),(fun h=>by obtain ⟨b,e,l⟩:=b2 h;exact ⟨b,e,Nat.lt_of_lt_of_le l h1.size⟩),d01,d02,d12,(fun h=>by obtain ⟨f1,f2,b,cs,e1,e2,B⟩:=s0 h;exact ⟨f1,f2,b,cs,e1,e2,B.since h1⟩),(fun h=>by obtain ⟨f1,f2,b,cs,e1,e2,B⟩:=s1 h;exact ⟨f1,f2,b,cs,e1,e2,B.since h1⟩),(fun h=>by obtain ⟨f1,f2,b,cs,e1,e2,B⟩:=s2 h;exact ⟨f1,f2,b,cs,e1,e2,B.since h1⟩),ay0,ay1⟩,q,rfl,H.raise (by have:=H.low';have:=k0.size;omega)⟩
    ·exact does_load lcn_big (cn_size _) (qB5.since k0) _ rfl rfl ⟨KeepsT.of_since (Since.refl _),⟨k0,x0,x1,x2,x3,x4,b0,b1,b2,d01,d02,d12,s0,s1,s2,ay0,ay1⟩,rfl⟩
    ·have e0:vals 0=.agg #[.int .i64 rm0,.string d0,.bool e0,.int .i64 n0,.int .i64 rn0,.string f0,.bool g0,.int .i64 m0]:=(hr ⟨0,.data⟩ (by simp) rfl).2
     refine does_c #[vals 0] (hto _) (by rw [e0]) ?_
     rintro _ x' ⟨rfl,h1⟩
     exact ⟨_,rfl,KeepsT.of_since h1,⟨k0.trans h1,x0,x1,x2,x3,x4,(fun h=>by obtain ⟨b,e,l⟩:=b0 h;exact ⟨b,e,Nat.lt_of_lt_of_le l h1.size⟩),(fun h=>by obtain ⟨b,e,l⟩:=b1 h;exact ⟨b,e,Nat.lt_of_lt_of_le l h1.size⟩),(fun h=>by obtain ⟨b,e,l⟩:=b2 h;exact ⟨b,e,Nat.lt_of_lt_of_le l h1.size⟩),d01,d02,d12,(fun h=>by obtain ⟨f1,f2,b,cs,e1,e2,B⟩:=s0 h;exact ⟨f1,f2,b,cs,e1,e2,B.since h1⟩),(fun h=>by obtain ⟨f1,f2,b,cs,e1,e2,B⟩:=s1 h;exact ⟨f1,f2,b,cs,e1,e2,B.since h1⟩),(fun h=>by obtain ⟨f1,f2,b,cs,e1,e2,B⟩:=s2 h;exact ⟨f1,f2,b,cs,e1,e2,B.since h1⟩),ay0,ay1⟩,rfl⟩
    ·exact does_load lrl_big rfl (qB2.since k0) _ rfl rfl ⟨KeepsT.of_since (Since.refl _),⟨k0,x0,x1,x2,x3,x4,b0,b1,b2,d01,d02,d12,s0,s1,s2,ay0,ay1⟩,rfl⟩
   intro f qv137 qw136 hK hf hv
   obtain ⟨k0,x0,x1,x2,x3,x4,b0,b1,b2,d01,d02,d12,s0,s1,s2,ay0,ay1⟩:=hK
   have hv0:qv137 0=_:=hv 0 (by decide)
   have hv1:qv137 1=_:=hv 1 (by decide)
   have hv2:qv137 2=_:=hv 2 (by decide)
   obtain ⟨qf3r46,hv3,-⟩:=hv 3 (by decide)
   have hv4:qv137 4=_:=hv 4 (by decide)
   obtain ⟨qf5r46,hv5,-⟩:=hv 5 (by decide)
   obtain ⟨g3c,cp3c,gg3c,cpp3c,ga3c,ca3c,gb3c,cb3c,hv6,-⟩:=hv 6 (by decide)
   obtain ⟨g3,cp3,gg3,cpp3,ga3,ca3,gb3,cb3,hv7,H3,K3,La3,Lb3,hne3⟩:=hv 7 (by decide)
   have hv8:=(x0 (hf 8 (by decide))).2 _ _ _ _ _ hv7
   have hv9:=(x1 (hf 9 (by decide))).2 _ _ _ _ _ hv7
   have hv10:=(x2 (hf 10 (by decide))).2 _ _ _ _ _ hv7
   have hv11:=(x3 (hf 11 (by decide))).2 _ _ _ _ _ hv7
   have hv12:=(x4 (hf 12 (by decide))).2 _ _ _ _ _ hv7
   have hv19:=(ay0 (hf 19 (by decide))).2 _ _ _ _ _ hv7
   have hv20:=(ay1 (hf 20 (by decide))).2 _ _ _ _ _ hv7
   obtain ⟨-,-,qx138,cs0,hv13,ec,qB141⟩:=s0 (hf 16 (by decide))
   rw [hv8] at ec
   obtain rfl:=Value.agg.inj ec
   clear ec
   obtain ⟨bb,eb,lb,tb⟩:=hv 13 (by decide)
   rw [hv13] at eb
   obtain rfl:qx138=bb:=by simpa using eb
   have H3_qx138:=typed_ne H3 tb (by decide)
   have K3_qx138:=typed_ne K3 tb (by decide)
   have La3_qx138:=typed_neG La3 tb (by decide)
   have Lb3_qx138:=typed_neG Lb3 tb (by decide)
   have qx138_b:=lb
   clear eb lb tb
   have qB141_l:=qB141.lt
   obtain ⟨-,-,qx139,cs1,hv14,ec,qB142⟩:=s1 (hf 17 (by decide))
   rw [hv9] at ec
   obtain rfl:=Value.agg.inj ec
   clear ec
   obtain ⟨bb,eb,lb,tb⟩:=hv 14 (by decide)
   rw [hv14] at eb
   obtain rfl:qx139=bb:=by simpa using eb
   have H3_qx139:=typed_ne H3 tb (by decide)
   have K3_qx139:=typed_ne K3 tb (by decide)
   have La3_qx139:=typed_neG La3 tb (by decide)
   have Lb3_qx139:=typed_neG Lb3 tb (by decide)
   have qx139_b:=lb
   clear eb lb tb
   have qB142_l:=qB142.lt
   obtain ⟨-,-,qx140,cs2,hv15,ec,qB143⟩:=s2 (hf 18 (by decide))
   rw [hv10] at ec
   obtain rfl:=Value.agg.inj ec
   clear ec
   obtain ⟨bb,eb,lb,tb⟩:=hv 15 (by decide)
   rw [hv15] at eb
   obtain rfl:qx140=bb:=by simpa using eb
   have H3_qx140:=typed_ne H3 tb (by decide)
   have K3_qx140:=typed_ne K3 tb (by decide)
   have La3_qx140:=typed_neG La3 tb (by decide)
   have Lb3_qx140:=typed_neG Lb3 tb (by decide)
   have qx140_b:=lb
   clear eb lb tb
   have qB143_l:=qB143.lt
   have qx138_qx139:qx138≠qx139:=fun q=>d01 (hf 13 (by decide)) (hf 14 (by decide)) (by rw [hv13,hv14,q])
   have qx138_qx140:qx138≠qx140:=fun q=>d02 (hf 13 (by decide)) (hf 15 (by decide)) (by rw [hv13,hv15,q])
   have qx139_qx140:qx139≠qx140:=fun q=>d12 (hf 14 (by decide)) (hf 15 (by decide)) (by rw [hv14,hv15,q])
   clear hv x0 x1 x2 x3 x4 b0 b1 b2 d01 d02 d12 s0 s1 s2 ay0 ay1
   simp only [hv0,hv1,hv2,hv3,hv4,hv5,hv6,hv7,hv8,hv9,hv10,hv11,hv12,hv19,hv20,hv13,hv14,hv15]
   clear hv0 hv1 hv2 hv3 hv4 hv5 hv6 hv7 hv8 hv9 hv10 hv11 hv12 hv19 hv20 hv13 hv14 hv15
   replace qB2:=qB2.since k0
   replace qB5:=qB5.since k0
   replace qB8:=qB8.since k0
   replace qB23:=qB23.since k0
   replace qB24:=qB24.since k0
   replace qB25:=qB25.since k0
   replace qB41:=qB41.since k0
   replace qB50:=qB50.since k0
   replace qB57:=qB57.since k0
   replace qB58:=qB58.since k0
   replace qB59:=qB59.since k0
   replace H1:=H1.since k0
   replace K1:=K1.since k0
   replace La1:=La1.since k0
   replace Lb1:=Lb1.since k0
   replace X1:=X1.since k0
   replace X2:=X2.since k0
   replace H2:=H2.since k0
   replace K2:=K2.since k0
   replace La2:=La2.since k0
   replace Lb2:=Lb2.since k0
   replace G:=G.trans k0
   have qw136_s:=k0.size
   clear k0
   have H3_0:=H3.low'
   replace H3:=H3.raise (show w.heap.size≤g3 by omega)
   have H3_1:=H3.lt
   have H3_p:Held shP qw136 w.heap.size g3 DF.pn cp3 p1:=by rw [hDF.out];exact H3
   clear H3
   have H3:=H3_p
   clear H3_p
   have K3_0:=K3.low'
   replace K3:=K3.raise (show w.heap.size≤gg3 by omega)
   have K3_1:=K3.lt
   have K3_p:Held shP qw136 w.heap.size gg3 DT.pn cpp3 p2:=by rw [hDT.out];exact K3
   clear K3
   have K3:=K3_p
   clear K3_p
   have La3_0:=La3.low'
   replace La3:=La3.raise (show w.heap.size≤ga3 by omega)
   have La3_1:=La3.lt
   have Lb3_0:=Lb3.low'
   replace Lb3:=Lb3.raise (show w.heap.size≤gb3 by omega)
   have Lb3_1:=Lb3.lt
   generalize (.tuple #[.agg #[.int .i64 rm0,.string xD,.bool xE,.int .i64 xN,.int .i64 rn0,.string yD,.bool yE,.int .i64 yN],.agg (cnCells {DF with pa:=some ⟨g3,0,none⟩,pc:=cp3}),.agg (cnCells {DT with pa:=some ⟨gg3,0,none⟩,pc:=cpp3}),.slice (some ⟨ga3,0,none⟩) na ca3,.slice (some ⟨gb3,0,none⟩) nb cb3]:Value)=qz144
   generalize (.agg #[.int .i64 rm0,.string d0,.bool e0,.int .i64 n0,.int .i64 rn0,.string f0,.bool g0,.int .i64 m0]:Value)=qz145
   generalize (.agg (cnCells {c1 with pa:=some ⟨qf3r46,0,none⟩,pc:=c1.pn}):Value)=qz146
   generalize (.agg (cnCells {c2 with pa:=some ⟨qf5r46,0,none⟩,pc:=c2.pn}):Value)=qz147
   generalize (.tuple #[.agg #[.int .i64 rm0,.string xD,.bool xE,.int .i64 xN,.int .i64 rn0,.string yD,.bool yE,.int .i64 yN],.agg (cnCells {DF with pa:=some ⟨g3c,0,none⟩,pc:=cp3c}),.agg (cnCells {DT with pa:=some ⟨gg3c,0,none⟩,pc:=cpp3c}),.slice (some ⟨ga3c,0,none⟩) na ca3c,.slice (some ⟨gb3c,0,none⟩) nb cb3c]:Value)=qz148
   generalize (.agg #[.int .i64 rm0,.string xD,.bool xE,.int .i64 xN,.int .i64 rn0,.string yD,.bool yE,.int .i64 yN]:Value)=qz149
   generalize (.agg (cnCells {DF with pa:=some ⟨g3,0,none⟩,pc:=cp3}):Value)=qz150
   generalize (.agg (cnCells {DT with pa:=some ⟨gg3,0,none⟩,pc:=cpp3}):Value)=qz151
   obtain ⟨hne3p,hne3q⟩:=hne3
   go_upto_region 47 with (fail)
   refine vR ?_
   refine vB rl_big qB141 rfl ?_
   refine vB rl_big qB23 rfl ?_
   refine vK (he _) ?_
   intro qw152 qg153
   replace qB2:=qB2.since qg153
   replace qB5:=qB5.since qg153
   replace qB8:=qB8.since qg153
   replace qB23:=qB23.since qg153
   replace qB24:=qB24.since qg153
   replace qB25:=qB25.since qg153
   replace qB41:=qB41.since qg153
   replace qB50:=qB50.since qg153
   replace qB57:=qB57.since qg153
   replace qB58:=qB58.since qg153
   replace qB59:=qB59.since qg153
   replace qB141:=qB141.since qg153
   replace qB142:=qB142.since qg153
   replace qB143:=qB143.since qg153
   replace H1:=H1.since qg153
   replace K1:=K1.since qg153
   replace La1:=La1.since qg153
   replace Lb1:=Lb1.since qg153
   replace X1:=X1.since qg153
   replace X2:=X2.since qg153
   replace H2:=H2.since qg153
   replace K2:=K2.since qg153
   replace La2:=La2.since qg153
   replace Lb2:=Lb2.since qg153
   replace H3:=H3.since qg153
   replace K3:=K3.since qg153
   replace La3:=La3.since qg153
   replace Lb3:=Lb3.since qg153
   replace G:=G.trans qg153
   have qg153_s:=qg153.size
   refine vV (.bool false) ?_
   refine vV (.bool false) ?_
   refine vB cn_big qB142 (cn_size _) ?_
   refine vB cn_big qB24 (cn_size _) ?_
   refine vK (kF _ _ _ _ _ _ _ H3 H1) ?_
   intro qw154 qg155
   replace qB2:=qB2.since qg155
   replace qB5:=qB5.since qg155
   replace qB8:=qB8.since qg155
   replace qB23:=qB23.since qg155
   replace qB24:=qB24.since qg155
   replace qB25:=qB25.since qg155
   replace qB41:=qB41.since qg155
   replace qB50:=qB50.since qg155
   replace qB57:=qB57.since qg155
   replace qB58:=qB58.since qg155
   replace qB59:=qB59.since qg155
   replace qB141:=qB141.since qg155
   replace qB142:=qB142.since qg155
   replace qB143:=qB143.since qg155
   replace H1:=H1.since qg155
   replace K1:=K1.since qg155
   replace La1:=La1.since qg155
   replace Lb1:=Lb1.since qg155
   replace X1:=X1.since qg155
   replace X2:=X2.since qg155
   replace H2:=H2.since qg155
   replace K2:=K2.since qg155
   replace La2:=La2.since qg155
   replace Lb2:=Lb2.since qg155
   replace H3:=H3.since qg155
   replace K3:=K3.since qg155
   replace La3:=La3.since qg155
   replace Lb3:=Lb3.since qg155
   replace G:=G.trans qg155
   have qg155_s:=qg155.size
   refine vV (.bool false) ?_
   refine vV (.bool false) ?_
   refine vV (.bool false) ?_
   refine vB cn_big qB143 (cn_size _) ?_
   refine vB cn_big qB25 (cn_size _) ?_
   refine vK (kT _ _ _ _ _ _ _ K3 K1) ?_
   intro qw156 qg157
   replace qB2:=qB2.since qg157
   replace qB5:=qB5.since qg157
   replace qB8:=qB8.since qg157
   replace qB23:=qB23.since qg157
   replace qB24:=qB24.since qg157
   replace qB25:=qB25.since qg157
   replace qB41:=qB41.since qg157
   replace qB50:=qB50.since qg157
   replace qB57:=qB57.since qg157
   replace qB58:=qB58.since qg157
   replace qB59:=qB59.since qg157
   replace qB141:=qB141.since qg157
   replace qB142:=qB142.since qg157
   replace qB143:=qB143.since qg157
   replace H1:=H1.since qg157
   replace K1:=K1.since qg157
   replace La1:=La1.since qg157
   replace Lb1:=Lb1.since qg157
   replace X1:=X1.since qg157
   replace X2:=X2.since qg157
   replace H2:=H2.since qg157
   replace K2:=K2.since qg157
   replace La2:=La2.since qg157
   replace Lb2:=Lb2.since qg157
   replace H3:=H3.since qg157
   replace K3:=K3.since qg157
   replace La3:=La3.since qg157
   replace Lb3:=Lb3.since qg157
   replace G:=G.trans qg157
   have qg157_s:=qg157.size
   refine vV (.bool false) ?_
   refine vV (.bool false) ?_
   refine vV (.bool false) ?_
   refine vV (.slice (some ⟨ga3,0,none⟩) na ca3) ?_
   refine vV (.slice (some ⟨ga1,0,none⟩) na ca1) ?_
   refine vK (eqSegs _ _ _ _ na _ _ _ (by omega) _ La3 La1) ?_
   intro qw158 qg159
   replace qB2:=qB2.since qg159
   replace qB5:=qB5.since qg159
   replace qB8:=qB8.since qg159
   replace qB23:=qB23.since qg159
   replace qB24:=qB24.since qg159
   replace qB25:=qB25.since qg159
   replace qB41:=qB41.since qg159
   replace qB50:=qB50.since qg159
   replace qB57:=qB57.since qg159
   replace qB58:=qB58.since qg159
   replace qB59:=qB59.since qg159
   replace qB141:=qB141.since qg159
   replace qB142:=qB142.since qg159
   replace qB143:=qB143.since qg159
   replace H1:=H1.since qg159
   replace K1:=K1.since qg159
   replace La1:=La1.since qg159
   replace Lb1:=Lb1.since qg159
   replace X1:=X1.since qg159
   replace X2:=X2.since qg159
   replace H2:=H2.since qg159
   replace K2:=K2.since qg159
   replace La2:=La2.since qg159
   replace Lb2:=Lb2.since qg159
   replace H3:=H3.since qg159
   replace K3:=K3.since qg159
   replace La3:=La3.since qg159
   replace Lb3:=Lb3.since qg159
   replace G:=G.trans qg159
   have qg159_s:=qg159.size
   refine vV (.bool false) ?_
   refine vV (.bool false) ?_
   refine vV (.bool false) ?_
   refine vV (.slice (some ⟨gb3,0,none⟩) nb cb3) ?_
   refine vV (.slice (some ⟨gb1,0,none⟩) nb cb1) ?_
   refine vK (eqSegs _ _ _ _ nb _ _ _ (by omega) _ Lb3 Lb1) ?_
   intro qw160 qg161
   replace qB2:=qB2.since qg161
   replace qB5:=qB5.since qg161
   replace qB8:=qB8.since qg161
   replace qB23:=qB23.since qg161
   replace qB24:=qB24.since qg161
   replace qB25:=qB25.since qg161
   replace qB41:=qB41.since qg161
   replace qB50:=qB50.since qg161
   replace qB57:=qB57.since qg161
   replace qB58:=qB58.since qg161
   replace qB59:=qB59.since qg161
   replace qB141:=qB141.since qg161
   replace qB142:=qB142.since qg161
   replace qB143:=qB143.since qg161
   replace H1:=H1.since qg161
   replace K1:=K1.since qg161
   replace La1:=La1.since qg161
   replace Lb1:=Lb1.since qg161
   replace X1:=X1.since qg161
   replace X2:=X2.since qg161
   replace H2:=H2.since qg161
   replace K2:=K2.since qg161
   replace La2:=La2.since qg161
   replace Lb2:=Lb2.since qg161
   replace H3:=H3.since qg161
   replace K3:=K3.since qg161
   replace La3:=La3.since qg161
   replace Lb3:=Lb3.since qg161
   replace G:=G.trans qg161
   have qg161_s:=qg161.size
   refine vV (.bool false) ?_
   refine vV (.bool false) ?_
   refine vE #[qz10,.agg (cnCells c1),.agg (cnCells c2),pX w.heap.size 0,pX qw1.heap.size 0,pX qw4.heap.size 0,.bool false,.int .i64 r2,pX qx20 0,pX qx21 0,pX qx22 0,.slice (some ⟨ga1,0,none⟩) na ca1,.slice (some ⟨gb1,0,none⟩) nb cb1,pX qw34.heap.size 0,pX qw43.heap.size 0,pX qx54 0,pX qx55 0,pX qx56 0,.slice (some ⟨ga2,0,none⟩) na ca2,.slice (some ⟨gb2,0,none⟩) nb cb2,.int .i64 ((1+2*c1.pn)+2*c2.pn),.int .i64 ((((1+2*DF.pn)+2*DT.pn)+8*na)+8*nb),.int .i64 ((((1+2*DF.pn)+2*DT.pn)+8*na)+8*nb),pX qx138 0,pX qx139 0,pX qx140 0,.slice (some ⟨ga3,0,none⟩) na ca3,.slice (some ⟨gb3,0,none⟩) nb cb3,qz13,.int .i64 1048576,.int .i64 l0,.int .i64 l0,.bool (decide (l0<0)),.agg (cnCells c1),.int .i64 l0,.int .i64 r1,.int .i64 r1,.bool (decide (r1<0)),.agg (cnCells c2),.int .i64 r1,.int .i64 r2,.int .i64 r2,.bool (decide (r2<0)),qz26,qz27,qz27,.agg (cnCells c1),qz28,.agg (cnCells c2),qz29,qz30,qz31,qz32,qz33,.slice (some ⟨ga1,0,none⟩) na ca1,.slice (some ⟨gb1,0,none⟩) nb cb1,.agg (cnCells c1),qz42,.agg (cnCells c2),qz51,qz60,qz61,qz61,qz62,qz63,qz64,qz65,qz66,qz67,.slice (some ⟨ga2,0,none⟩) na ca2,.slice (some ⟨gb2,0,none⟩) nb cb2,qz78,qz78,.bool true,.bool false,.bool false,qz79,qz80,.bool true,.bool false,.bool false,.bool false,qz81,qz82,.bool true,.bool false,.bool false,.bool false,.slice (some ⟨ga2,0,none⟩) na ca2,.slice (some ⟨ga1,0,none⟩) na ca1,.bool true,.bool false,.bool false,.bool false,.slice (some ⟨gb2,0,none⟩) nb cb2,.slice (some ⟨gb1,0,none⟩) nb cb1,.bool true,.bool false,.bool false,qz87,.agg (cnCells c1),qz88,.bool true,.bool false,qz93,.agg (cnCells c2),qz94,.bool true,.bool false,qz97,.int .i64 1,.int .i64 (1+2*c1.pn),qz100,.int .i64 (1+2*c1.pn),.int .i64 ((1+2*c1.pn)+2*c2.pn),.int .i64 ((1+2*c1.pn)+2*c2.pn),.bool false,.bool false,qz111,qz111,.bool true,.bool false,.bool false,.bool false,qz112,qz113,.bool true,.bool false,.bool false,.bool false,qz114,qz115,.bool true,.bool false,.bool false,.bool false,.slice (some ⟨ga2,0,none⟩) na ca2,.slice (some ⟨ga1,0,none⟩) na ca1,.bool true,.bool false,.bool false,.bool false,.slice (some ⟨gb2,0,none⟩) nb cb2,.slice (some ⟨gb1,0,none⟩) nb cb1,.bool true,.bool false,.bool false,qz118,.int .i64 1,.int .i64 (1+2*DF.pn),qz121,.int .i64 (1+2*DF.pn),.int .i64 ((1+2*DF.pn)+2*DT.pn),.slice (some ⟨ga2,0,none⟩) na ca2,.int .i64 ((1+2*DF.pn)+2*DT.pn),.int .i64 (((1+2*DF.pn)+2*DT.pn)+8*na),.slice (some ⟨gb2,0,none⟩) nb cb2,.int .i64 (((1+2*DF.pn)+2*DT.pn)+8*na),.int .i64 ((((1+2*DF.pn)+2*DT.pn)+8*na)+8*nb),qz128,.int .i64 1,.int .i64 (1+2*DF.pn),.int .i64 (1+2*DF.pn),.bool (decide ((1+2*DF.pn)<0)),qz131,.int .i64 (1+2*DF.pn),.int .i64 ((1+2*DF.pn)+2*DT.pn),.int .i64 ((1+2*DF.pn)+2*DT.pn),.bool (decide (((1+2*DF.pn)+2*DT.pn)<0)),.slice (some ⟨ga2,0,none⟩) na ca2,.int .i64 ((1+2*DF.pn)+2*DT.pn),.int .i64 (((1+2*DF.pn)+2*DT.pn)+8*na),.int .i64 (((1+2*DF.pn)+2*DT.pn)+8*na),.bool (decide ((((1+2*DF.pn)+2*DT.pn)+8*na)<0)),.slice (some ⟨gb2,0,none⟩) nb cb2,.int .i64 (((1+2*DF.pn)+2*DT.pn)+8*na),.int .i64 ((((1+2*DF.pn)+2*DT.pn)+8*na)+8*nb),.int .i64 ((((1+2*DF.pn)+2*DT.pn)+8*na)+8*nb),.bool (decide (((((1+2*DF.pn)+2*DT.pn)+8*na)+8*nb)<0)),.int .i64 ((((1+2*DF.pn)+2*DT.pn)+8*na)+8*nb),.int .i64 ((((1+2*DF.pn)+2*DT.pn)+8*na)+8*nb),.bool false,qz144,qz145,qz145,.agg (cnCells c1),qz146,.agg (cnCells c2),qz147,qz148,qz149,qz150,qz151,.slice (some ⟨ga3,0,none⟩) na ca3,.slice (some ⟨gb3,0,none⟩) nb cb3,.agg #[.int .i64 rm0,.string xD,.bool xE,.int .i64 xN,.int .i64 rn0,.string yD,.bool yE,.int .i64 yN],.agg #[.int .i64 rm0,.string xD,.bool xE,.int .i64 xN,.int .i64 rn0,.string yD,.bool yE,.int .i64 yN],.bool true,.bool false,.bool false,.agg (cnCells {DF with pa:=some ⟨g3,0,none⟩,pc:=cp3}),.agg (cnCells {DF with pa:=some ⟨g1,0,none⟩,pc:=cp1}),.bool true,.bool false,.bool false,.bool false,.agg (cnCells {DT with pa:=some ⟨gg3,0,none⟩,pc:=cpp3}),.agg (cnCells {DT with pa:=some ⟨gg1,0,none⟩,pc:=cpp1}),.bool true,.bool false,.bool false,.bool false,.slice (some ⟨ga3,0,none⟩) na ca3,.slice (some ⟨ga1,0,none⟩) na ca1,.bool true,.bool false,.bool false,.bool false,.slice (some ⟨gb3,0,none⟩) nb cb3,.slice (some ⟨gb1,0,none⟩) nb cb1,.bool true,.bool false,.bool false,U,U,U,U,U,U,U,U,U,U,U,U,U,U,U,U,U,U,U,U,U,U,U] ?_
   generalize (.agg #[.int .i64 rm0,.string xD,.bool xE,.int .i64 xN,.int .i64 rn0,.string yD,.bool yE,.int .i64 yN]:Value)=qz162
   generalize (.agg (cnCells {DF with pa:=some ⟨g3,0,none⟩,pc:=cp3}):Value)=qz163
   generalize (.agg (cnCells {DF with pa:=some ⟨g1,0,none⟩,pc:=cp1}):Value)=qz164
   generalize (.agg (cnCells {DT with pa:=some ⟨gg3,0,none⟩,pc:=cpp3}):Value)=qz165
   generalize (.agg (cnCells {DT with pa:=some ⟨gg1,0,none⟩,pc:=cpp1}):Value)=qz166
   go_upto_region 50 with (fail)
   refine vR ?_
   refine vB cn_big qB58 (cn_size _) ?_
   refine vV (.int .i64 1) ?_
   refine vK (heldCn DF g2 _ _ _ 1 (by omega) (by omega) _ H2 hM5) ?_
   intro qw167 qg168
   replace qB2:=qB2.since qg168
   replace qB5:=qB5.since qg168
   replace qB8:=qB8.since qg168
   replace qB23:=qB23.since qg168
   replace qB24:=qB24.since qg168
   replace qB25:=qB25.since qg168
   replace qB41:=qB41.since qg168
   replace qB50:=qB50.since qg168
   replace qB57:=qB57.since qg168
   replace qB58:=qB58.since qg168
   replace qB59:=qB59.since qg168
   replace qB141:=qB141.since qg168
   replace qB142:=qB142.since qg168
   replace qB143:=qB143.since qg168
   replace H1:=H1.since qg168
   replace K1:=K1.since qg168
   replace La1:=La1.since qg168
   replace Lb1:=Lb1.since qg168
   replace X1:=X1.since qg168
   replace X2:=X2.since qg168
   replace H2:=H2.since qg168
   replace K2:=K2.since qg168
   replace La2:=La2.since qg168
   replace Lb2:=Lb2.since qg168
   replace H3:=H3.since qg168
   replace K3:=K3.since qg168
   replace La3:=La3.since qg168
   replace Lb3:=Lb3.since qg168
   replace G:=G.trans qg168
   have qg168_s:=qg168.size
   refine vV (.int .i64 (1+2*DF.pn)) ?_
   refine vE #[qz10,.agg (cnCells c1),.agg (cnCells c2),pX w.heap.size 0,pX qw1.heap.size 0,pX qw4.heap.size 0,.bool false,.int .i64 r2,pX qx20 0,pX qx21 0,pX qx22 0,.slice (some ⟨ga1,0,none⟩) na ca1,.slice (some ⟨gb1,0,none⟩) nb cb1,pX qw34.heap.size 0,pX qw43.heap.size 0,pX qx54 0,pX qx55 0,pX qx56 0,.slice (some ⟨ga2,0,none⟩) na ca2,.slice (some ⟨gb2,0,none⟩) nb cb2,.int .i64 ((1+2*c1.pn)+2*c2.pn),.int .i64 ((((1+2*DF.pn)+2*DT.pn)+8*na)+8*nb),.int .i64 (1+2*DF.pn),pX qx138 0,pX qx139 0,pX qx140 0,.slice (some ⟨ga3,0,none⟩) na ca3,.slice (some ⟨gb3,0,none⟩) nb cb3,qz13,.int .i64 1048576,.int .i64 l0,.int .i64 l0,.bool (decide (l0<0)),.agg (cnCells c1),.int .i64 l0,.int .i64 r1,.int .i64 r1,.bool (decide (r1<0)),.agg (cnCells c2),.int .i64 r1,.int .i64 r2,.int .i64 r2,.bool (decide (r2<0)),qz26,qz27,qz27,.agg (cnCells c1),qz28,.agg (cnCells c2),qz29,qz30,qz31,qz32,qz33,.slice (some ⟨ga1,0,none⟩) na ca1,.slice (some ⟨gb1,0,none⟩) nb cb1,.agg (cnCells c1),qz42,.agg (cnCells c2),qz51,qz60,qz61,qz61,qz62,qz63,qz64,qz65,qz66,qz67,.slice (some ⟨ga2,0,none⟩) na ca2,.slice (some ⟨gb2,0,none⟩) nb cb2,qz78,qz78,.bool true,.bool false,.bool false,qz79,qz80,.bool true,.bool false,.bool false,.bool false,qz81,qz82,.bool true,.bool false,.bool false,.bool false,.slice (some ⟨ga2,0,none⟩) na ca2,.slice (some ⟨ga1,0,none⟩) na ca1,.bool true,.bool false,.bool false,.bool false,.slice (some ⟨gb2,0,none⟩) nb cb2,.slice (some ⟨gb1,0,none⟩) nb cb1,.bool true,.bool false,.bool false,qz87,.agg (cnCells c1),qz88,.bool true,.bool false,qz93,.agg (cnCells c2),qz94,.bool true,.bool false,qz97,.int .i64 1,.int .i64 (1+2*c1.pn),qz100,.int .i64 (1+2*c1.pn),.int .i64 ((1+2*c1.pn)+2*c2.pn),.int .i64 ((1+2*c1.pn)+2*c2.pn),.bool false,.bool false,qz111,qz111,.bool true,.bool false,.bool false,.bool false,qz112,qz113,.bool true,.bool false,.bool false,.bool false,qz114,qz115,.bool true,.bool false,.bool false,.bool false,.slice (some ⟨ga2,0,none⟩) na ca2,.slice (some ⟨ga1,0,none⟩) na ca1,.bool true,.bool false,.bool false,.bool false,.slice (some ⟨gb2,0,none⟩) nb cb2,.slice (some ⟨gb1,0,none⟩) nb cb1,.bool true,.bool false,.bool false,qz118,.int .i64 1,.int .i64 (1+2*DF.pn),qz121,.int .i64 (1+2*DF.pn),.int .i64 ((1+2*DF.pn)+2*DT.pn),.slice (some ⟨ga2,0,none⟩) na ca2,.int .i64 ((1+2*DF.pn)+2*DT.pn),.int .i64 (((1+2*DF.pn)+2*DT.pn)+8*na),.slice (some ⟨gb2,0,none⟩) nb cb2,.int .i64 (((1+2*DF.pn)+2*DT.pn)+8*na),.int .i64 ((((1+2*DF.pn)+2*DT.pn)+8*na)+8*nb),qz128,.int .i64 1,.int .i64 (1+2*DF.pn),.int .i64 (1+2*DF.pn),.bool (decide ((1+2*DF.pn)<0)),qz131,.int .i64 (1+2*DF.pn),.int .i64 ((1+2*DF.pn)+2*DT.pn),.int .i64 ((1+2*DF.pn)+2*DT.pn),.bool (decide (((1+2*DF.pn)+2*DT.pn)<0)),.slice (some ⟨ga2,0,none⟩) na ca2,.int .i64 ((1+2*DF.pn)+2*DT.pn),.int .i64 (((1+2*DF.pn)+2*DT.pn)+8*na),.int .i64 (((1+2*DF.pn)+2*DT.pn)+8*na),.bool (decide ((((1+2*DF.pn)+2*DT.pn)+8*na)<0)),.slice (some ⟨gb2,0,none⟩) nb cb2,.int .i64 (((1+2*DF.pn)+2*DT.pn)+8*na),.int .i64 ((((1+2*DF.pn)+2*DT.pn)+8*na)+8*nb),.int .i64 ((((1+2*DF.pn)+2*DT.pn)+8*na)+8*nb),.bool (decide (((((1+2*DF.pn)+2*DT.pn)+8*na)+8*nb)<0)),.int .i64 ((((1+2*DF.pn)+2*DT.pn)+8*na)+8*nb),.int .i64 ((((1+2*DF.pn)+2*DT.pn)+8*na)+8*nb),.bool false,qz144,qz145,qz145,.agg (cnCells c1),qz146,.agg (cnCells c2),qz147,qz148,qz149,qz150,qz151,.slice (some ⟨ga3,0,none⟩) na ca3,.slice (some ⟨gb3,0,none⟩) nb cb3,qz162,qz162,.bool true,.bool false,.bool false,qz163,qz164,.bool true,.bool false,.bool false,.bool false,qz165,qz166,.bool true,.bool false,.bool false,.bool false,.slice (some ⟨ga3,0,none⟩) na ca3,.slice (some ⟨ga1,0,none⟩) na ca1,.bool true,.bool false,.bool false,.bool false,.slice (some ⟨gb3,0,none⟩) nb cb3,.slice (some ⟨gb1,0,none⟩) nb cb1,.bool true,.bool false,.bool false,.agg (cnCells {DF with pa:=some ⟨g2,0,none⟩,pc:=cp2}),.int .i64 1,.int .i64 (1+2*DF.pn),U,U,U,U,U,U,U,U,U,U,U,U,U,U,U,U,U,U,U,U] ?_
   generalize (.agg (cnCells {DF with pa:=some ⟨g2,0,none⟩,pc:=cp2}):Value)=qz169
   go_upto_region 53 with (fail)
   refine vR ?_
   refine vB cn_big qB59 (cn_size _) ?_
   refine vV (.int .i64 (1+2*DF.pn)) ?_
   refine vK (heldCn DT gg2 _ _ _ (1+2*DF.pn) (by omega) (by omega) _ K2 hM6) ?_
   intro qw170 qg171
   replace qB2:=qB2.since qg171
   replace qB5:=qB5.since qg171
   replace qB8:=qB8.since qg171
   replace qB23:=qB23.since qg171
   replace qB24:=qB24.since qg171
   replace qB25:=qB25.since qg171
   replace qB41:=qB41.since qg171
   replace qB50:=qB50.since qg171
   replace qB57:=qB57.since qg171
   replace qB58:=qB58.since qg171
   replace qB59:=qB59.since qg171
   replace qB141:=qB141.since qg171
   replace qB142:=qB142.since qg171
   replace qB143:=qB143.since qg171
   replace H1:=H1.since qg171
   replace K1:=K1.since qg171
   replace La1:=La1.since qg171
   replace Lb1:=Lb1.since qg171
   replace X1:=X1.since qg171
   replace X2:=X2.since qg171
   replace H2:=H2.since qg171
   replace K2:=K2.since qg171
   replace La2:=La2.since qg171
   replace Lb2:=Lb2.since qg171
   replace H3:=H3.since qg171
   replace K3:=K3.since qg171
   replace La3:=La3.since qg171
   replace Lb3:=Lb3.since qg171
   replace G:=G.trans qg171
   have qg171_s:=qg171.size
   refine vV (.int .i64 ((1+2*DF.pn)+2*DT.pn)) ?_
   refine vE #[qz10,.agg (cnCells c1),.agg (cnCells c2),pX w.heap.size 0,pX qw1.heap.size 0,pX qw4.heap.size 0,.bool false,.int .i64 r2,pX qx20 0,pX qx21 0,pX qx22 0,.slice (some ⟨ga1,0,none⟩) na ca1,.slice (some ⟨gb1,0,none⟩) nb cb1,pX qw34.heap.size 0,pX qw43.heap.size 0,pX qx54 0,pX qx55 0,pX qx56 0,.slice (some ⟨ga2,0,none⟩) na ca2,.slice (some ⟨gb2,0,none⟩) nb cb2,.int .i64 ((1+2*c1.pn)+2*c2.pn),.int .i64 ((((1+2*DF.pn)+2*DT.pn)+8*na)+8*nb),.int .i64 ((1+2*DF.pn)+2*DT.pn),pX qx138 0,pX qx139 0,pX qx140 0,.slice (some ⟨ga3,0,none⟩) na ca3,.slice (some ⟨gb3,0,none⟩) nb cb3,qz13,.int .i64 1048576,.int .i64 l0,.int .i64 l0,.bool (decide (l0<0)),.agg (cnCells c1),.int .i64 l0,.int .i64 r1,.int .i64 r1,.bool (decide (r1<0)),.agg (cnCells c2),.int .i64 r1,.int .i64 r2,.int .i64 r2,.bool (decide (r2<0)),qz26,qz27,qz27,.agg (cnCells c1),qz28,.agg (cnCells c2),qz29,qz30,qz31,qz32,qz33,.slice (some ⟨ga1,0,none⟩) na ca1,.slice (some ⟨gb1,0,none⟩) nb cb1,.agg (cnCells c1),qz42,.agg (cnCells c2),qz51,qz60,qz61,qz61,qz62,qz63,qz64,qz65,qz66,qz67,.slice (some ⟨ga2,0,none⟩) na ca2,.slice (some ⟨gb2,0,none⟩) nb cb2,qz78,qz78,.bool true,.bool false,.bool false,qz79,qz80,.bool true,.bool false,.bool false,.bool false,qz81,qz82,.bool true,.bool false,.bool false,.bool false,.slice (some ⟨ga2,0,none⟩) na ca2,.slice (some ⟨ga1,0,none⟩) na ca1,.bool true,.bool false,.bool false,.bool false,.slice (some ⟨gb2,0,none⟩) nb cb2,.slice (some ⟨gb1,0,none⟩) nb cb1,.bool true,.bool false,.bool false,qz87,.agg (cnCells c1),qz88,.bool true,.bool false,qz93,.agg (cnCells c2),qz94,.bool true,.bool false,qz97,.int .i64 1,.int .i64 (1+2*c1.pn),qz100,.int .i64 (1+2*c1.pn),.int .i64 ((1+2*c1.pn)+2*c2.pn),.int .i64 ((1+2*c1.pn)+2*c2.pn),.bool false,.bool false,qz111,qz111,.bool true,.bool false,.bool false,.bool false,qz112,qz113,.bool true,.bool false,.bool false,.bool false,qz114,qz115,.bool true,.bool false,.bool false,.bool false,.slice (some ⟨ga2,0,none⟩) na ca2,.slice (some ⟨ga1,0,none⟩) na ca1,.bool true,.bool false,.bool false,.bool false,.slice (some ⟨gb2,0,none⟩) nb cb2,.slice (some ⟨gb1,0,none⟩) nb cb1,.bool true,.bool false,.bool false,qz118,.int .i64 1,.int .i64 (1+2*DF.pn),qz121,.int .i64 (1+2*DF.pn),.int .i64 ((1+2*DF.pn)+2*DT.pn),.slice (some ⟨ga2,0,none⟩) na ca2,.int .i64 ((1+2*DF.pn)+2*DT.pn),.int .i64 (((1+2*DF.pn)+2*DT.pn)+8*na),.slice (some ⟨gb2,0,none⟩) nb cb2,.int .i64 (((1+2*DF.pn)+2*DT.pn)+8*na),.int .i64 ((((1+2*DF.pn)+2*DT.pn)+8*na)+8*nb),qz128,.int .i64 1,.int .i64 (1+2*DF.pn),.int .i64 (1+2*DF.pn),.bool (decide ((1+2*DF.pn)<0)),qz131,.int .i64 (1+2*DF.pn),.int .i64 ((1+2*DF.pn)+2*DT.pn),.int .i64 ((1+2*DF.pn)+2*DT.pn),.bool (decide (((1+2*DF.pn)+2*DT.pn)<0)),.slice (some ⟨ga2,0,none⟩) na ca2,.int .i64 ((1+2*DF.pn)+2*DT.pn),.int .i64 (((1+2*DF.pn)+2*DT.pn)+8*na),.int .i64 (((1+2*DF.pn)+2*DT.pn)+8*na),.bool (decide ((((1+2*DF.pn)+2*DT.pn)+8*na)<0)),.slice (some ⟨gb2,0,none⟩) nb cb2,.int .i64 (((1+2*DF.pn)+2*DT.pn)+8*na),.int .i64 ((((1+2*DF.pn)+2*DT.pn)+8*na)+8*nb),.int .i64 ((((1+2*DF.pn)+2*DT.pn)+8*na)+8*nb),.bool (decide (((((1+2*DF.pn)+2*DT.pn)+8*na)+8*nb)<0)),.int .i64 ((((1+2*DF.pn)+2*DT.pn)+8*na)+8*nb),.int .i64 ((((1+2*DF.pn)+2*DT.pn)+8*na)+8*nb),.bool false,qz144,qz145,qz145,.agg (cnCells c1),qz146,.agg (cnCells c2),qz147,qz148,qz149,qz150,qz151,.slice (some ⟨ga3,0,none⟩) na ca3,.slice (some ⟨gb3,0,none⟩) nb cb3,qz162,qz162,.bool true,.bool false,.bool false,qz163,qz164,.bool true,.bool false,.bool false,.bool false,qz165,qz166,.bool true,.bool false,.bool false,.bool false,.slice (some ⟨ga3,0,none⟩) na ca3,.slice (some ⟨ga1,0,none⟩) na ca1,.bool true,.bool false,.bool false,.bool false,.slice (some ⟨gb3,0,none⟩) nb cb3,.slice (some ⟨gb1,0,none⟩) nb cb1,.bool true,.bool false,.bool false,qz169,.int .i64 1,.int .i64 (1+2*DF.pn),.int .i64 (1+2*DF.pn),.bool (decide ((1+2*DF.pn)<0)),.agg (cnCells {DT with pa:=some ⟨gg2,0,none⟩,pc:=cpp2}),.int .i64 (1+2*DF.pn),.int .i64 ((1+2*DF.pn)+2*DT.pn),U,U,U,U,U,U,U,U,U,U,U,U,U,U,U] ?_
   generalize (.agg (cnCells {DT with pa:=some ⟨gg2,0,none⟩,pc:=cpp2}):Value)=qz172
   go_upto_region 56 with (fail)
   refine vR ?_
   refine vV (.slice (some ⟨ga2,0,none⟩) na ca2) ?_
   refine vV (.int .i64 ((1+2*DF.pn)+2*DT.pn)) ?_
   refine vK (heldSegs _ ga2 na _ _ ((1+2*DF.pn)+2*DT.pn) (by omega) (by omega) _ La2 hM7) ?_
   intro qw173 qg174
   replace qB2:=qB2.since qg174
   replace qB5:=qB5.since qg174
   replace qB8:=qB8.since qg174
   replace qB23:=qB23.since qg174
   replace qB24:=qB24.since qg174
   replace qB25:=qB25.since qg174
   replace qB41:=qB41.since qg174
   replace qB50:=qB50.since qg174
   replace qB57:=qB57.since qg174
   replace qB58:=qB58.since qg174
   replace qB59:=qB59.since qg174
   replace qB141:=qB141.since qg174
   replace qB142:=qB142.since qg174
   replace qB143:=qB143.since qg174
   replace H1:=H1.since qg174
   replace K1:=K1.since qg174
   replace La1:=La1.since qg174
   replace Lb1:=Lb1.since qg174
   replace X1:=X1.since qg174
   replace X2:=X2.since qg174
   replace H2:=H2.since qg174
   replace K2:=K2.since qg174
   replace La2:=La2.since qg174
   replace Lb2:=Lb2.since qg174
   replace H3:=H3.since qg174
   replace K3:=K3.since qg174
   replace La3:=La3.since qg174
   replace Lb3:=Lb3.since qg174
   replace G:=G.trans qg174
   have qg174_s:=qg174.size
   refine vV (.int .i64 (((1+2*DF.pn)+2*DT.pn)+8*na)) ?_
   refine vE #[qz10,.agg (cnCells c1),.agg (cnCells c2),pX w.heap.size 0,pX qw1.heap.size 0,pX qw4.heap.size 0,.bool false,.int .i64 r2,pX qx20 0,pX qx21 0,pX qx22 0,.slice (some ⟨ga1,0,none⟩) na ca1,.slice (some ⟨gb1,0,none⟩) nb cb1,pX qw34.heap.size 0,pX qw43.heap.size 0,pX qx54 0,pX qx55 0,pX qx56 0,.slice (some ⟨ga2,0,none⟩) na ca2,.slice (some ⟨gb2,0,none⟩) nb cb2,.int .i64 ((1+2*c1.pn)+2*c2.pn),.int .i64 ((((1+2*DF.pn)+2*DT.pn)+8*na)+8*nb),.int .i64 (((1+2*DF.pn)+2*DT.pn)+8*na),pX qx138 0,pX qx139 0,pX qx140 0,.slice (some ⟨ga3,0,none⟩) na ca3,.slice (some ⟨gb3,0,none⟩) nb cb3,qz13,.int .i64 1048576,.int .i64 l0,.int .i64 l0,.bool (decide (l0<0)),.agg (cnCells c1),.int .i64 l0,.int .i64 r1,.int .i64 r1,.bool (decide (r1<0)),.agg (cnCells c2),.int .i64 r1,.int .i64 r2,.int .i64 r2,.bool (decide (r2<0)),qz26,qz27,qz27,.agg (cnCells c1),qz28,.agg (cnCells c2),qz29,qz30,qz31,qz32,qz33,.slice (some ⟨ga1,0,none⟩) na ca1,.slice (some ⟨gb1,0,none⟩) nb cb1,.agg (cnCells c1),qz42,.agg (cnCells c2),qz51,qz60,qz61,qz61,qz62,qz63,qz64,qz65,qz66,qz67,.slice (some ⟨ga2,0,none⟩) na ca2,.slice (some ⟨gb2,0,none⟩) nb cb2,qz78,qz78,.bool true,.bool false,.bool false,qz79,qz80,.bool true,.bool false,.bool false,.bool false,qz81,qz82,.bool true,.bool false,.bool false,.bool false,.slice (some ⟨ga2,0,none⟩) na ca2,.slice (some ⟨ga1,0,none⟩) na ca1,.bool true,.bool false,.bool false,.bool false,.slice (some ⟨gb2,0,none⟩) nb cb2,.slice (some ⟨gb1,0,none⟩) nb cb1,.bool true,.bool false,.bool false,qz87,.agg (cnCells c1),qz88,.bool true,.bool false,qz93,.agg (cnCells c2),qz94,.bool true,.bool false,qz97,.int .i64 1,.int .i64 (1+2*c1.pn),qz100,.int .i64 (1+2*c1.pn),.int .i64 ((1+2*c1.pn)+2*c2.pn),.int .i64 ((1+2*c1.pn)+2*c2.pn),.bool false,.bool false,qz111,qz111,.bool true,.bool false,.bool false,.bool false,qz112,qz113,.bool true,.bool false,.bool false,.bool false,qz114,qz115,.bool true,.bool false,.bool false,.bool false,.slice (some ⟨ga2,0,none⟩) na ca2,.slice (some ⟨ga1,0,none⟩) na ca1,.bool true,.bool false,.bool false,.bool false,.slice (some ⟨gb2,0,none⟩) nb cb2,.slice (some ⟨gb1,0,none⟩) nb cb1,.bool true,.bool false,.bool false,qz118,.int .i64 1,.int .i64 (1+2*DF.pn),qz121,.int .i64 (1+2*DF.pn),.int .i64 ((1+2*DF.pn)+2*DT.pn),.slice (some ⟨ga2,0,none⟩) na ca2,.int .i64 ((1+2*DF.pn)+2*DT.pn),.int .i64 (((1+2*DF.pn)+2*DT.pn)+8*na),.slice (some ⟨gb2,0,none⟩) nb cb2,.int .i64 (((1+2*DF.pn)+2*DT.pn)+8*na),.int .i64 ((((1+2*DF.pn)+2*DT.pn)+8*na)+8*nb),qz128,.int .i64 1,.int .i64 (1+2*DF.pn),.int .i64 (1+2*DF.pn),.bool (decide ((1+2*DF.pn)<0)),qz131,.int .i64 (1+2*DF.pn),.int .i64 ((1+2*DF.pn)+2*DT.pn),.int .i64 ((1+2*DF.pn)+2*DT.pn),.bool (decide (((1+2*DF.pn)+2*DT.pn)<0)),.slice (some ⟨ga2,0,none⟩) na ca2,.int .i64 ((1+2*DF.pn)+2*DT.pn),.int .i64 (((1+2*DF.pn)+2*DT.pn)+8*na),.int .i64 (((1+2*DF.pn)+2*DT.pn)+8*na),.bool (decide ((((1+2*DF.pn)+2*DT.pn)+8*na)<0)),.slice (some ⟨gb2,0,none⟩) nb cb2,.int .i64 (((1+2*DF.pn)+2*DT.pn)+8*na),.int .i64 ((((1+2*DF.pn)+2*DT.pn)+8*na)+8*nb),.int .i64 ((((1+2*DF.pn)+2*DT.pn)+8*na)+8*nb),.bool (decide (((((1+2*DF.pn)+2*DT.pn)+8*na)+8*nb)<0)),.int .i64 ((((1+2*DF.pn)+2*DT.pn)+8*na)+8*nb),.int .i64 ((((1+2*DF.pn)+2*DT.pn)+8*na)+8*nb),.bool false,qz144,qz145,qz145,.agg (cnCells c1),qz146,.agg (cnCells c2),qz147,qz148,qz149,qz150,qz151,.slice (some ⟨ga3,0,none⟩) na ca3,.slice (some ⟨gb3,0,none⟩) nb cb3,qz162,qz162,.bool true,.bool false,.bool false,qz163,qz164,.bool true,.bool false,.bool false,.bool false,qz165,qz166,.bool true,.bool false,.bool false,.bool false,.slice (some ⟨ga3,0,none⟩) na ca3,.slice (some ⟨ga1,0,none⟩) na ca1,.bool true,.bool false,.bool false,.bool false,.slice (some ⟨gb3,0,none⟩) nb cb3,.slice (some ⟨gb1,0,none⟩) nb cb1,.bool true,.bool false,.bool false,qz169,.int .i64 1,.int .i64 (1+2*DF.pn),.int .i64 (1+2*DF.pn),.bool (decide ((1+2*DF.pn)<0)),qz172,.int .i64 (1+2*DF.pn),.int .i64 ((1+2*DF.pn)+2*DT.pn),.int .i64 ((1+2*DF.pn)+2*DT.pn),.bool (decide (((1+2*DF.pn)+2*DT.pn)<0)),.slice (some ⟨ga2,0,none⟩) na ca2,.int .i64 ((1+2*DF.pn)+2*DT.pn),.int .i64 (((1+2*DF.pn)+2*DT.pn)+8*na),U,U,U,U,U,U,U,U,U,U] ?_
   go_upto_region 59 with (fail)
   refine vR ?_
   refine vV (.slice (some ⟨gb2,0,none⟩) nb cb2) ?_
   refine vV (.int .i64 (((1+2*DF.pn)+2*DT.pn)+8*na)) ?_
   refine vK (heldSegs _ gb2 nb _ _ (((1+2*DF.pn)+2*DT.pn)+8*na) (by omega) (by omega) _ Lb2 hM8) ?_
   intro qw175 qg176
   replace qB2:=qB2.since qg176
   replace qB5:=qB5.since qg176
   replace qB8:=qB8.since qg176
   replace qB23:=qB23.since qg176
   replace qB24:=qB24.since qg176
   replace qB25:=qB25.since qg176
   replace qB41:=qB41.since qg176
   replace qB50:=qB50.since qg176
   replace qB57:=qB57.since qg176
   replace qB58:=qB58.since qg176
   replace qB59:=qB59.since qg176
   replace qB141:=qB141.since qg176
   replace qB142:=qB142.since qg176
   replace qB143:=qB143.since qg176
   replace H1:=H1.since qg176
   replace K1:=K1.since qg176
   replace La1:=La1.since qg176
   replace Lb1:=Lb1.since qg176
   replace X1:=X1.since qg176
   replace X2:=X2.since qg176
   replace H2:=H2.since qg176
   replace K2:=K2.since qg176
   replace La2:=La2.since qg176
   replace Lb2:=Lb2.since qg176
   replace H3:=H3.since qg176
   replace K3:=K3.since qg176
   replace La3:=La3.since qg176
   replace Lb3:=Lb3.since qg176
   replace G:=G.trans qg176
   have qg176_s:=qg176.size
   refine vV (.int .i64 ((((1+2*DF.pn)+2*DT.pn)+8*na)+8*nb)) ?_
   refine vE #[qz10,.agg (cnCells c1),.agg (cnCells c2),pX w.heap.size 0,pX qw1.heap.size 0,pX qw4.heap.size 0,.bool false,.int .i64 r2,pX qx20 0,pX qx21 0,pX qx22 0,.slice (some ⟨ga1,0,none⟩) na ca1,.slice (some ⟨gb1,0,none⟩) nb cb1,pX qw34.heap.size 0,pX qw43.heap.size 0,pX qx54 0,pX qx55 0,pX qx56 0,.slice (some ⟨ga2,0,none⟩) na ca2,.slice (some ⟨gb2,0,none⟩) nb cb2,.int .i64 ((1+2*c1.pn)+2*c2.pn),.int .i64 ((((1+2*DF.pn)+2*DT.pn)+8*na)+8*nb),.int .i64 ((((1+2*DF.pn)+2*DT.pn)+8*na)+8*nb),pX qx138 0,pX qx139 0,pX qx140 0,.slice (some ⟨ga3,0,none⟩) na ca3,.slice (some ⟨gb3,0,none⟩) nb cb3,qz13,.int .i64 1048576,.int .i64 l0,.int .i64 l0,.bool (decide (l0<0)),.agg (cnCells c1),.int .i64 l0,.int .i64 r1,.int .i64 r1,.bool (decide (r1<0)),.agg (cnCells c2),.int .i64 r1,.int .i64 r2,.int .i64 r2,.bool (decide (r2<0)),qz26,qz27,qz27,.agg (cnCells c1),qz28,.agg (cnCells c2),qz29,qz30,qz31,qz32,qz33,.slice (some ⟨ga1,0,none⟩) na ca1,.slice (some ⟨gb1,0,none⟩) nb cb1,.agg (cnCells c1),qz42,.agg (cnCells c2),qz51,qz60,qz61,qz61,qz62,qz63,qz64,qz65,qz66,qz67,.slice (some ⟨ga2,0,none⟩) na ca2,.slice (some ⟨gb2,0,none⟩) nb cb2,qz78,qz78,.bool true,.bool false,.bool false,qz79,qz80,.bool true,.bool false,.bool false,.bool false,qz81,qz82,.bool true,.bool false,.bool false,.bool false,.slice (some ⟨ga2,0,none⟩) na ca2,.slice (some ⟨ga1,0,none⟩) na ca1,.bool true,.bool false,.bool false,.bool false,.slice (some ⟨gb2,0,none⟩) nb cb2,.slice (some ⟨gb1,0,none⟩) nb cb1,.bool true,.bool false,.bool false,qz87,.agg (cnCells c1),qz88,.bool true,.bool false,qz93,.agg (cnCells c2),qz94,.bool true,.bool false,qz97,.int .i64 1,.int .i64 (1+2*c1.pn),qz100,.int .i64 (1+2*c1.pn),.int .i64 ((1+2*c1.pn)+2*c2.pn),.int .i64 ((1+2*c1.pn)+2*c2.pn),.bool false,.bool false,qz111,qz111,.bool true,.bool false,.bool false,.bool false,qz112,qz113,.bool true,.bool false,.bool false,.bool false,qz114,qz115,.bool true,.bool false,.bool false,.bool false,.slice (some ⟨ga2,0,none⟩) na ca2,.slice (some ⟨ga1,0,none⟩) na ca1,.bool true,.bool false,.bool false,.bool false,.slice (some ⟨gb2,0,none⟩) nb cb2,.slice (some ⟨gb1,0,none⟩) nb cb1,.bool true,.bool false,.bool false,qz118,.int .i64 1,.int .i64 (1+2*DF.pn),qz121,.int .i64 (1+2*DF.pn),.int .i64 ((1+2*DF.pn)+2*DT.pn),.slice (some ⟨ga2,0,none⟩) na ca2,.int .i64 ((1+2*DF.pn)+2*DT.pn),.int .i64 (((1+2*DF.pn)+2*DT.pn)+8*na),.slice (some ⟨gb2,0,none⟩) nb cb2,.int .i64 (((1+2*DF.pn)+2*DT.pn)+8*na),.int .i64 ((((1+2*DF.pn)+2*DT.pn)+8*na)+8*nb),qz128,.int .i64 1,.int .i64 (1+2*DF.pn),.int .i64 (1+2*DF.pn),.bool (decide ((1+2*DF.pn)<0)),qz131,.int .i64 (1+2*DF.pn),.int .i64 ((1+2*DF.pn)+2*DT.pn),.int .i64 ((1+2*DF.pn)+2*DT.pn),.bool (decide (((1+2*DF.pn)+2*DT.pn)<0)),.slice (some ⟨ga2,0,none⟩) na ca2,.int .i64 ((1+2*DF.pn)+2*DT.pn),.int .i64 (((1+2*DF.pn)+2*DT.pn)+8*na),.int .i64 (((1+2*DF.pn)+2*DT.pn)+8*na),.bool (decide ((((1+2*DF.pn)+2*DT.pn)+8*na)<0)),.slice (some ⟨gb2,0,none⟩) nb cb2,.int .i64 (((1+2*DF.pn)+2*DT.pn)+8*na),.int .i64 ((((1+2*DF.pn)+2*DT.pn)+8*na)+8*nb),.int .i64 ((((1+2*DF.pn)+2*DT.pn)+8*na)+8*nb),.bool (decide (((((1+2*DF.pn)+2*DT.pn)+8*na)+8*nb)<0)),.int .i64 ((((1+2*DF.pn)+2*DT.pn)+8*na)+8*nb),.int .i64 ((((1+2*DF.pn)+2*DT.pn)+8*na)+8*nb),.bool false,qz144,qz145,qz145,.agg (cnCells c1),qz146,.agg (cnCells c2),qz147,qz148,qz149,qz150,qz151,.slice (some ⟨ga3,0,none⟩) na ca3,.slice (some ⟨gb3,0,none⟩) nb cb3,qz162,qz162,.bool true,.bool false,.bool false,qz163,qz164,.bool true,.bool false,.bool false,.bool false,qz165,qz166,.bool true,.bool false,.bool false,.bool false,.slice (some ⟨ga3,0,none⟩) na ca3,.slice (some ⟨ga1,0,none⟩) na ca1,.bool true,.bool false,.bool false,.bool false,.slice (some ⟨gb3,0,none⟩) nb cb3,.slice (some ⟨gb1,0,none⟩) nb cb1,.bool true,.bool false,.bool false,qz169,.int .i64 1,.int .i64 (1+2*DF.pn),.int .i64 (1+2*DF.pn),.bool (decide ((1+2*DF.pn)<0)),qz172,.int .i64 (1+2*DF.pn),.int .i64 ((1+2*DF.pn)+2*DT.pn),.int .i64 ((1+2*DF.pn)+2*DT.pn),.bool (decide (((1+2*DF.pn)+2*DT.pn)<0)),.slice (some ⟨ga2,0,none⟩) na ca2,.int .i64 ((1+2*DF.pn)+2*DT.pn),.int .i64 (((1+2*DF.pn)+2*DT.pn)+8*na),.int .i64 (((1+2*DF.pn)+2*DT.pn)+8*na),.bool (decide ((((1+2*DF.pn)+2*DT.pn)+8*na)<0)),.slice (some ⟨gb2,0,none⟩) nb cb2,.int .i64 (((1+2*DF.pn)+2*DT.pn)+8*na),.int .i64 ((((1+2*DF.pn)+2*DT.pn)+8*na)+8*nb),U,U,U,U,U] ?_
   go_wp2_with (fail)
   go_ret
   exact ⟨rfl,G⟩

set_option maxRecDepth 100000 in
theorem lifted (os:Os) (started:os.Started) (H:Type) (enc:TypeId×Value→H) :
  ReturnsInHanded {} Tryz.checked os 3 .any (Rows.fnExactRelayMoveSpec.pre6 enc Tryz.prog Tryz.f3 Rows.fnExactRelayMoveRow.domain false) (Rows.fnExactRelayMoveSpec.post enc Tryz.prog Tryz.f3 false true false false):=by
 refine returnsInHanded_of_change (C:=Tryz.checked) own started (by kernel_rfl) Tryz.func3
  (ChangeSpec.witness6 (enc:=enc) (C:=Tryz.checked) false ⟨#[],#[.agg #[.int .i64 0,.string ByteArray.empty,.bool false,.int .i64 0,.int .i64 0,.string ByteArray.empty,.bool false,.int .i64 0],.agg #[.int .i64 0,.int .u32 0,.int .u32 0,.int .u32 0,.int .u32 0,.int .i64 0,.int .u32 0,.int .u32 0,.int .u32 0,.string ByteArray.empty,.int .i64 0,.int .u32 0,.string ByteArray.empty,.slice none 0 0,.int .i64 0,.bool false,.bool false,.int .u32 0,.bool false,.bool false,.int .i64 0,.int .i64 0,.int .i64 0,.int .i64 0,.int .i64 0,.int .i64 0,.bool false,.int .u32 0,.bool false,.int .u32 0,.int .i64 0,.int .i64 0,.int .i64 0,.int .i64 0,.int .i64 0,.int .i64 0,.bool false],.agg #[.int .i64 0,.int .u32 0,.int .u32 0,.int .u32 0,.int .u32 0,.int .i64 0,.int .u32 0,.int .u32 0,.int .u32 0,.string ByteArray.empty,.int .i64 0,.int .u32 0,.string ByteArray.empty,.slice none 0 0,.int .i64 0,.bool false,.bool false,.int .u32 0,.bool false,.bool false,.int .i64 0,.int .i64 0,.int .i64 0,.int .i64 0,.int .i64 0,.int .i64 0,.bool false,.int .u32 0,.bool false,.int .u32 0,.int .i64 0,.int .i64 0,.int .i64 0,.int .i64 0,.int .i64 0,.int .i64 0,.bool false]],[]⟩ 8 (by kernel_rfl) (by kernel_rfl) (by kernel_rfl) (by kernel_rfl)) ?_
 intro W base args ds gs before hval0 hW hcnd _
 have hval:∀ (j:Nat) t v,Tryz.f3.params[j]?=some t→args[j]?=some v→Value.okWide Tryz.prog W .any base t v:=hval0
 have hW':=hW
 obtain ⟨p,q,hA0,hV,rfl,hfz,hnd⟩:=hW
 have hA:DataW.TrodAll enc Tryz.prog W 0 (fun _=>true) true Tryz.f3.params.toList args.toList ds p:=hA0
 rw [Tryz.params3] at hA hval
 obtain ⟨v0,vs0,d0,ds0,p0,q0,hargs,rfl,rfl,h0,r0⟩:=trodAll_cons hA
 obtain ⟨v1,vs1,d1,ds1,p1,q1,rfl,rfl,rfl,h1,r1⟩:=trodAll_cons r0
 obtain ⟨v2,vs2,d2,ds2,p2,q2,rfl,rfl,rfl,h2,r2⟩:=trodAll_cons r1
 obtain ⟨rfl,rfl,rfl⟩:=trodAll_nil r2
 obtain rfl:args=#[v0,v1,v2]:=by cases args;simp_all
 obtain ⟨rfl,rfl⟩:=trodVars_none hV
 have e0:=h0
 have lt0:∀ x∈p0,x.block<W.heap.size:=by obtain ⟨m,hm⟩:=e0;exact DataW.trod_lt m _ _ _ hm
 have e1:=h1
 have lt1:∀ x∈p1,x.block<W.heap.size:=by obtain ⟨m,hm⟩:=e1;exact DataW.trod_lt m _ _ _ hm
 have e2:=h2
 have lt2:∀ x∈p2,x.block<W.heap.size:=by obtain ⟨m,hm⟩:=e2;exact DataW.trod_lt m _ _ _ hm
 obtain ⟨rv0,dv0,ev0,nv0,sv0,fv0,gv0,mv0,rfl,x0,z0,y0⟩:=open_relay (hval 0 25 v0 rfl rfl) h0
 obtain ⟨cv1,pv1,rfl,R1,u1⟩:=open_conn (hval 1 37 v1 rfl rfl) h1
 obtain ⟨cv2,pv2,rfl,R2,u2⟩:=open_conn (hval 2 37 v2 rfl rfl) h2
 clear hA0 hval0
 refine (walk rv0 dv0 ev0 nv0 sv0 fv0 gv0 mv0 cv1 pv1 cv2 pv2 W x0 z0 y0 R1 u1 R2 u2).mono fun e W' ⟨he,bel⟩=>?_
 subst he
 exact ⟨_,rfl,_,_,_,[],_,[],hW',trodAll_mk1 (shut_bool Tryz.underlying4 _),(trodAll_cons_mk (Below.trod laidOut (by kernel_rfl) (of_decide_eq_true (by kernel_rfl)) e0 bel lt0) (trodAll_cons_mk (Below.trod laidOut (by kernel_rfl) (of_decide_eq_true (by kernel_rfl)) e1 bel lt1) (trodAll_cons_mk (Below.trod laidOut (by kernel_rfl) (of_decide_eq_true (by kernel_rfl)) e2 bel lt2) trodAll_mk0))),rfl,bel.frame _,fun h=>by cases h⟩

theorem over:Rows.fnExactRelayMoveRow.holds Tryz.pinned (OpenSpec.ofChange Rows.fnExactRelayMoveSpec):=
 OpenClaim.holds_of_wide 3 Tryz.f3 rfl rfl rfl rfl rfl rfl rfl ⟨rfl,rfl,rfl,rfl,rfl⟩ rfl rfl rfl rfl rfl (by kernel_rfl) Tryz.func3 (by kernel_rfl)
  (of_decide_eq_true (by kernel_rfl)) (by unfold Func.isWrapper;first|(rw [if_pos (by decide +kernel)];kernel_rfl)|(rw [if_neg (by decide +kernel)];exact ⟨rfl,rfl⟩))
  (fun os started H enc _=>lifted os started H enc)

theorem proved:Rows.FnExactRelayMoveSaid:=over
end Go.Proofs.YtnbopjlpemmkcaaGreat.fnExactRelayMove

namespace Go.Proofs.YtnbopjlpemmkcaaGreat
theorem fnExactRelayMove_holds:Rows.FnExactRelayMoveSaid:=fnExactRelayMove.proved
#print axioms fnExactRelayMove_holds
end Go.Proofs.YtnbopjlpemmkcaaGreat
