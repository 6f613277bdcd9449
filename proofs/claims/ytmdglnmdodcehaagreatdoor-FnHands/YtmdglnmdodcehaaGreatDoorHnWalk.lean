/-
  The walk of FnHands.
-/
import Derived.Test.YtmdglnmdodcehaaGreatDoorM52
import Derived.Test.YtmdglnmdodcehaaGreatDoorM53
import Derived.Test.YtmdglnmdodcehaaGreatDoorConnAskI
import Derived.Test.YtmdglnmdodcehaaGreatDoorM35
import Derived.Test.YtmdglnmdodcehaaGreatDoorM6
import Derived.LoopTactic
import Derived.Deep.DeepCutAuto
namespace Go.Proofs.YtmdglnmdodcehaaGreatDoor
open Go.ChangeShapes Go.WideShapes Go.ChangeAt Go.RowKit Go.Deep
set_option linter.unusedVariables false
set_option maxRecDepth 10000

theorem big_ (a:Option Addr) (len cap:Nat) (w:World) :
  Calls Tryz.prog 5 #[.slice a len cap] w fun e w'=>e=.returned (.bool (decide ((1048576:Int)<(len:Int))))∧w=w':=by
 go_enter Tryz.func5,Tryz.ntmps5
 go_wp2
 go_ret
 exact ⟨rfl,rfl⟩

theorem begins15 (room:Int) (h:1≤room∧room≤4096) (w:World):Calls Tryz.prog 14 #[.string hW,.string (hT room)] w fun e w'=>e=.returned (.bool true)∧w=w':=by
 have hm:=hM_in room h
 unfold hT
 generalize hM room=m at hm
 have hm7:m=1∨m=2∨m=3∨m=4∨m=5∨m=6∨m=7:=by omega
 clear hm
 rcases hm7 with rfl|rfl|rfl|rfl|rfl|rfl|rfl<;>(go_enter Tryz.func14,Tryz.ntmps14;go_wp2;go_ret;refine ⟨?_,rfl⟩;simp [show hW.size=7 from rfl])

theorem held_load1 {w:World} {B g cap:Nat} {s:Sg} (H:Held shG w B g 1 cap [s]) {op:Oper} {a:Act} {R:Value→World→Prop} (x:Operand) (ho:op.op=.load 39 x) (hx:a.eval x=.pointer (some ⟨g,0,none⟩)) (h:R (.agg (sgCells s)) w):does Tryz.prog op a w R:=by
 obtain ⟨d,h1,h2⟩:=seg_big.row
 have e:(loadVar 39 ⟨g,0,none⟩).run Tryz.prog w=.ok (.agg (sgCells s)) w:=by
  refine run_loadVar_mid w g 0 39 (sgCells s).toList d (fun j v hv=>?_) h1 h2 (by rw [seg_big.size];rfl)
  have hj:j<8:=by
   rcases Nat.lt_or_ge j 8 with q|q
   ·exact q
   ·rw [List.getElem?_eq_none (by exact q)] at hv
    cases hv
  have c:=H.cell 0 (by decide) j hj
  rw [show 0*shG.k+j=0+j by simp] at c
  exact c.trans hv
 unfold does execOp
 simp only [ho,hx,Instr.loadAt,Instr.sureAddr,Sem.run_bind,Sem.run_pure,Result.andThen_ok,e]
 exact h

theorem bytes_later {w x:World} {a:Option Addr} {len:Nat} {zs:List Int} (hb:Bytes w a len zs) (g:Since w x):Bytes x a len zs:=by
 rcases hb with h0|⟨b,off,e,hl,hz⟩
 ·exact .inl h0
 ·exact .inr ⟨b,off,e,hl,fun i hi=>⟨cell_later g (hz i hi).1,(hz i hi).2⟩⟩

set_option maxRecDepth 20000 in
set_option maxHeartbeats 16000000 in
theorem walkHands (a:Option Addr) (len cap:Nat) (zs:List Int) (w:World) (hb:Bytes w a len zs) (E:Laid0 w) :
  Calls Tryz.prog 3 #[.slice a len cap] w fun e w'=>e=.returned (.bool true)∧Below w.heap.size w w':=by
 have hbg:=fun wx=>big_ a len cap wx
 have hE:=E.lt
 have G:=Since.refl w
 go_enter Tryz.func3,Tryz.ntmps3
 go_upto_region 0 with (fail)
 refine vR ?_
 refine vV (.bool false) ?_
 refine vE #[.slice a len cap,U,.bool false,U,U,U,U,U,U,U,U,U,U,U,U,U,U,U,U,U,U,U,U,U,U,U,U,U,U,U,U,U,U,U,U,U,U,U,U,U,U,U,U,U,U,U,U,U,U,U,U,U,U,U,U,U,U,U,U,U,U,U,U,U,U,U,U,U,U,U,U,U,U,U,U,U,U,U,U,U,U,U,U,U,U,U,U,U,U,U,U,U,U,U,U,U,U,U,U,U,U,U,U,U,U,U,U,U,U,U,U,U,U,U,U,U,U,U,U,U,U,U,U,U,U,U,U,U,U,U,U,U,U,U,U,U,U,U,U,U,U,U,U,U,U,U,U,U,U,U,U,U,U,U,U,U,U,U,U,U,U,U,U,U,U,U,U,U,U,U,U,U,U,U,U,U,U,U,U,U,U,U,U,U,U,U,U,U,U,U,U,U,U,U,U,U,U,U,U,U,U,U,U,U] ?_
 go_upto_region 1 with (fail)
 by_cases hbig:(1048576:Int)<(len:Int)
 case pos=>
  rw [decide_eq_true hbig] at hbg
  refine vR ?_
  refine vV (.slice a len cap) ?_
  refine vC (hbg _) ?_
  rintro _ _ ⟨rfl,rfl⟩
  refine ⟨_,rfl,?_⟩
  refine vE #[.slice a len cap,U,.bool false,U,U,U,U,U,U,U,U,U,U,U,U,U,U,U,U,U,U,U,.slice a len cap,.bool true,U,U,U,U,U,U,U,U,U,U,U,U,U,U,U,U,U,U,U,U,U,U,U,U,U,U,U,U,U,U,U,U,U,U,U,U,U,U,U,U,U,U,U,U,U,U,U,U,U,U,U,U,U,U,U,U,U,U,U,U,U,U,U,U,U,U,U,U,U,U,U,U,U,U,U,U,U,U,U,U,U,U,U,U,U,U,U,U,U,U,U,U,U,U,U,U,U,U,U,U,U,U,U,U,U,U,U,U,U,U,U,U,U,U,U,U,U,U,U,U,U,U,U,U,U,U,U,U,U,U,U,U,U,U,U,U,U,U,U,U,U,U,U,U,U,U,U,U,U,U,U,U,U,U,U,U,U,U,U,U,U,U,U,U,U,U,U,U,U,U,U,U,U,U,U,U,U,U,U,U] ?_
  go_wp2_with (fail)
  go_ret
  exact ⟨rfl,G⟩
 case neg=>
  rw [decide_eq_false hbig] at hbg
  have hm:len≤1048576:=by omega
  refine vR ?_
  refine vV (.slice a len cap) ?_
  refine vC (hbg _) ?_
  rintro _ _ ⟨rfl,rfl⟩
  refine ⟨_,rfl,?_⟩
  refine vE #[.slice a len cap,U,.bool false,U,U,U,U,U,U,U,U,U,U,U,U,U,U,U,U,U,U,U,.slice a len cap,.bool false,U,U,U,U,U,U,U,U,U,U,U,U,U,U,U,U,U,U,U,U,U,U,U,U,U,U,U,U,U,U,U,U,U,U,U,U,U,U,U,U,U,U,U,U,U,U,U,U,U,U,U,U,U,U,U,U,U,U,U,U,U,U,U,U,U,U,U,U,U,U,U,U,U,U,U,U,U,U,U,U,U,U,U,U,U,U,U,U,U,U,U,U,U,U,U,U,U,U,U,U,U,U,U,U,U,U,U,U,U,U,U,U,U,U,U,U,U,U,U,U,U,U,U,U,U,U,U,U,U,U,U,U,U,U,U,U,U,U,U,U,U,U,U,U,U,U,U,U,U,U,U,U,U,U,U,U,U,U,U,U,U,U,U,U,U,U,U,U,U,U,U,U,U,U,U,U,U,U,U,U] ?_
  go_upto_region 3 with (fail)
  refine vR ?_
  refine vV (.slice a len cap) ?_
  refine vC ((drawPair15 a len cap zs _ (bytes_later hb G) hm)) ?_
  rintro _ qw1 ⟨ia,ib,room,rfl,hi,hk,hrm,qg2⟩
  refine ⟨_,rfl,?_⟩
  replace E:=E.since qg2
  replace G:=G.trans qg2
  have qg2_s:=qg2.size
  refine vV (.tuple #[.int .u32 ia,.int .u32 ib,.int .i64 room]) ?_
  refine vV (.int .u32 ia) ?_
  refine vV (.int .u32 ib) ?_
  refine vV (.int .i64 room) ?_
  refine vV (.int .u32 ia) ?_
  refine vV (.int .u32 ib) ?_
  refine vV (.int .i64 room) ?_
  refine vE #[.slice a len cap,U,.bool false,.int .u32 ia,.int .u32 ib,.int .i64 room,U,U,U,U,U,U,U,U,U,U,U,U,U,U,U,U,.slice a len cap,.bool false,.tuple #[.int .u32 ia,.int .u32 ib,.int .i64 room],.slice a len cap,.tuple #[.int .u32 ia,.int .u32 ib,.int .i64 room],.int .u32 ia,.int .u32 ib,.int .i64 room,U,U,U,U,U,U,U,U,U,U,U,U,U,U,U,U,U,U,U,U,U,U,U,U,U,U,U,U,U,U,U,U,U,U,U,U,U,U,U,U,U,U,U,U,U,U,U,U,U,U,U,U,U,U,U,U,U,U,U,U,U,U,U,U,U,U,U,U,U,U,U,U,U,U,U,U,U,U,U,U,U,U,U,U,U,U,U,U,U,U,U,U,U,U,U,U,U,U,U,U,U,U,U,U,U,U,U,U,U,U,U,U,U,U,U,U,U,U,U,U,U,U,U,U,U,U,U,U,U,U,U,U,U,U,U,U,U,U,U,U,U,U,U,U,U,U,U,U,U,U,U,U,U,U,U,U,U,U,U,U,U,U,U,U,U,U,U,U,U,U,U,U,U,U] ?_
  generalize (.tuple #[.int .u32 ia,.int .u32 ib,.int .i64 room]:Value)=qz3
  go_upto_region 4 with (fail)
  by_cases hroom:1≤room∧room≤4096
  case neg=>
   have hask:=fun wx=>implAsk ia room 5 hi wx
   unfold askV at hask
   simp only [if_neg (show ¬ ((1≤room∧room≤4096)∧(0:Int)≤5∧(5:Int)≤1000000000) from fun q=>hroom q.1)] at hask
   by_cases hge:1≤room
   case neg=>
    refine vR ?_
    refine vV (.int .u32 ia) ?_
    refine vV (.int .i64 room) ?_
    refine vK (hask _) ?_
    intro qw4 qg5
    replace E:=E.since qg5
    replace G:=G.trans qg5
    have qg5_s:=qg5.size
    refine vV (.tuple #[.agg (cnCells cnZero),.agg (sgCells sgZero),.bool false]) ?_
    refine vV (.agg (cnCells cnZero)) ?_
    refine vV (.agg (sgCells sgZero)) ?_
    refine vV (.bool false) ?_
    refine vW (qw4.alloc (.cells (cnCells cnZero) 37)) (.pointer (some ⟨qw4.heap.size,0,none⟩)) ?_
    have qB7:=Blk.new qw4 (cnCells cnZero) 37
    have qg8:=(Since.refl qw4).alloc (.cells (cnCells cnZero) 37)
    replace E:=E.since qg8
    replace G:=G.trans qg8
    generalize qw4.alloc (.cells (cnCells cnZero) 37)=qw6 at E G qB7 qg8 ⊢
    have qB7_l:=qB7.lt
    have qg8_s:=qg8.size
    refine vW (qw6.alloc (.cells (sgCells sgZero) 39)) (.pointer (some ⟨qw6.heap.size,0,none⟩)) ?_
    have qB10:=Blk.new qw6 (sgCells sgZero) 39
    have qg11:=(Since.refl qw6).alloc (.cells (sgCells sgZero) 39)
    replace qB7:=qB7.since qg11
    replace E:=E.since qg11
    replace G:=G.trans qg11
    generalize qw6.alloc (.cells (sgCells sgZero) 39)=qw9 at qB7 E G qB10 qg11 ⊢
    have qB10_l:=qB10.lt
    have qg11_s:=qg11.size
    refine sB (cnCells cnZero) cn_big qB7 (cn_size _) (cn_size _) (cn_one _) ?_
    intro qw12 qt13 qB14
    clear qB7
    replace qB10:=qB10.touch qt13 (by omega)
    replace E:=E.touch qt13 (by omega)
    replace G:=since_touch G qt13 (by omega)
    have qt13_s:=qt13.size
    refine sB (sgCells sgZero) seg_big qB10 rfl rfl (seg_one _ _ _ _ _ _ _ _) ?_
    intro qw15 qt16 qB17
    clear qB10
    replace qB14:=qB14.touch qt16 (by omega)
    replace E:=E.touch qt16 (by omega)
    replace G:=since_touch G qt16 (by omega)
    have qt16_s:=qt16.size
    refine vV (.bool false) ?_
    refine vE #[.slice a len cap,U,.bool false,.int .u32 ia,.int .u32 ib,.int .i64 room,pX qw4.heap.size 0,pX qw6.heap.size 0,.bool false,U,U,U,U,U,U,U,U,U,U,U,U,U,.slice a len cap,.bool false,qz3,.slice a len cap,qz3,.int .u32 ia,.int .u32 ib,.int .i64 room,.tuple #[.agg (cnCells cnZero),.agg (sgCells sgZero),.bool false],.int .u32 ia,.int .i64 room,.tuple #[.agg (cnCells cnZero),.agg (sgCells sgZero),.bool false],.agg (cnCells cnZero),.agg (sgCells sgZero),.bool false,U,U,U,U,U,U,U,U,U,U,U,U,U,U,U,U,U,U,U,U,U,U,U,U,U,U,U,U,U,U,U,U,U,U,U,U,U,U,U,U,U,U,U,U,U,U,U,U,U,U,U,U,U,U,U,U,U,U,U,U,U,U,U,U,U,U,U,U,U,U,U,U,U,U,U,U,U,U,U,U,U,U,U,U,U,U,U,U,U,U,U,U,U,U,U,U,U,U,U,U,U,U,U,U,U,U,U,U,U,U,U,U,U,U,U,U,U,U,U,U,U,U,U,U,U,U,U,U,U,U,U,U,U,U,U,U,U,U,U,U,U,U,U,U,U,U,U,U,U,U,U,U,U,U,U,U,U,U,U,U,U,U,U,U,U,U,U] ?_
    generalize (.tuple #[.agg (cnCells cnZero),.agg (sgCells sgZero),.bool false]:Value)=qz18
    go_upto_region 5 with (fail)
    refine vR ?_
    refine vV (.bool false) ?_
    refine vV (.int .i64 room) ?_
    refine vV (.bool false) ?_ (hrun:=by simp [execOp,go_sem];omega)
    refine vV (.bool false) ?_
    refine vS ?_
    refine vS ?_
    refine vV (.bool false) ?_
    refine vV (.bool false) ?_ (hrun:=by simp [execOp,go_sem])
    refine vE #[.slice a len cap,U,.bool false,.int .u32 ia,.int .u32 ib,.int .i64 room,pX qw4.heap.size 0,pX qw6.heap.size 0,.bool false,U,U,U,U,U,U,U,U,U,U,U,U,U,.slice a len cap,.bool false,qz3,.slice a len cap,qz3,.int .u32 ia,.int .u32 ib,.int .i64 room,qz18,.int .u32 ia,.int .i64 room,qz18,.agg (cnCells cnZero),.agg (sgCells sgZero),.bool false,.bool false,.int .i64 room,.bool false,.bool false,U,U,.bool false,.bool false,U,U,U,U,U,U,U,U,U,U,U,U,U,U,U,U,U,U,U,U,U,U,U,U,U,U,U,U,U,U,U,U,U,U,U,U,U,U,U,U,U,U,U,U,U,U,U,U,U,U,U,U,U,U,U,U,U,U,U,U,U,U,U,U,U,U,U,U,U,U,U,U,U,U,U,U,U,U,U,U,U,U,U,U,U,U,U,U,U,U,U,U,U,U,U,U,U,U,U,U,U,U,U,U,U,U,U,U,U,U,U,U,U,U,U,U,U,U,U,U,U,U,U,U,U,U,U,U,U,U,U,U,U,U,U,U,U,U,U,U,U,U,U,U,U,U,U,U,U,U,U,U,U,U,U,U,U,U,U] ?_
    go_upto_region 7 with (fail)
    refine vR ?_
    refine vV (.bool false) ?_
    refine vV (.bool true) ?_
    refine vE #[.slice a len cap,U,.bool false,.int .u32 ia,.int .u32 ib,.int .i64 room,pX qw4.heap.size 0,pX qw6.heap.size 0,.bool false,U,U,U,U,U,U,U,U,U,U,U,U,U,.slice a len cap,.bool false,qz3,.slice a len cap,qz3,.int .u32 ia,.int .u32 ib,.int .i64 room,qz18,.int .u32 ia,.int .i64 room,qz18,.agg (cnCells cnZero),.agg (sgCells sgZero),.bool false,.bool false,.int .i64 room,.bool false,.bool false,U,U,.bool false,.bool false,.bool false,.bool true,U,U,U,U,U,U,U,U,U,U,U,U,U,U,U,U,U,U,U,U,U,U,U,U,U,U,U,U,U,U,U,U,U,U,U,U,U,U,U,U,U,U,U,U,U,U,U,U,U,U,U,U,U,U,U,U,U,U,U,U,U,U,U,U,U,U,U,U,U,U,U,U,U,U,U,U,U,U,U,U,U,U,U,U,U,U,U,U,U,U,U,U,U,U,U,U,U,U,U,U,U,U,U,U,U,U,U,U,U,U,U,U,U,U,U,U,U,U,U,U,U,U,U,U,U,U,U,U,U,U,U,U,U,U,U,U,U,U,U,U,U,U,U,U,U,U,U,U,U,U,U,U,U,U,U,U,U] ?_
    go_wp2_with (fail)
    go_ret
    exact ⟨rfl,G⟩
   case pos=>
    refine vR ?_
    refine vV (.int .u32 ia) ?_
    refine vV (.int .i64 room) ?_
    refine vK (hask _) ?_
    intro qw4 qg5
    replace E:=E.since qg5
    replace G:=G.trans qg5
    have qg5_s:=qg5.size
    refine vV (.tuple #[.agg (cnCells cnZero),.agg (sgCells sgZero),.bool false]) ?_
    refine vV (.agg (cnCells cnZero)) ?_
    refine vV (.agg (sgCells sgZero)) ?_
    refine vV (.bool false) ?_
    refine vW (qw4.alloc (.cells (cnCells cnZero) 37)) (.pointer (some ⟨qw4.heap.size,0,none⟩)) ?_
    have qB7:=Blk.new qw4 (cnCells cnZero) 37
    have qg8:=(Since.refl qw4).alloc (.cells (cnCells cnZero) 37)
    replace E:=E.since qg8
    replace G:=G.trans qg8
    generalize qw4.alloc (.cells (cnCells cnZero) 37)=qw6 at E G qB7 qg8 ⊢
    have qB7_l:=qB7.lt
    have qg8_s:=qg8.size
    refine vW (qw6.alloc (.cells (sgCells sgZero) 39)) (.pointer (some ⟨qw6.heap.size,0,none⟩)) ?_
    have qB10:=Blk.new qw6 (sgCells sgZero) 39
    have qg11:=(Since.refl qw6).alloc (.cells (sgCells sgZero) 39)
    replace qB7:=qB7.since qg11
    replace E:=E.since qg11
    replace G:=G.trans qg11
    generalize qw6.alloc (.cells (sgCells sgZero) 39)=qw9 at qB7 E G qB10 qg11 ⊢
    have qB10_l:=qB10.lt
    have qg11_s:=qg11.size
    refine sB (cnCells cnZero) cn_big qB7 (cn_size _) (cn_size _) (cn_one _) ?_
    intro qw12 qt13 qB14
    clear qB7
    replace qB10:=qB10.touch qt13 (by omega)
    replace E:=E.touch qt13 (by omega)
    replace G:=since_touch G qt13 (by omega)
    have qt13_s:=qt13.size
    refine sB (sgCells sgZero) seg_big qB10 rfl rfl (seg_one _ _ _ _ _ _ _ _) ?_
    intro qw15 qt16 qB17
    clear qB10
    replace qB14:=qB14.touch qt16 (by omega)
    replace E:=E.touch qt16 (by omega)
    replace G:=since_touch G qt16 (by omega)
    have qt16_s:=qt16.size
    refine vV (.bool false) ?_
    refine vE #[.slice a len cap,U,.bool false,.int .u32 ia,.int .u32 ib,.int .i64 room,pX qw4.heap.size 0,pX qw6.heap.size 0,.bool false,U,U,U,U,U,U,U,U,U,U,U,U,U,.slice a len cap,.bool false,qz3,.slice a len cap,qz3,.int .u32 ia,.int .u32 ib,.int .i64 room,.tuple #[.agg (cnCells cnZero),.agg (sgCells sgZero),.bool false],.int .u32 ia,.int .i64 room,.tuple #[.agg (cnCells cnZero),.agg (sgCells sgZero),.bool false],.agg (cnCells cnZero),.agg (sgCells sgZero),.bool false,U,U,U,U,U,U,U,U,U,U,U,U,U,U,U,U,U,U,U,U,U,U,U,U,U,U,U,U,U,U,U,U,U,U,U,U,U,U,U,U,U,U,U,U,U,U,U,U,U,U,U,U,U,U,U,U,U,U,U,U,U,U,U,U,U,U,U,U,U,U,U,U,U,U,U,U,U,U,U,U,U,U,U,U,U,U,U,U,U,U,U,U,U,U,U,U,U,U,U,U,U,U,U,U,U,U,U,U,U,U,U,U,U,U,U,U,U,U,U,U,U,U,U,U,U,U,U,U,U,U,U,U,U,U,U,U,U,U,U,U,U,U,U,U,U,U,U,U,U,U,U,U,U,U,U,U,U,U,U,U,U,U,U,U,U,U,U] ?_
    generalize (.tuple #[.agg (cnCells cnZero),.agg (sgCells sgZero),.bool false]:Value)=qz18
    go_upto_region 5 with (fail)
    refine vR ?_
    refine vV (.bool false) ?_
    refine vV (.int .i64 room) ?_
    refine vV (.bool true) ?_ (hrun:=by simp [execOp,go_sem];omega)
    refine vV (.bool true) ?_
    refine vV (.int .i64 room) ?_
    refine vV (.bool false) ?_ (hrun:=by simp [execOp,go_sem];omega)
    refine vV (.bool false) ?_
    refine vV (.bool false) ?_ (hrun:=by simp [execOp,go_sem])
    refine vE #[.slice a len cap,U,.bool false,.int .u32 ia,.int .u32 ib,.int .i64 room,pX qw4.heap.size 0,pX qw6.heap.size 0,.bool false,U,U,U,U,U,U,U,U,U,U,U,U,U,.slice a len cap,.bool false,qz3,.slice a len cap,qz3,.int .u32 ia,.int .u32 ib,.int .i64 room,qz18,.int .u32 ia,.int .i64 room,qz18,.agg (cnCells cnZero),.agg (sgCells sgZero),.bool false,.bool false,.int .i64 room,.bool true,.bool true,.int .i64 room,.bool false,.bool false,.bool false,U,U,U,U,U,U,U,U,U,U,U,U,U,U,U,U,U,U,U,U,U,U,U,U,U,U,U,U,U,U,U,U,U,U,U,U,U,U,U,U,U,U,U,U,U,U,U,U,U,U,U,U,U,U,U,U,U,U,U,U,U,U,U,U,U,U,U,U,U,U,U,U,U,U,U,U,U,U,U,U,U,U,U,U,U,U,U,U,U,U,U,U,U,U,U,U,U,U,U,U,U,U,U,U,U,U,U,U,U,U,U,U,U,U,U,U,U,U,U,U,U,U,U,U,U,U,U,U,U,U,U,U,U,U,U,U,U,U,U,U,U,U,U,U,U,U,U,U,U,U,U,U,U,U,U,U,U,U,U] ?_
    go_upto_region 7 with (fail)
    refine vR ?_
    refine vV (.bool false) ?_
    refine vV (.bool true) ?_
    refine vE #[.slice a len cap,U,.bool false,.int .u32 ia,.int .u32 ib,.int .i64 room,pX qw4.heap.size 0,pX qw6.heap.size 0,.bool false,U,U,U,U,U,U,U,U,U,U,U,U,U,.slice a len cap,.bool false,qz3,.slice a len cap,qz3,.int .u32 ia,.int .u32 ib,.int .i64 room,qz18,.int .u32 ia,.int .i64 room,qz18,.agg (cnCells cnZero),.agg (sgCells sgZero),.bool false,.bool false,.int .i64 room,.bool true,.bool true,.int .i64 room,.bool false,.bool false,.bool false,.bool false,.bool true,U,U,U,U,U,U,U,U,U,U,U,U,U,U,U,U,U,U,U,U,U,U,U,U,U,U,U,U,U,U,U,U,U,U,U,U,U,U,U,U,U,U,U,U,U,U,U,U,U,U,U,U,U,U,U,U,U,U,U,U,U,U,U,U,U,U,U,U,U,U,U,U,U,U,U,U,U,U,U,U,U,U,U,U,U,U,U,U,U,U,U,U,U,U,U,U,U,U,U,U,U,U,U,U,U,U,U,U,U,U,U,U,U,U,U,U,U,U,U,U,U,U,U,U,U,U,U,U,U,U,U,U,U,U,U,U,U,U,U,U,U,U,U,U,U,U,U,U,U,U,U,U,U,U,U,U,U] ?_
    go_wp2_with (fail)
    go_ret
    exact ⟨rfl,G⟩
  case pos=>
   have hask:=fun wx=>implAsk ia room 5 hi wx
   unfold askV at hask
   rw [if_pos (show (1≤room∧room≤4096)∧(0:Int)≤5∧(5:Int)≤1000000000 from ⟨hroom,by omega,by omega⟩)] at hask
   have hs1:=syn_A0 ia room hroom
   have hs2:=syn_B0 ia ib room hroom
   change ∀ wx,Calls _ _ _ _ (fun e w'=>e=.returned (.tuple #[.agg (cnCells (hA0 ia room)),.agg (sgCells (synSg (hA0 ia room) [])),.bool true])∧_) at hask
   rw [hs1] at hask
   have hhear:=fun wx L=>implHear (hS1 ia room) ib room 6 hk hi (Nat.zero_le _) wx L
   unfold hearV at hhear
   rw [if_pos (show hearOk (hS1 ia room) room 6 from ⟨hroom,by omega,rfl,(show 0≤room∧room≤65535 by omega),rfl⟩)] at hhear
   change ∀ wx L,Calls _ _ _ _ (fun e w'=>e=.returned (.tuple #[.agg (cnCells (hB0 ia ib room)),.agg (sgCells (synSg (hB0 ia ib room) [])),.bool true])∧_) at hhear
   rw [hs2] at hhear
   clear hs1 hs2
   refine vR ?_
   refine vV (.int .u32 ia) ?_
   refine vV (.int .i64 room) ?_
   refine vK (hask _) ?_
   intro qw4 qg5
   replace E:=E.since qg5
   replace G:=G.trans qg5
   have qg5_s:=qg5.size
   refine vV (.tuple #[.agg (cnCells (hA0 ia room)),.agg (sgCells (hS1 ia room)),.bool true]) ?_
   refine vV (.agg (cnCells (hA0 ia room))) ?_
   refine vV (.agg (sgCells (hS1 ia room))) ?_
   refine vV (.bool true) ?_
   refine vW (qw4.alloc (.cells (cnCells cnZero) 37)) (.pointer (some ⟨qw4.heap.size,0,none⟩)) ?_
   have qB7:=Blk.new qw4 (cnCells cnZero) 37
   have qg8:=(Since.refl qw4).alloc (.cells (cnCells cnZero) 37)
   replace E:=E.since qg8
   replace G:=G.trans qg8
   generalize qw4.alloc (.cells (cnCells cnZero) 37)=qw6 at E G qB7 qg8 ⊢
   have qB7_l:=qB7.lt
   have qg8_s:=qg8.size
   refine vW (qw6.alloc (.cells (sgCells sgZero) 39)) (.pointer (some ⟨qw6.heap.size,0,none⟩)) ?_
   have qB10:=Blk.new qw6 (sgCells sgZero) 39
   have qg11:=(Since.refl qw6).alloc (.cells (sgCells sgZero) 39)
   replace qB7:=qB7.since qg11
   replace E:=E.since qg11
   replace G:=G.trans qg11
   generalize qw6.alloc (.cells (sgCells sgZero) 39)=qw9 at qB7 E G qB10 qg11 ⊢
   have qB10_l:=qB10.lt
   have qg11_s:=qg11.size
   refine sB (cnCells (hA0 ia room)) cn_big qB7 (cn_size _) (cn_size _) (cn_one _) ?_
   intro qw12 qt13 qB14
   clear qB7
   replace qB10:=qB10.touch qt13 (by omega)
   replace E:=E.touch qt13 (by omega)
   replace G:=since_touch G qt13 (by omega)
   have qt13_s:=qt13.size
   refine sB (sgCells (hS1 ia room)) seg_big qB10 rfl rfl (seg_one _ _ _ _ _ _ _ _) ?_
   intro qw15 qt16 qB17
   clear qB10
   replace qB14:=qB14.touch qt16 (by omega)
   replace E:=E.touch qt16 (by omega)
   replace G:=since_touch G qt16 (by omega)
   have qt16_s:=qt16.size
   refine vV (.bool true) ?_
   refine vE #[.slice a len cap,U,.bool false,.int .u32 ia,.int .u32 ib,.int .i64 room,pX qw4.heap.size 0,pX qw6.heap.size 0,.bool true,U,U,U,U,U,U,U,U,U,U,U,U,U,.slice a len cap,.bool false,qz3,.slice a len cap,qz3,.int .u32 ia,.int .u32 ib,.int .i64 room,.tuple #[.agg (cnCells (hA0 ia room)),.agg (sgCells (hS1 ia room)),.bool true],.int .u32 ia,.int .i64 room,.tuple #[.agg (cnCells (hA0 ia room)),.agg (sgCells (hS1 ia room)),.bool true],.agg (cnCells (hA0 ia room)),.agg (sgCells (hS1 ia room)),.bool true,U,U,U,U,U,U,U,U,U,U,U,U,U,U,U,U,U,U,U,U,U,U,U,U,U,U,U,U,U,U,U,U,U,U,U,U,U,U,U,U,U,U,U,U,U,U,U,U,U,U,U,U,U,U,U,U,U,U,U,U,U,U,U,U,U,U,U,U,U,U,U,U,U,U,U,U,U,U,U,U,U,U,U,U,U,U,U,U,U,U,U,U,U,U,U,U,U,U,U,U,U,U,U,U,U,U,U,U,U,U,U,U,U,U,U,U,U,U,U,U,U,U,U,U,U,U,U,U,U,U,U,U,U,U,U,U,U,U,U,U,U,U,U,U,U,U,U,U,U,U,U,U,U,U,U,U,U,U,U,U,U,U,U,U,U,U,U] ?_
   generalize (.tuple #[.agg (cnCells (hA0 ia room)),.agg (sgCells (hS1 ia room)),.bool true]:Value)=qz18
   generalize (.agg (cnCells (hA0 ia room)):Value)=qz19
   generalize (.agg (sgCells (hS1 ia room)):Value)=qz20
   go_upto_region 5 with (fail)
   refine vR ?_
   refine vV (.bool true) ?_
   refine vV (.int .i64 room) ?_
   refine vV (.bool true) ?_ (hrun:=by simp [execOp,go_sem];omega)
   refine vV (.bool true) ?_
   refine vV (.int .i64 room) ?_
   refine vV (.bool true) ?_ (hrun:=by simp [execOp,go_sem];omega)
   refine vV (.bool true) ?_
   refine vV (.bool false) ?_ (hrun:=by simp [execOp,go_sem])
   refine vE #[.slice a len cap,U,.bool false,.int .u32 ia,.int .u32 ib,.int .i64 room,pX qw4.heap.size 0,pX qw6.heap.size 0,.bool true,U,U,U,U,U,U,U,U,U,U,U,U,U,.slice a len cap,.bool false,qz3,.slice a len cap,qz3,.int .u32 ia,.int .u32 ib,.int .i64 room,qz18,.int .u32 ia,.int .i64 room,qz18,qz19,qz20,.bool true,.bool true,.int .i64 room,.bool true,.bool true,.int .i64 room,.bool true,.bool true,.bool false,U,U,U,U,U,U,U,U,U,U,U,U,U,U,U,U,U,U,U,U,U,U,U,U,U,U,U,U,U,U,U,U,U,U,U,U,U,U,U,U,U,U,U,U,U,U,U,U,U,U,U,U,U,U,U,U,U,U,U,U,U,U,U,U,U,U,U,U,U,U,U,U,U,U,U,U,U,U,U,U,U,U,U,U,U,U,U,U,U,U,U,U,U,U,U,U,U,U,U,U,U,U,U,U,U,U,U,U,U,U,U,U,U,U,U,U,U,U,U,U,U,U,U,U,U,U,U,U,U,U,U,U,U,U,U,U,U,U,U,U,U,U,U,U,U,U,U,U,U,U,U,U,U,U,U,U,U,U,U] ?_
   go_upto_region 7 with (fail)
   refine vR ?_
   refine vV (.bool true) ?_
   refine vV (.bool false) ?_
   refine vE #[.slice a len cap,U,.bool false,.int .u32 ia,.int .u32 ib,.int .i64 room,pX qw4.heap.size 0,pX qw6.heap.size 0,.bool true,U,U,U,U,U,U,U,U,U,U,U,U,U,.slice a len cap,.bool false,qz3,.slice a len cap,qz3,.int .u32 ia,.int .u32 ib,.int .i64 room,qz18,.int .u32 ia,.int .i64 room,qz18,qz19,qz20,.bool true,.bool true,.int .i64 room,.bool true,.bool true,.int .i64 room,.bool true,.bool true,.bool false,.bool true,.bool false,U,U,U,U,U,U,U,U,U,U,U,U,U,U,U,U,U,U,U,U,U,U,U,U,U,U,U,U,U,U,U,U,U,U,U,U,U,U,U,U,U,U,U,U,U,U,U,U,U,U,U,U,U,U,U,U,U,U,U,U,U,U,U,U,U,U,U,U,U,U,U,U,U,U,U,U,U,U,U,U,U,U,U,U,U,U,U,U,U,U,U,U,U,U,U,U,U,U,U,U,U,U,U,U,U,U,U,U,U,U,U,U,U,U,U,U,U,U,U,U,U,U,U,U,U,U,U,U,U,U,U,U,U,U,U,U,U,U,U,U,U,U,U,U,U,U,U,U,U,U,U,U,U,U,U,U,U] ?_
   go_upto_region 9 with (fail)
   refine vR ?_
   refine vB seg_big qB17 rfl ?_
   refine vV (.int .u32 ib) ?_
   refine vV (.int .i64 room) ?_
   refine vK (hhear _ E) ?_
   intro qw21 qg22
   replace qB14:=qB14.since qg22
   replace qB17:=qB17.since qg22
   replace E:=E.since qg22
   replace G:=G.trans qg22
   have qg22_s:=qg22.size
   refine vV (.tuple #[.agg (cnCells (hB0 ia ib room)),.agg (sgCells (hS2 ia ib room)),.bool true]) ?_
   refine vV (.agg (cnCells (hB0 ia ib room))) ?_
   refine vV (.agg (sgCells (hS2 ia ib room))) ?_
   refine vV (.bool true) ?_
   refine vW (qw21.alloc (.cells (cnCells cnZero) 37)) (.pointer (some ⟨qw21.heap.size,0,none⟩)) ?_
   have qB24:=Blk.new qw21 (cnCells cnZero) 37
   have qg25:=(Since.refl qw21).alloc (.cells (cnCells cnZero) 37)
   replace qB14:=qB14.since qg25
   replace qB17:=qB17.since qg25
   replace E:=E.since qg25
   replace G:=G.trans qg25
   generalize qw21.alloc (.cells (cnCells cnZero) 37)=qw23 at qB14 qB17 E G qB24 qg25 ⊢
   have qB24_l:=qB24.lt
   have qg25_s:=qg25.size
   refine vW (qw23.alloc (.cells (sgCells sgZero) 39)) (.pointer (some ⟨qw23.heap.size,0,none⟩)) ?_
   have qB27:=Blk.new qw23 (sgCells sgZero) 39
   have qg28:=(Since.refl qw23).alloc (.cells (sgCells sgZero) 39)
   replace qB14:=qB14.since qg28
   replace qB17:=qB17.since qg28
   replace qB24:=qB24.since qg28
   replace E:=E.since qg28
   replace G:=G.trans qg28
   generalize qw23.alloc (.cells (sgCells sgZero) 39)=qw26 at qB14 qB17 qB24 E G qB27 qg28 ⊢
   have qB27_l:=qB27.lt
   have qg28_s:=qg28.size
   refine sB (cnCells (hB0 ia ib room)) cn_big qB24 (cn_size _) (cn_size _) (cn_one _) ?_
   intro qw29 qt30 qB31
   clear qB24
   replace qB14:=qB14.touch qt30 (by omega)
   replace qB17:=qB17.touch qt30 (by omega)
   replace qB27:=qB27.touch qt30 (by omega)
   replace E:=E.touch qt30 (by omega)
   replace G:=since_touch G qt30 (by omega)
   have qt30_s:=qt30.size
   refine sB (sgCells (hS2 ia ib room)) seg_big qB27 rfl rfl (seg_one _ _ _ _ _ _ _ _) ?_
   intro qw32 qt33 qB34
   clear qB27
   replace qB14:=qB14.touch qt33 (by omega)
   replace qB17:=qB17.touch qt33 (by omega)
   replace qB31:=qB31.touch qt33 (by omega)
   replace E:=E.touch qt33 (by omega)
   replace G:=since_touch G qt33 (by omega)
   have qt33_s:=qt33.size
   refine vV (.bool true) ?_
   refine vE #[.slice a len cap,U,.bool false,.int .u32 ia,.int .u32 ib,.int .i64 room,pX qw4.heap.size 0,pX qw6.heap.size 0,.bool true,pX qw21.heap.size 0,pX qw23.heap.size 0,.bool true,U,U,U,U,U,U,U,U,U,U,.slice a len cap,.bool false,qz3,.slice a len cap,qz3,.int .u32 ia,.int .u32 ib,.int .i64 room,qz18,.int .u32 ia,.int .i64 room,qz18,qz19,qz20,.bool true,.bool true,.int .i64 room,.bool true,.bool true,.int .i64 room,.bool true,.bool true,.bool false,.bool true,.bool false,.tuple #[.agg (cnCells (hB0 ia ib room)),.agg (sgCells (hS2 ia ib room)),.bool true],.agg (sgCells (hS1 ia room)),.int .u32 ib,.int .i64 room,.tuple #[.agg (cnCells (hB0 ia ib room)),.agg (sgCells (hS2 ia ib room)),.bool true],.agg (cnCells (hB0 ia ib room)),.agg (sgCells (hS2 ia ib room)),.bool true,U,U,U,U,U,U,U,U,U,U,U,U,U,U,U,U,U,U,U,U,U,U,U,U,U,U,U,U,U,U,U,U,U,U,U,U,U,U,U,U,U,U,U,U,U,U,U,U,U,U,U,U,U,U,U,U,U,U,U,U,U,U,U,U,U,U,U,U,U,U,U,U,U,U,U,U,U,U,U,U,U,U,U,U,U,U,U,U,U,U,U,U,U,U,U,U,U,U,U,U,U,U,U,U,U,U,U,U,U,U,U,U,U,U,U,U,U,U,U,U,U,U,U,U,U,U,U,U,U,U,U,U,U,U,U,U,U,U,U,U,U,U,U,U,U,U,U,U,U] ?_
   generalize (.tuple #[.agg (cnCells (hB0 ia ib room)),.agg (sgCells (hS2 ia ib room)),.bool true]:Value)=qz35
   generalize (.agg (sgCells (hS1 ia room)):Value)=qz36
   generalize (.agg (cnCells (hB0 ia ib room)):Value)=qz37
   generalize (.agg (sgCells (hS2 ia ib room)):Value)=qz38
   go_upto_region 10 with (fail)
   refine vR ?_
   refine vB cn_big qB14 (cn_size _) ?_
   refine vB seg_big qB34 rfl ?_
   refine vC (came0 (hA0 ia room) (hA1 ia ib room) (hS2 ia ib room) 7 (came_A ia ib room hi hroom) (good_A0 ia room hi hroom) rfl hk (word1 ia) (by unfold IsInt hS2;simp) (Nat.zero_le _) _ E) ?_
   rintro _ qw39 ⟨g1,cp1,gs1,cs1,rfl,qg40⟩
   refine ⟨_,rfl,?_⟩
   replace qB14:=qB14.since qg40
   replace qB17:=qB17.since qg40
   replace qB31:=qB31.since qg40
   replace qB34:=qB34.since qg40
   replace E:=E.since qg40
   replace G:=G.trans qg40
   have qg40_s:=qg40.size
   refine vV (.tuple #[.agg (cnCells (at0 (hA1 ia ib room) g1 cp1)),.slice (some ⟨gs1,0,none⟩) 0 cs1]) ?_
   refine vV (.agg (cnCells (at0 (hA1 ia ib room) g1 cp1))) ?_
   refine vV (.slice (some ⟨gs1,0,none⟩) 0 cs1) ?_
   refine sB (cnCells (at0 (hA1 ia ib room) g1 cp1)) cn_big qB14 (cn_size _) (cn_size _) (cn_one _) ?_
   intro qw41 qt42 qB43
   clear qB14
   replace qB17:=qB17.touch qt42 (by omega)
   replace qB31:=qB31.touch qt42 (by omega)
   replace qB34:=qB34.touch qt42 (by omega)
   replace E:=E.touch qt42 (by omega)
   replace G:=since_touch G qt42 (by omega)
   have qt42_s:=qt42.size
   refine vV (.slice (some ⟨gs1,0,none⟩) 0 cs1) ?_
   refine vE #[.slice a len cap,U,.bool false,.int .u32 ia,.int .u32 ib,.int .i64 room,pX qw4.heap.size 0,pX qw6.heap.size 0,.bool true,pX qw21.heap.size 0,pX qw23.heap.size 0,.bool true,.slice (some ⟨gs1,0,none⟩) 0 cs1,U,U,U,U,U,U,U,U,U,.slice a len cap,.bool false,qz3,.slice a len cap,qz3,.int .u32 ia,.int .u32 ib,.int .i64 room,qz18,.int .u32 ia,.int .i64 room,qz18,qz19,qz20,.bool true,.bool true,.int .i64 room,.bool true,.bool true,.int .i64 room,.bool true,.bool true,.bool false,.bool true,.bool false,qz35,qz36,.int .u32 ib,.int .i64 room,qz35,qz37,qz38,.bool true,.tuple #[.agg (cnCells (at0 (hA1 ia ib room) g1 cp1)),.slice (some ⟨gs1,0,none⟩) 0 cs1],.agg (cnCells (hA0 ia room)),.agg (sgCells (hS2 ia ib room)),.tuple #[.agg (cnCells (at0 (hA1 ia ib room) g1 cp1)),.slice (some ⟨gs1,0,none⟩) 0 cs1],.agg (cnCells (at0 (hA1 ia ib room) g1 cp1)),.slice (some ⟨gs1,0,none⟩) 0 cs1,U,U,U,U,U,U,U,U,U,U,U,U,U,U,U,U,U,U,U,U,U,U,U,U,U,U,U,U,U,U,U,U,U,U,U,U,U,U,U,U,U,U,U,U,U,U,U,U,U,U,U,U,U,U,U,U,U,U,U,U,U,U,U,U,U,U,U,U,U,U,U,U,U,U,U,U,U,U,U,U,U,U,U,U,U,U,U,U,U,U,U,U,U,U,U,U,U,U,U,U,U,U,U,U,U,U,U,U,U,U,U,U,U,U,U,U,U,U,U,U,U,U,U,U,U,U,U,U,U,U,U,U,U,U,U,U,U,U,U,U,U,U,U] ?_
   generalize (.tuple #[.agg (cnCells (at0 (hA1 ia ib room) g1 cp1)),.slice (some ⟨gs1,0,none⟩) 0 cs1]:Value)=qz44
   generalize (.agg (cnCells (hA0 ia room)):Value)=qz45
   generalize (.agg (sgCells (hS2 ia ib room)):Value)=qz46
   generalize (.agg (cnCells (at0 (hA1 ia ib room) g1 cp1)):Value)=qz47
   go_upto_region 11 with (fail)
   refine vR ?_
   refine vB cn_big qB43 (cn_size _) ?_
   refine vC (send0 (hA1 ia ib room) (hA2 ia ib room) [hK1 ia ib room] 7 (sent_A ia ib room hi hroom).1 (sent_A ia ib room hi hroom).2 (good_A1 ia ib room hi hk hroom) rfl g1 cp1 _) ?_
   rintro _ qw48 ⟨g2,cp2,gl,cl,rfl,HK,qg49⟩
   refine ⟨_,rfl,?_⟩
   replace qB43:=qB43.since qg49
   replace qB17:=qB17.since qg49
   replace qB31:=qB31.since qg49
   replace qB34:=qB34.since qg49
   replace E:=E.since qg49
   replace G:=G.trans qg49
   have qg49_s:=qg49.size
   have HK_o:=HK.low'
   have HK_l:=HK.lt
   refine vV (.tuple #[.agg (cnCells (at0 (hA2 ia ib room) g2 cp2)),.slice (some ⟨gl,0,none⟩) 1 cl]) ?_
   refine vV (.agg (cnCells (at0 (hA2 ia ib room) g2 cp2))) ?_
   refine vV (.slice (some ⟨gl,0,none⟩) 1 cl) ?_
   refine sB (cnCells (at0 (hA2 ia ib room) g2 cp2)) cn_big qB43 (cn_size _) (cn_size _) (cn_one _) ?_
   intro qw50 qt51 qB52
   clear qB43
   replace qB17:=qB17.touch qt51 (by omega)
   replace qB31:=qB31.touch qt51 (by omega)
   replace qB34:=qB34.touch qt51 (by omega)
   replace E:=E.touch qt51 (by omega)
   replace HK:=HK.touch qt51 (by omega)
   replace G:=since_touch G qt51 (by omega)
   have qt51_s:=qt51.size
   refine vV (.slice (some ⟨gl,0,none⟩) 1 cl) ?_
   refine vE #[.slice a len cap,U,.bool false,.int .u32 ia,.int .u32 ib,.int .i64 room,pX qw4.heap.size 0,pX qw6.heap.size 0,.bool true,pX qw21.heap.size 0,pX qw23.heap.size 0,.bool true,.slice (some ⟨gs1,0,none⟩) 0 cs1,.slice (some ⟨gl,0,none⟩) 1 cl,U,U,U,U,U,U,U,U,.slice a len cap,.bool false,qz3,.slice a len cap,qz3,.int .u32 ia,.int .u32 ib,.int .i64 room,qz18,.int .u32 ia,.int .i64 room,qz18,qz19,qz20,.bool true,.bool true,.int .i64 room,.bool true,.bool true,.int .i64 room,.bool true,.bool true,.bool false,.bool true,.bool false,qz35,qz36,.int .u32 ib,.int .i64 room,qz35,qz37,qz38,.bool true,qz44,qz45,qz46,qz44,qz47,.slice (some ⟨gs1,0,none⟩) 0 cs1,.tuple #[.agg (cnCells (at0 (hA2 ia ib room) g2 cp2)),.slice (some ⟨gl,0,none⟩) 1 cl],.agg (cnCells (at0 (hA1 ia ib room) g1 cp1)),.tuple #[.agg (cnCells (at0 (hA2 ia ib room) g2 cp2)),.slice (some ⟨gl,0,none⟩) 1 cl],.agg (cnCells (at0 (hA2 ia ib room) g2 cp2)),.slice (some ⟨gl,0,none⟩) 1 cl,U,U,U,U,U,U,U,U,U,U,U,U,U,U,U,U,U,U,U,U,U,U,U,U,U,U,U,U,U,U,U,U,U,U,U,U,U,U,U,U,U,U,U,U,U,U,U,U,U,U,U,U,U,U,U,U,U,U,U,U,U,U,U,U,U,U,U,U,U,U,U,U,U,U,U,U,U,U,U,U,U,U,U,U,U,U,U,U,U,U,U,U,U,U,U,U,U,U,U,U,U,U,U,U,U,U,U,U,U,U,U,U,U,U,U,U,U,U,U,U,U,U,U,U,U,U,U,U,U,U,U,U,U,U,U,U,U,U] ?_
   generalize (.tuple #[.agg (cnCells (at0 (hA2 ia ib room) g2 cp2)),.slice (some ⟨gl,0,none⟩) 1 cl]:Value)=qz53
   generalize (.agg (cnCells (at0 (hA1 ia ib room) g1 cp1)):Value)=qz54
   generalize (.agg (cnCells (at0 (hA2 ia ib room) g2 cp2)):Value)=qz55
   go_upto_region 12 with (fail)
   refine vR ?_
   refine vV (.bool true) ?_
   refine vV (.bool false) ?_
   refine vV (.bool false) ?_
   refine vV (.slice (some ⟨gs1,0,none⟩) 0 cs1) ?_
   refine vV (.int .i64 0) ?_
   refine vV (.bool false) ?_
   refine vV (.bool false) ?_
   refine vV (.bool false) ?_
   refine vV (.slice (some ⟨gl,0,none⟩) 1 cl) ?_
   refine vV (.int .i64 1) ?_
   refine vV (.bool false) ?_
   refine vV (.bool false) ?_
   refine vV (.bool false) ?_
   refine vV (.pointer (some ⟨qw4.heap.size,0,none⟩)) ?_
   refine vD (.int .i64 (at0 (hA2 ia ib room) g2 cp2).st) (qB52.cell 0) ?_
   refine vV (.bool false) ?_
   refine vV (.bool false) ?_
   refine vV (.bool false) ?_
   refine vV (.pointer (some ⟨qw21.heap.size,0,none⟩)) ?_
   refine vD (.int .i64 (hB0 ia ib room).st) (qB31.cell 0) ?_
   refine vV (.bool false) ?_
   refine vV (.bool false) ?_
   refine vE #[.slice a len cap,U,.bool false,.int .u32 ia,.int .u32 ib,.int .i64 room,pX qw4.heap.size 0,pX qw6.heap.size 0,.bool true,pX qw21.heap.size 0,pX qw23.heap.size 0,.bool true,.slice (some ⟨gs1,0,none⟩) 0 cs1,.slice (some ⟨gl,0,none⟩) 1 cl,U,U,U,U,U,U,U,U,.slice a len cap,.bool false,qz3,.slice a len cap,qz3,.int .u32 ia,.int .u32 ib,.int .i64 room,qz18,.int .u32 ia,.int .i64 room,qz18,qz19,qz20,.bool true,.bool true,.int .i64 room,.bool true,.bool true,.int .i64 room,.bool true,.bool true,.bool false,.bool true,.bool false,qz35,qz36,.int .u32 ib,.int .i64 room,qz35,qz37,qz38,.bool true,qz44,qz45,qz46,qz44,qz47,.slice (some ⟨gs1,0,none⟩) 0 cs1,qz53,qz54,qz53,qz55,.slice (some ⟨gl,0,none⟩) 1 cl,.bool true,.bool false,.bool false,.slice (some ⟨gs1,0,none⟩) 0 cs1,.int .i64 0,.bool false,.bool false,.bool false,.slice (some ⟨gl,0,none⟩) 1 cl,.int .i64 1,.bool false,.bool false,.bool false,pX qw4.heap.size 0,.int .i64 (at0 (hA2 ia ib room) g2 cp2).st,.bool false,.bool false,.bool false,pX qw21.heap.size 0,.int .i64 (hB0 ia ib room).st,.bool false,.bool false,U,U,U,U,U,U,U,U,U,U,U,U,U,U,U,U,U,U,U,U,U,U,U,U,U,U,U,U,U,U,U,U,U,U,U,U,U,U,U,U,U,U,U,U,U,U,U,U,U,U,U,U,U,U,U,U,U,U,U,U,U,U,U,U,U,U,U,U,U,U,U,U,U,U,U,U,U,U,U,U,U,U,U,U,U,U,U,U,U,U,U,U,U,U,U,U,U,U,U,U,U,U,U,U,U,U,U,U,U,U,U,U,U,U,U,U] ?_
   go_upto_region 14 with (fail)
   obtain ⟨BK,hBK⟩:∃ B,Held shG qw50 B gl 1 cl [hK1 ia ib room]:=⟨_,HK⟩
   replace HK:=hBK
   clear hBK
   refine wp_region_low (fun x y=>x.heap.size≤y.heap.size) (fun i x v=>match i with
     | 0=>v=.agg (cnCells (hB0 ia ib room))
     | 1=>v=.slice (some ⟨gl,0,none⟩) 1 cl
     | 2=>v=.pointer (some ⟨gl,0,none⟩)
     | 3=>v=.agg (sgCells (hK1 ia ib room))
     | 4=>∃ g cp gs cs,v=.tuple #[.agg (cnCells (at0 (hB1 ia ib room) g cp)),.slice (some ⟨gs,0,none⟩) 0 cs]
     | 5=>∃ g cp gs cs,v=.tuple #[.agg (cnCells (at0 (hB1 ia ib room) g cp)),.slice (some ⟨gs,0,none⟩) 0 cs]
     | 6=>∃ g cp,v=.agg (cnCells (at0 (hB1 ia ib room) g cp))
     | 7=>∃ gs cs,v=.slice (some ⟨gs,0,none⟩) 0 cs
     | 9=>∃ gs cs,v=.slice (some ⟨gs,0,none⟩) 0 cs
     | _=>True) (fun f vals x=>(Blk qw4.heap.size x (cnCells (at0 (hA2 ia ib room) g2 cp2)))∧(Blk qw6.heap.size x (sgCells (hS1 ia room)))∧(Blk qw23.heap.size x (sgCells (hS2 ia ib room)))∧(Laid0 x)∧(Held shG x BK gl 1 cl [hK1 ia ib room])∧(qw50.heap.size≤x.heap.size)∧(Since w x)∧((f 8=true→f 0=true))∧(∃ D,Blk qw21.heap.size x (cnCells D)∧(f 8=false→D=(hB0 ia ib room))∧(f 8=true→∃ g cp,D=at0 (hB1 ia ib room) g cp))) (fun v=>{tmps:=#[.slice a len cap,undef,.bool false,.int .u32 ia,.int .u32 ib,.int .i64 room,.pointer (some ⟨qw4.heap.size,0,none⟩),.pointer (some ⟨qw6.heap.size,0,none⟩),.bool true,.pointer (some ⟨qw21.heap.size,0,none⟩),.pointer (some ⟨qw23.heap.size,0,none⟩),.bool true,.slice (some ⟨gs1,0,none⟩) 0 cs1,.slice (some ⟨gl,0,none⟩) 1 cl,v 9,undef,undef,undef,undef,undef,undef,undef,.slice a len cap,.bool false,qz3,.slice a len cap,qz3,.int .u32 ia,.int .u32 ib,.int .i64 room,qz18,.int .u32 ia,.int .i64 room,qz18,qz19,qz20,.bool true,.bool true,.int .i64 room,.bool true,.bool true,.int .i64 room,.bool true,.bool true,.bool false,.bool true,.bool false,qz35,qz36,.int .u32 ib,.int .i64 room,qz35,qz37,qz38,.bool true,qz44,qz45,qz46,qz44,qz47,.slice (some ⟨gs1,0,none⟩) 0 cs1,qz53,qz54,qz53,qz55,.slice (some ⟨gl,0,none⟩) 1 cl,.bool true,.bool false,.bool false,.slice (some ⟨gs1,0,none⟩) 0 cs1,.int .i64 0,.bool false,.bool false,.bool false,.slice (some ⟨gl,0,none⟩) 1 cl,.int .i64 1,.bool false,.bool false,.bool false,.pointer (some ⟨qw4.heap.size,0,none⟩),.int .i64 (at0 (hA2 ia ib room) g2 cp2).st,.bool false,.bool false,.bool false,.pointer (some ⟨qw21.heap.size,0,none⟩),.int .i64 (hB0 ia ib room).st,.bool false,.bool false,v 5,v 0,v 1,v 2,v 3,v 4,v 6,v 7,undef,undef,undef,undef,undef,undef,undef,undef,undef,undef,undef,undef,undef,undef,undef,undef,undef,undef,undef,undef,undef,undef,undef,undef,undef,undef,undef,undef,undef,undef,undef,undef,undef,undef,undef,undef,undef,undef,undef,undef,undef,undef,undef,undef,undef,undef,undef,undef,undef,undef,undef,undef,undef,undef,undef,undef,undef,undef,undef,undef,undef,undef,undef,undef,undef,undef,undef,undef,undef,undef,undef,undef,undef,undef,undef,undef,undef,undef,undef,undef,undef,undef,undef,undef,undef,undef,undef,undef,undef,undef,undef,undef,undef,undef,undef,undef,undef,undef,undef,undef,undef,undef,undef,undef,undef,undef,undef,undef],defers:=[]}) (by kernel_rfl) (by kernel_rfl) ?_ ?_ (fun vals=>by kernel_rfl) ?_ ?_
   case refine_1=>
    intro j x y v hl hv
    match j,hv with
    | 0,hv|1,hv|2,hv|3,hv|4,hv|5,hv|6,hv|7,hv|9,hv=>exact hv
    | 8,hv=>trivial
    | n+10,_=>trivial
   case refine_2=>
    intro f vals hf
    refine ⟨qB52.since ((Since.refl _).drew),qB17.since ((Since.refl _).drew),qB34.since ((Since.refl _).drew),E.since ((Since.refl _).drew),HK.since ((Since.refl _).drew),((Since.refl _).drew).size,G.trans ((Since.refl _).drew),(fun h=>by rw [hf] at h;cases h),⟨_,qB31.since ((Since.refl _).drew),fun _=>rfl,fun h=>by rw [hf] at h;cases h⟩⟩
   case refine_3=>
    repeat (first|exact eachLow_nil|refine eachLow_cons ?_ ?_)
    all_goals intro f vals x hf hr hK
    all_goals obtain ⟨k0,k1,k2,k3,k4,k5,k6,k7,k8⟩:=hK
    ·skip
     obtain ⟨-,gs,cs,ev⟩:=hr ⟨7,.data⟩ (by simp) rfl
     exact does_valT (.slice (some ⟨gs,0,none⟩) 0 cs) x (by simp only [ev];kernel_rfl) ⟨Nat.le_refl _,⟨k0,k1,k2,k3,k4,k5,k6,k7,k8⟩,gs,cs,rfl⟩
    ·skip
     have f0:f 0=true:=(hr ⟨0,.phase⟩ (by simp) rfl).1
     obtain ⟨-,g,cp,ev⟩:=hr ⟨6,.data⟩ (by simp) rfl
     obtain ⟨D,BD,-,-⟩:=k8
     refine does_store cn_big (cn_size _) (Raw.of BD (cn_size _)) (cn_one _) _ _ rfl rfl ev ?_
     intro z t B
     exact ⟨t.size,⟨k0.touch t (by omega),k1.touch t (by omega),k2.touch t (by omega),k3.touch t (by omega),k4.touch t (by omega),Nat.le_trans k5 t.size,since_touch k6 t (by omega),fun _=>f0,⟨_,B,fun h=>absurd (show true=false from h) (by decide),fun _=>⟨g,cp,rfl⟩⟩⟩,trivial⟩
    ·skip
     obtain ⟨-,g,cp,gs,cs,ev⟩:=hr ⟨5,.data⟩ (by simp) rfl
     exact does_valT (.slice (some ⟨gs,0,none⟩) 0 cs) x (by simp only [ev];kernel_rfl) ⟨Nat.le_refl _,⟨k0,k1,k2,k3,k4,k5,k6,k7,k8⟩,gs,cs,rfl⟩
    ·skip
     obtain ⟨-,g,cp,gs,cs,ev⟩:=hr ⟨5,.data⟩ (by simp) rfl
     exact does_valT (.agg (cnCells (at0 (hB1 ia ib room) g cp))) x (by simp only [ev];kernel_rfl) ⟨Nat.le_refl _,⟨k0,k1,k2,k3,k4,k5,k6,k7,k8⟩,g,cp,rfl⟩
    ·skip
     obtain ⟨-,g,cp,gs,cs,ev⟩:=hr ⟨4,.data⟩ (by simp) rfl
     exact does_valT (.tuple #[.agg (cnCells (at0 (hB1 ia ib room) g cp)),.slice (some ⟨gs,0,none⟩) 0 cs]) x (by simp only [ev];kernel_rfl) ⟨Nat.le_refl _,⟨k0,k1,k2,k3,k4,k5,k6,k7,k8⟩,g,cp,gs,cs,rfl⟩
    ·skip
     have e0:vals 0=.agg (cnCells (hB0 ia ib room)):=(hr ⟨0,.data⟩ (by simp) rfl).2
     have e3:vals 3=.agg (sgCells (hK1 ia ib room)):=(hr ⟨3,.data⟩ (by simp) rfl).2
     simp [does,doesUpon,go_sem,e0,e3]
     refine (came0 (hB0 ia ib room) (hB1 ia ib room) (hK1 ia ib room) 8 (came_B ia ib room hi hk hroom) (good_B0 ia ib room hi hk hroom) rfl (word1 ia) (word1 ib) (by unfold IsInt hK1;simp) (Nat.zero_le _) _ k3).mono ?_
     rintro _ x' ⟨g,cp,gs,cs,rfl,h1⟩
     exact ⟨_,rfl,h1.size,⟨k0.since h1,k1.since h1,k2.since h1,k3.since h1,k4.since h1,Nat.le_trans k5 h1.size,k6.trans h1,k7,(by obtain ⟨D,BD,a0,a1⟩:=k8;exact ⟨D,BD.since h1,a0,a1⟩)⟩,g,cp,gs,cs,rfl⟩
    ·skip
     have e2:vals 2=.pointer (some ⟨gl,0,none⟩):=(hr ⟨2,.data⟩ (by simp) rfl).2
     exact held_load1 k4 _ rfl e2 ⟨Nat.le_refl _,⟨k0,k1,k2,k3,k4,k5,k6,k7,k8⟩,rfl⟩
    ·skip
     have e1:vals 1=.slice (some ⟨gl,0,none⟩) 1 cl:=(hr ⟨1,.data⟩ (by simp) rfl).2
     exact does_valT (.pointer (some ⟨gl,0,none⟩)) x (by simp only [e1];kernel_rfl) ⟨Nat.le_refl _,⟨k0,k1,k2,k3,k4,k5,k6,k7,k8⟩,rfl⟩
    ·skip
     exact does_valT (.slice (some ⟨gl,0,none⟩) 1 cl) x (by kernel_rfl) ⟨Nat.le_refl _,⟨k0,k1,k2,k3,k4,k5,k6,k7,k8⟩,rfl⟩
    ·skip
     obtain ⟨D,BD,hD0,hD1⟩:=k8
     have hfs:f 8=false:=by
      cases e:f 8 with
      | false=>rfl
      | true=>exact absurd (k7 e) (by rw [hf];decide)
     obtain rfl:=hD0 hfs
     exact does_load cn_big (cn_size _) BD _ rfl rfl ⟨Nat.le_refl _,⟨k0,k1,k2,k3,k4,k5,k6,fun _=>rfl,⟨_,BD,hD0,hD1⟩⟩,rfl⟩
   intro f qv57 qw56 hK hf hv
   obtain ⟨k0,k1,k2,k3,k4,k5,k6,k7,k8⟩:=hK
   obtain ⟨D,qB58,-,hD⟩:=k8
   obtain ⟨qg59,qc60,rfl⟩:=hD (hf 8 (by decide))
   clear qB52 qB17 qB34 E HK G qB31 hD k7
   have hv0:qv57 0=_:=hv 0 (by decide)
   have hv1:qv57 1=_:=hv 1 (by decide)
   have hv2:qv57 2=_:=hv 2 (by decide)
   have hv3:qv57 3=_:=hv 3 (by decide)
   obtain ⟨qy63,qy64,qy65,qy66,hv4⟩:=hv 4 (by decide)
   obtain ⟨qy67,qy68,qy69,qy70,hv5⟩:=hv 5 (by decide)
   obtain ⟨qy71,qy72,hv6⟩:=hv 6 (by decide)
   obtain ⟨qy73,qy74,hv7⟩:=hv 7 (by decide)
   obtain ⟨qy75,qy76,hv9⟩:=hv 9 (by decide)
   clear hv hf
   simp only [hv0,hv1,hv2,hv3,hv4,hv5,hv6,hv7,hv9]
   clear hv0 hv1 hv2 hv3 hv4 hv5 hv6 hv7 hv9
   have qB52:=k0
   clear k0
   have qB17:=k1
   clear k1
   have qB34:=k2
   clear k2
   have E:=k3
   clear k3
   have HK:=k4
   clear k4
   have G:=k6
   have qw56_l:=k5
   clear k6 k5
   have qB58_l:=qB58.lt
   clear HK
   go_upto_region 15 with (fail)
   refine vR ?_
   refine vV (.slice (some ⟨qy75,0,none⟩) 0 qy76) ?_
   refine vV (.int .i64 0) ?_
   refine vV (.bool false) ?_
   refine vV (.bool false) ?_
   refine vV (.pointer (some ⟨qw21.heap.size,0,none⟩)) ?_
   refine vD (.int .i64 (at0 (hB1 ia ib room) qg59 qc60).st) (qB58.cell 0) ?_
   refine vV (.bool false) ?_
   refine vV (.bool false) ?_
   refine vV (.bool false) ?_
   refine vV (.pointer (some ⟨qw4.heap.size,11,none⟩)) ?_
   refine vV (.pointer (some ⟨qw4.heap.size,11,none⟩)) ?_
   refine vD (.int .u32 (at0 (hA2 ia ib room) g2 cp2).iN) (qB52.cell 11) ?_
   refine vV (.int .u32 ib) ?_
   refine vV (.int .u32 ((ib+1) % 4294967296)) ?_
   refine vV (.bool false) ?_ (hrun:=by simp [execOp,go_sem];rfl)
   refine vV (.bool false) ?_
   refine vV (.bool false) ?_
   refine vV (.pointer (some ⟨qw21.heap.size,11,none⟩)) ?_
   refine vV (.pointer (some ⟨qw21.heap.size,11,none⟩)) ?_
   refine vD (.int .u32 (at0 (hB1 ia ib room) qg59 qc60).iN) (qB58.cell 11) ?_
   refine vV (.int .u32 ia) ?_
   refine vV (.int .u32 ((ia+1) % 4294967296)) ?_
   refine vV (.bool false) ?_ (hrun:=by simp [execOp,go_sem];rfl)
   refine vV (.bool false) ?_
   refine vV (.bool false) ?_
   refine vV (.pointer (some ⟨qw4.heap.size,2,none⟩)) ?_
   refine vD (.int .u32 (at0 (hA2 ia ib room) g2 cp2).una) (qB52.cell 2) ?_
   refine vV (.int .u32 ia) ?_
   refine vV (.int .u32 ((ia+1) % 4294967296)) ?_
   refine vV (.bool false) ?_ (hrun:=by simp [execOp,go_sem];rfl)
   refine vV (.bool false) ?_
   refine vV (.bool false) ?_
   refine vV (.pointer (some ⟨qw21.heap.size,2,none⟩)) ?_
   refine vD (.int .u32 (at0 (hB1 ia ib room) qg59 qc60).una) (qB58.cell 2) ?_
   refine vV (.int .u32 ib) ?_
   refine vV (.int .u32 ((ib+1) % 4294967296)) ?_
   refine vV (.bool false) ?_ (hrun:=by simp [execOp,go_sem];rfl)
   refine vV (.bool false) ?_
   refine vV (.bool false) ?_
   refine vB cn_big qB52 (cn_size _) ?_
   refine vK (ok0 (hA2 ia ib room) (ok_A2 ia ib room hi hroom) (good_A2 ia ib room hi hk hroom) rfl g2 cp2 _) ?_
   intro qw77 qg78
   replace qB52:=qB52.since qg78
   replace qB17:=qB17.since qg78
   replace qB58:=qB58.since qg78
   replace qB34:=qB34.since qg78
   replace E:=E.since qg78
   replace G:=G.trans qg78
   have qg78_s:=qg78.size
   refine vV (.bool false) ?_
   refine vV (.bool false) ?_
   refine vV (.bool false) ?_
   refine vB cn_big qB58 (cn_size _) ?_
   refine vK (ok0 (hB1 ia ib room) (ok_B1 ia ib room hk hroom) (good_B1 ia ib room hi hk hroom) rfl qg59 qc60 _) ?_
   intro qw79 qg80
   replace qB52:=qB52.since qg80
   replace qB17:=qB17.since qg80
   replace qB58:=qB58.since qg80
   replace qB34:=qB34.since qg80
   replace E:=E.since qg80
   replace G:=G.trans qg80
   have qg80_s:=qg80.size
   refine vV (.bool false) ?_
   refine vV (.bool false) ?_
   refine vE #[.slice a len cap,U,.bool false,.int .u32 ia,.int .u32 ib,.int .i64 room,pX qw4.heap.size 0,pX qw6.heap.size 0,.bool true,pX qw21.heap.size 0,pX qw23.heap.size 0,.bool true,.slice (some ⟨gs1,0,none⟩) 0 cs1,.slice (some ⟨gl,0,none⟩) 1 cl,.slice (some ⟨qy75,0,none⟩) 0 qy76,U,U,U,U,U,U,U,.slice a len cap,.bool false,qz3,.slice a len cap,qz3,.int .u32 ia,.int .u32 ib,.int .i64 room,qz18,.int .u32 ia,.int .i64 room,qz18,qz19,qz20,.bool true,.bool true,.int .i64 room,.bool true,.bool true,.int .i64 room,.bool true,.bool true,.bool false,.bool true,.bool false,qz35,qz36,.int .u32 ib,.int .i64 room,qz35,qz37,qz38,.bool true,qz44,qz45,qz46,qz44,qz47,.slice (some ⟨gs1,0,none⟩) 0 cs1,qz53,qz54,qz53,qz55,.slice (some ⟨gl,0,none⟩) 1 cl,.bool true,.bool false,.bool false,.slice (some ⟨gs1,0,none⟩) 0 cs1,.int .i64 0,.bool false,.bool false,.bool false,.slice (some ⟨gl,0,none⟩) 1 cl,.int .i64 1,.bool false,.bool false,.bool false,pX qw4.heap.size 0,.int .i64 (at0 (hA2 ia ib room) g2 cp2).st,.bool false,.bool false,.bool false,pX qw21.heap.size 0,.int .i64 (hB0 ia ib room).st,.bool false,.bool false,.tuple #[.agg (cnCells (at0 (hB1 ia ib room) qy67 qy68)),.slice (some ⟨qy69,0,none⟩) 0 qy70],.agg (cnCells (hB0 ia ib room)),.slice (some ⟨gl,0,none⟩) 1 cl,pX gl 0,.agg (sgCells (hK1 ia ib room)),.tuple #[.agg (cnCells (at0 (hB1 ia ib room) qy63 qy64)),.slice (some ⟨qy65,0,none⟩) 0 qy66],.agg (cnCells (at0 (hB1 ia ib room) qy71 qy72)),.slice (some ⟨qy73,0,none⟩) 0 qy74,.slice (some ⟨qy75,0,none⟩) 0 qy76,.int .i64 0,.bool false,.bool false,pX qw21.heap.size 0,.int .i64 (at0 (hB1 ia ib room) qg59 qc60).st,.bool false,.bool false,.bool false,pX qw4.heap.size 11,pX qw4.heap.size 11,.int .u32 (at0 (hA2 ia ib room) g2 cp2).iN,.int .u32 ib,.int .u32 ((ib+1) % 4294967296),.bool false,.bool false,.bool false,pX qw21.heap.size 11,pX qw21.heap.size 11,.int .u32 (at0 (hB1 ia ib room) qg59 qc60).iN,.int .u32 ia,.int .u32 ((ia+1) % 4294967296),.bool false,.bool false,.bool false,pX qw4.heap.size 2,.int .u32 (at0 (hA2 ia ib room) g2 cp2).una,.int .u32 ia,.int .u32 ((ia+1) % 4294967296),.bool false,.bool false,.bool false,pX qw21.heap.size 2,.int .u32 (at0 (hB1 ia ib room) qg59 qc60).una,.int .u32 ib,.int .u32 ((ib+1) % 4294967296),.bool false,.bool false,.bool false,.agg (cnCells (at0 (hA2 ia ib room) g2 cp2)),.bool true,.bool false,.bool false,.bool false,.agg (cnCells (at0 (hB1 ia ib room) qg59 qc60)),.bool true,.bool false,.bool false,U,U,U,U,U,U,U,U,U,U,U,U,U,U,U,U,U,U,U,U,U,U,U,U,U,U,U,U,U,U,U,U,U,U,U,U,U,U,U,U,U,U,U,U,U,U,U,U,U,U,U,U,U,U,U,U,U,U,U,U] ?_
   generalize (.tuple #[.agg (cnCells (at0 (hB1 ia ib room) qy67 qy68)),.slice (some ⟨qy69,0,none⟩) 0 qy70]:Value)=qz81
   generalize (.agg (cnCells (hB0 ia ib room)):Value)=qz82
   generalize (.agg (sgCells (hK1 ia ib room)):Value)=qz83
   generalize (.tuple #[.agg (cnCells (at0 (hB1 ia ib room) qy63 qy64)),.slice (some ⟨qy65,0,none⟩) 0 qy66]:Value)=qz84
   generalize (.agg (cnCells (at0 (hB1 ia ib room) qy71 qy72)):Value)=qz85
   generalize (.agg (cnCells (at0 (hA2 ia ib room) g2 cp2)):Value)=qz86
   generalize (.agg (cnCells (at0 (hB1 ia ib room) qg59 qc60)):Value)=qz87
   go_upto_region 17 with (fail)
   refine vR ?_
   refine vV (.string hW) ?_
   refine vE #[.slice a len cap,U,.bool false,.int .u32 ia,.int .u32 ib,.int .i64 room,pX qw4.heap.size 0,pX qw6.heap.size 0,.bool true,pX qw21.heap.size 0,pX qw23.heap.size 0,.bool true,.slice (some ⟨gs1,0,none⟩) 0 cs1,.slice (some ⟨gl,0,none⟩) 1 cl,.slice (some ⟨qy75,0,none⟩) 0 qy76,.string hW,U,U,U,U,U,U,.slice a len cap,.bool false,qz3,.slice a len cap,qz3,.int .u32 ia,.int .u32 ib,.int .i64 room,qz18,.int .u32 ia,.int .i64 room,qz18,qz19,qz20,.bool true,.bool true,.int .i64 room,.bool true,.bool true,.int .i64 room,.bool true,.bool true,.bool false,.bool true,.bool false,qz35,qz36,.int .u32 ib,.int .i64 room,qz35,qz37,qz38,.bool true,qz44,qz45,qz46,qz44,qz47,.slice (some ⟨gs1,0,none⟩) 0 cs1,qz53,qz54,qz53,qz55,.slice (some ⟨gl,0,none⟩) 1 cl,.bool true,.bool false,.bool false,.slice (some ⟨gs1,0,none⟩) 0 cs1,.int .i64 0,.bool false,.bool false,.bool false,.slice (some ⟨gl,0,none⟩) 1 cl,.int .i64 1,.bool false,.bool false,.bool false,pX qw4.heap.size 0,.int .i64 (at0 (hA2 ia ib room) g2 cp2).st,.bool false,.bool false,.bool false,pX qw21.heap.size 0,.int .i64 (hB0 ia ib room).st,.bool false,.bool false,qz81,qz82,.slice (some ⟨gl,0,none⟩) 1 cl,pX gl 0,qz83,qz84,qz85,.slice (some ⟨qy73,0,none⟩) 0 qy74,.slice (some ⟨qy75,0,none⟩) 0 qy76,.int .i64 0,.bool false,.bool false,pX qw21.heap.size 0,.int .i64 (at0 (hB1 ia ib room) qg59 qc60).st,.bool false,.bool false,.bool false,pX qw4.heap.size 11,pX qw4.heap.size 11,.int .u32 (at0 (hA2 ia ib room) g2 cp2).iN,.int .u32 ib,.int .u32 ((ib+1) % 4294967296),.bool false,.bool false,.bool false,pX qw21.heap.size 11,pX qw21.heap.size 11,.int .u32 (at0 (hB1 ia ib room) qg59 qc60).iN,.int .u32 ia,.int .u32 ((ia+1) % 4294967296),.bool false,.bool false,.bool false,pX qw4.heap.size 2,.int .u32 (at0 (hA2 ia ib room) g2 cp2).una,.int .u32 ia,.int .u32 ((ia+1) % 4294967296),.bool false,.bool false,.bool false,pX qw21.heap.size 2,.int .u32 (at0 (hB1 ia ib room) qg59 qc60).una,.int .u32 ib,.int .u32 ((ib+1) % 4294967296),.bool false,.bool false,.bool false,qz86,.bool true,.bool false,.bool false,.bool false,qz87,.bool true,.bool false,.bool false,U,U,U,U,U,U,U,U,U,U,U,U,U,U,U,U,U,U,U,U,U,U,U,U,U,U,U,U,U,U,U,U,U,U,U,U,U,U,U,U,U,U,U,U,U,U,U,U,U,U,U,U,U,U,U,U,U,U,U,U] ?_
   obtain ⟨mm,hmm⟩:∃ m:Nat,Hid (m=hM room):=⟨_,rfl⟩
   have hmi:=hM_in room hroom
   rw [← hmm.out] at hmi
   have hsz:=hT_size room
   rw [← hmm.out] at hsz
   go_upto_region 18 with (fail)
   refine vR ?_
   refine vB cn_big qB52 (cn_size _) ?_
   refine vV (.string hW) ?_
   refine vC (write0 (hA2 ia ib room) (hA3 ia ib room) mm hW (by decide) (write_A ia ib room hi hroom).1 (by rw [hmm.out];exact (write_A ia ib room hi hroom).2) (good_A2 ia ib room hi hk hroom) rfl g2 cp2 _) ?_
   rintro _ qw88 ⟨g3,rfl,qg89⟩
   refine ⟨_,rfl,?_⟩
   replace qB52:=qB52.since qg89
   replace qB17:=qB17.since qg89
   replace qB58:=qB58.since qg89
   replace qB34:=qB34.since qg89
   replace E:=E.since qg89
   replace G:=G.trans qg89
   have qg89_s:=qg89.size
   refine vV (.tuple #[.agg (cnCells (at0 (hA3 ia ib room) g3 0)),.int .i64 (mm:Int)]) ?_
   refine vV (.agg (cnCells (at0 (hA3 ia ib room) g3 0))) ?_
   refine vV (.int .i64 (mm:Int)) ?_
   refine sB (cnCells (at0 (hA3 ia ib room) g3 0)) cn_big qB52 (cn_size _) (cn_size _) (cn_one _) ?_
   intro qw90 qt91 qB92
   clear qB52
   replace qB17:=qB17.touch qt91 (by omega)
   replace qB58:=qB58.touch qt91 (by omega)
   replace qB34:=qB34.touch qt91 (by omega)
   replace E:=E.touch qt91 (by omega)
   replace G:=since_touch G qt91 (by omega)
   have qt91_s:=qt91.size
   refine vV (.int .i64 (mm:Int)) ?_
   refine vE #[.slice a len cap,U,.bool false,.int .u32 ia,.int .u32 ib,.int .i64 room,pX qw4.heap.size 0,pX qw6.heap.size 0,.bool true,pX qw21.heap.size 0,pX qw23.heap.size 0,.bool true,.slice (some ⟨gs1,0,none⟩) 0 cs1,.slice (some ⟨gl,0,none⟩) 1 cl,.slice (some ⟨qy75,0,none⟩) 0 qy76,.string hW,.int .i64 (mm:Int),U,U,U,U,U,.slice a len cap,.bool false,qz3,.slice a len cap,qz3,.int .u32 ia,.int .u32 ib,.int .i64 room,qz18,.int .u32 ia,.int .i64 room,qz18,qz19,qz20,.bool true,.bool true,.int .i64 room,.bool true,.bool true,.int .i64 room,.bool true,.bool true,.bool false,.bool true,.bool false,qz35,qz36,.int .u32 ib,.int .i64 room,qz35,qz37,qz38,.bool true,qz44,qz45,qz46,qz44,qz47,.slice (some ⟨gs1,0,none⟩) 0 cs1,qz53,qz54,qz53,qz55,.slice (some ⟨gl,0,none⟩) 1 cl,.bool true,.bool false,.bool false,.slice (some ⟨gs1,0,none⟩) 0 cs1,.int .i64 0,.bool false,.bool false,.bool false,.slice (some ⟨gl,0,none⟩) 1 cl,.int .i64 1,.bool false,.bool false,.bool false,pX qw4.heap.size 0,.int .i64 (at0 (hA2 ia ib room) g2 cp2).st,.bool false,.bool false,.bool false,pX qw21.heap.size 0,.int .i64 (hB0 ia ib room).st,.bool false,.bool false,qz81,qz82,.slice (some ⟨gl,0,none⟩) 1 cl,pX gl 0,qz83,qz84,qz85,.slice (some ⟨qy73,0,none⟩) 0 qy74,.slice (some ⟨qy75,0,none⟩) 0 qy76,.int .i64 0,.bool false,.bool false,pX qw21.heap.size 0,.int .i64 (at0 (hB1 ia ib room) qg59 qc60).st,.bool false,.bool false,.bool false,pX qw4.heap.size 11,pX qw4.heap.size 11,.int .u32 (at0 (hA2 ia ib room) g2 cp2).iN,.int .u32 ib,.int .u32 ((ib+1) % 4294967296),.bool false,.bool false,.bool false,pX qw21.heap.size 11,pX qw21.heap.size 11,.int .u32 (at0 (hB1 ia ib room) qg59 qc60).iN,.int .u32 ia,.int .u32 ((ia+1) % 4294967296),.bool false,.bool false,.bool false,pX qw4.heap.size 2,.int .u32 (at0 (hA2 ia ib room) g2 cp2).una,.int .u32 ia,.int .u32 ((ia+1) % 4294967296),.bool false,.bool false,.bool false,pX qw21.heap.size 2,.int .u32 (at0 (hB1 ia ib room) qg59 qc60).una,.int .u32 ib,.int .u32 ((ib+1) % 4294967296),.bool false,.bool false,.bool false,qz86,.bool true,.bool false,.bool false,.bool false,qz87,.bool true,.bool false,.bool false,.tuple #[.agg (cnCells (at0 (hA3 ia ib room) g3 0)),.int .i64 (mm:Int)],.agg (cnCells (at0 (hA2 ia ib room) g2 cp2)),.string hW,.tuple #[.agg (cnCells (at0 (hA3 ia ib room) g3 0)),.int .i64 (mm:Int)],.agg (cnCells (at0 (hA3 ia ib room) g3 0)),.int .i64 (mm:Int),U,U,U,U,U,U,U,U,U,U,U,U,U,U,U,U,U,U,U,U,U,U,U,U,U,U,U,U,U,U,U,U,U,U,U,U,U,U,U,U,U,U,U,U,U,U,U,U,U,U,U,U,U,U] ?_
   generalize (.tuple #[.agg (cnCells (at0 (hA3 ia ib room) g3 0)),.int .i64 (mm:Int)]:Value)=qz93
   generalize (.agg (cnCells (at0 (hA2 ia ib room) g2 cp2)):Value)=qz94
   generalize (.agg (cnCells (at0 (hA3 ia ib room) g3 0)):Value)=qz95
   go_upto_region 19 with (fail)
   refine vR ?_
   refine vB cn_big qB92 (cn_size _) ?_
   refine vC (send0 (hA3 ia ib room) (sentC (hA3 ia ib room) [] 9) [hP ia ib room] 9 rfl (sent_P ia ib room hi hroom) (good_A3 ia ib room hi hk hroom) rfl g3 0 _) ?_
   rintro _ qw96 ⟨g4,cp4,gl4,cl4,rfl,HP,qg97⟩
   refine ⟨_,rfl,?_⟩
   replace qB92:=qB92.since qg97
   replace qB17:=qB17.since qg97
   replace qB58:=qB58.since qg97
   replace qB34:=qB34.since qg97
   replace E:=E.since qg97
   replace G:=G.trans qg97
   have qg97_s:=qg97.size
   have HP_o:=HP.low'
   have HP_l:=HP.lt
   refine vV (.tuple #[.agg (cnCells (at0 (sentC (hA3 ia ib room) [] 9) g4 cp4)),.slice (some ⟨gl4,0,none⟩) 1 cl4]) ?_
   refine vV (.agg (cnCells (at0 (sentC (hA3 ia ib room) [] 9) g4 cp4))) ?_
   refine vV (.slice (some ⟨gl4,0,none⟩) 1 cl4) ?_
   refine sB (cnCells (at0 (sentC (hA3 ia ib room) [] 9) g4 cp4)) cn_big qB92 (cn_size _) (cn_size _) (cn_one _) ?_
   intro qw98 qt99 qB100
   clear qB92
   replace qB17:=qB17.touch qt99 (by omega)
   replace qB58:=qB58.touch qt99 (by omega)
   replace qB34:=qB34.touch qt99 (by omega)
   replace E:=E.touch qt99 (by omega)
   replace HP:=HP.touch qt99 (by omega)
   replace G:=since_touch G qt99 (by omega)
   have qt99_s:=qt99.size
   refine vV (.slice (some ⟨gl4,0,none⟩) 1 cl4) ?_
   refine vE #[.slice a len cap,U,.bool false,.int .u32 ia,.int .u32 ib,.int .i64 room,pX qw4.heap.size 0,pX qw6.heap.size 0,.bool true,pX qw21.heap.size 0,pX qw23.heap.size 0,.bool true,.slice (some ⟨gs1,0,none⟩) 0 cs1,.slice (some ⟨gl,0,none⟩) 1 cl,.slice (some ⟨qy75,0,none⟩) 0 qy76,.string hW,.int .i64 (mm:Int),.slice (some ⟨gl4,0,none⟩) 1 cl4,U,U,U,U,.slice a len cap,.bool false,qz3,.slice a len cap,qz3,.int .u32 ia,.int .u32 ib,.int .i64 room,qz18,.int .u32 ia,.int .i64 room,qz18,qz19,qz20,.bool true,.bool true,.int .i64 room,.bool true,.bool true,.int .i64 room,.bool true,.bool true,.bool false,.bool true,.bool false,qz35,qz36,.int .u32 ib,.int .i64 room,qz35,qz37,qz38,.bool true,qz44,qz45,qz46,qz44,qz47,.slice (some ⟨gs1,0,none⟩) 0 cs1,qz53,qz54,qz53,qz55,.slice (some ⟨gl,0,none⟩) 1 cl,.bool true,.bool false,.bool false,.slice (some ⟨gs1,0,none⟩) 0 cs1,.int .i64 0,.bool false,.bool false,.bool false,.slice (some ⟨gl,0,none⟩) 1 cl,.int .i64 1,.bool false,.bool false,.bool false,pX qw4.heap.size 0,.int .i64 (at0 (hA2 ia ib room) g2 cp2).st,.bool false,.bool false,.bool false,pX qw21.heap.size 0,.int .i64 (hB0 ia ib room).st,.bool false,.bool false,qz81,qz82,.slice (some ⟨gl,0,none⟩) 1 cl,pX gl 0,qz83,qz84,qz85,.slice (some ⟨qy73,0,none⟩) 0 qy74,.slice (some ⟨qy75,0,none⟩) 0 qy76,.int .i64 0,.bool false,.bool false,pX qw21.heap.size 0,.int .i64 (at0 (hB1 ia ib room) qg59 qc60).st,.bool false,.bool false,.bool false,pX qw4.heap.size 11,pX qw4.heap.size 11,.int .u32 (at0 (hA2 ia ib room) g2 cp2).iN,.int .u32 ib,.int .u32 ((ib+1) % 4294967296),.bool false,.bool false,.bool false,pX qw21.heap.size 11,pX qw21.heap.size 11,.int .u32 (at0 (hB1 ia ib room) qg59 qc60).iN,.int .u32 ia,.int .u32 ((ia+1) % 4294967296),.bool false,.bool false,.bool false,pX qw4.heap.size 2,.int .u32 (at0 (hA2 ia ib room) g2 cp2).una,.int .u32 ia,.int .u32 ((ia+1) % 4294967296),.bool false,.bool false,.bool false,pX qw21.heap.size 2,.int .u32 (at0 (hB1 ia ib room) qg59 qc60).una,.int .u32 ib,.int .u32 ((ib+1) % 4294967296),.bool false,.bool false,.bool false,qz86,.bool true,.bool false,.bool false,.bool false,qz87,.bool true,.bool false,.bool false,qz93,qz94,.string hW,qz93,qz95,.int .i64 (mm:Int),.tuple #[.agg (cnCells (at0 (sentC (hA3 ia ib room) [] 9) g4 cp4)),.slice (some ⟨gl4,0,none⟩) 1 cl4],.agg (cnCells (at0 (hA3 ia ib room) g3 0)),.tuple #[.agg (cnCells (at0 (sentC (hA3 ia ib room) [] 9) g4 cp4)),.slice (some ⟨gl4,0,none⟩) 1 cl4],.agg (cnCells (at0 (sentC (hA3 ia ib room) [] 9) g4 cp4)),.slice (some ⟨gl4,0,none⟩) 1 cl4,U,U,U,U,U,U,U,U,U,U,U,U,U,U,U,U,U,U,U,U,U,U,U,U,U,U,U,U,U,U,U,U,U,U,U,U,U,U,U,U,U,U,U,U,U,U,U,U,U] ?_
   generalize (.tuple #[.agg (cnCells (at0 (sentC (hA3 ia ib room) [] 9) g4 cp4)),.slice (some ⟨gl4,0,none⟩) 1 cl4]:Value)=qz101
   generalize (.agg (cnCells (at0 (hA3 ia ib room) g3 0)):Value)=qz102
   generalize (.agg (cnCells (at0 (sentC (hA3 ia ib room) [] 9) g4 cp4)):Value)=qz103
   go_upto_region 20 with (fail)
   refine vR ?_
   refine vV (.string ⟨#[]⟩) ?_
   refine vE #[.slice a len cap,U,.bool false,.int .u32 ia,.int .u32 ib,.int .i64 room,pX qw4.heap.size 0,pX qw6.heap.size 0,.bool true,pX qw21.heap.size 0,pX qw23.heap.size 0,.bool true,.slice (some ⟨gs1,0,none⟩) 0 cs1,.slice (some ⟨gl,0,none⟩) 1 cl,.slice (some ⟨qy75,0,none⟩) 0 qy76,.string hW,.int .i64 (mm:Int),.slice (some ⟨gl4,0,none⟩) 1 cl4,.string ⟨#[]⟩,U,U,U,.slice a len cap,.bool false,qz3,.slice a len cap,qz3,.int .u32 ia,.int .u32 ib,.int .i64 room,qz18,.int .u32 ia,.int .i64 room,qz18,qz19,qz20,.bool true,.bool true,.int .i64 room,.bool true,.bool true,.int .i64 room,.bool true,.bool true,.bool false,.bool true,.bool false,qz35,qz36,.int .u32 ib,.int .i64 room,qz35,qz37,qz38,.bool true,qz44,qz45,qz46,qz44,qz47,.slice (some ⟨gs1,0,none⟩) 0 cs1,qz53,qz54,qz53,qz55,.slice (some ⟨gl,0,none⟩) 1 cl,.bool true,.bool false,.bool false,.slice (some ⟨gs1,0,none⟩) 0 cs1,.int .i64 0,.bool false,.bool false,.bool false,.slice (some ⟨gl,0,none⟩) 1 cl,.int .i64 1,.bool false,.bool false,.bool false,pX qw4.heap.size 0,.int .i64 (at0 (hA2 ia ib room) g2 cp2).st,.bool false,.bool false,.bool false,pX qw21.heap.size 0,.int .i64 (hB0 ia ib room).st,.bool false,.bool false,qz81,qz82,.slice (some ⟨gl,0,none⟩) 1 cl,pX gl 0,qz83,qz84,qz85,.slice (some ⟨qy73,0,none⟩) 0 qy74,.slice (some ⟨qy75,0,none⟩) 0 qy76,.int .i64 0,.bool false,.bool false,pX qw21.heap.size 0,.int .i64 (at0 (hB1 ia ib room) qg59 qc60).st,.bool false,.bool false,.bool false,pX qw4.heap.size 11,pX qw4.heap.size 11,.int .u32 (at0 (hA2 ia ib room) g2 cp2).iN,.int .u32 ib,.int .u32 ((ib+1) % 4294967296),.bool false,.bool false,.bool false,pX qw21.heap.size 11,pX qw21.heap.size 11,.int .u32 (at0 (hB1 ia ib room) qg59 qc60).iN,.int .u32 ia,.int .u32 ((ia+1) % 4294967296),.bool false,.bool false,.bool false,pX qw4.heap.size 2,.int .u32 (at0 (hA2 ia ib room) g2 cp2).una,.int .u32 ia,.int .u32 ((ia+1) % 4294967296),.bool false,.bool false,.bool false,pX qw21.heap.size 2,.int .u32 (at0 (hB1 ia ib room) qg59 qc60).una,.int .u32 ib,.int .u32 ((ib+1) % 4294967296),.bool false,.bool false,.bool false,qz86,.bool true,.bool false,.bool false,.bool false,qz87,.bool true,.bool false,.bool false,qz93,qz94,.string hW,qz93,qz95,.int .i64 (mm:Int),qz101,qz102,qz101,qz103,.slice (some ⟨gl4,0,none⟩) 1 cl4,U,U,U,U,U,U,U,U,U,U,U,U,U,U,U,U,U,U,U,U,U,U,U,U,U,U,U,U,U,U,U,U,U,U,U,U,U,U,U,U,U,U,U,U,U,U,U,U,U] ?_
   go_upto_region 21 with (fail)
   refine vR ?_
   refine vV (.int .i64 0) ?_
   refine vE #[.slice a len cap,U,.bool false,.int .u32 ia,.int .u32 ib,.int .i64 room,pX qw4.heap.size 0,pX qw6.heap.size 0,.bool true,pX qw21.heap.size 0,pX qw23.heap.size 0,.bool true,.slice (some ⟨gs1,0,none⟩) 0 cs1,.slice (some ⟨gl,0,none⟩) 1 cl,.slice (some ⟨qy75,0,none⟩) 0 qy76,.string hW,.int .i64 (mm:Int),.slice (some ⟨gl4,0,none⟩) 1 cl4,.string ⟨#[]⟩,.int .i64 0,U,U,.slice a len cap,.bool false,qz3,.slice a len cap,qz3,.int .u32 ia,.int .u32 ib,.int .i64 room,qz18,.int .u32 ia,.int .i64 room,qz18,qz19,qz20,.bool true,.bool true,.int .i64 room,.bool true,.bool true,.int .i64 room,.bool true,.bool true,.bool false,.bool true,.bool false,qz35,qz36,.int .u32 ib,.int .i64 room,qz35,qz37,qz38,.bool true,qz44,qz45,qz46,qz44,qz47,.slice (some ⟨gs1,0,none⟩) 0 cs1,qz53,qz54,qz53,qz55,.slice (some ⟨gl,0,none⟩) 1 cl,.bool true,.bool false,.bool false,.slice (some ⟨gs1,0,none⟩) 0 cs1,.int .i64 0,.bool false,.bool false,.bool false,.slice (some ⟨gl,0,none⟩) 1 cl,.int .i64 1,.bool false,.bool false,.bool false,pX qw4.heap.size 0,.int .i64 (at0 (hA2 ia ib room) g2 cp2).st,.bool false,.bool false,.bool false,pX qw21.heap.size 0,.int .i64 (hB0 ia ib room).st,.bool false,.bool false,qz81,qz82,.slice (some ⟨gl,0,none⟩) 1 cl,pX gl 0,qz83,qz84,qz85,.slice (some ⟨qy73,0,none⟩) 0 qy74,.slice (some ⟨qy75,0,none⟩) 0 qy76,.int .i64 0,.bool false,.bool false,pX qw21.heap.size 0,.int .i64 (at0 (hB1 ia ib room) qg59 qc60).st,.bool false,.bool false,.bool false,pX qw4.heap.size 11,pX qw4.heap.size 11,.int .u32 (at0 (hA2 ia ib room) g2 cp2).iN,.int .u32 ib,.int .u32 ((ib+1) % 4294967296),.bool false,.bool false,.bool false,pX qw21.heap.size 11,pX qw21.heap.size 11,.int .u32 (at0 (hB1 ia ib room) qg59 qc60).iN,.int .u32 ia,.int .u32 ((ia+1) % 4294967296),.bool false,.bool false,.bool false,pX qw4.heap.size 2,.int .u32 (at0 (hA2 ia ib room) g2 cp2).una,.int .u32 ia,.int .u32 ((ia+1) % 4294967296),.bool false,.bool false,.bool false,pX qw21.heap.size 2,.int .u32 (at0 (hB1 ia ib room) qg59 qc60).una,.int .u32 ib,.int .u32 ((ib+1) % 4294967296),.bool false,.bool false,.bool false,qz86,.bool true,.bool false,.bool false,.bool false,qz87,.bool true,.bool false,.bool false,qz93,qz94,.string hW,qz93,qz95,.int .i64 (mm:Int),qz101,qz102,qz101,qz103,.slice (some ⟨gl4,0,none⟩) 1 cl4,U,U,U,U,U,U,U,U,U,U,U,U,U,U,U,U,U,U,U,U,U,U,U,U,U,U,U,U,U,U,U,U,U,U,U,U,U,U,U,U,U,U,U,U,U,U,U,U,U] ?_
   obtain ⟨BP,hBP⟩:∃ B,Held shG qw98 B gl4 1 cl4 [hP ia ib room]:=⟨_,HP⟩
   replace HP:=hBP
   clear hBP
   go_wp2_with (fail)
   go_loopw [18,19] (fun gt it wr=>(gt=.string ByteArray.empty∧it=.int .i64 0∧Blk qw21.heap.size wr (cnCells (at0 (hB1 ia ib room) qg59 qc60))∧Laid0 wr∧Held shG wr BP gl4 1 cl4 [hP ia ib room]∧Since w wr∧qw98.heap.size≤wr.heap.size)∨(gt=.string (hT room)∧it=.int .i64 1∧Since w wr)) (fun _ i _=>1 - (intOf i).toNat)
   case atStart=>exact .inl ⟨rfl,rfl,qB58,E,HP,G,Nat.le_refl _⟩
   case round=>
    rcases hrel with ⟨rfl,rfl,B9,E9,HP9,S9,hz9⟩|⟨rfl,rfl,S9⟩
    ·skip
     clear qB100 qB17 qB58 qB34 E HP G
     have E:=E9
     have HP:=HP9
     have G:=S9
     clear E9 HP9 S9
     have HP_o:=HP.low'
     have HP_l2:=HP.lt
     have B9_l:=B9.lt
     go_upto_region 22 with (fail)
     refine vR ?_
     refine vV (.int .i64 0) ?_
     refine vV (.slice (some ⟨gl4,0,none⟩) 1 cl4) ?_
     refine vV (.int .i64 1) ?_
     refine vV (.bool true) ?_
     refine vE #[.slice a len cap,U,.bool false,.int .u32 ia,.int .u32 ib,.int .i64 room,pX qw4.heap.size 0,pX qw6.heap.size 0,.bool true,pX qw21.heap.size 0,pX qw23.heap.size 0,.bool true,.slice (some ⟨gs1,0,none⟩) 0 cs1,.slice (some ⟨gl,0,none⟩) 1 cl,.slice (some ⟨qy75,0,none⟩) 0 qy76,.string hW,.int .i64 (mm:Int),.slice (some ⟨gl4,0,none⟩) 1 cl4,.string ByteArray.empty,.int .i64 0,u20,u21,.slice a len cap,.bool false,qz3,.slice a len cap,qz3,.int .u32 ia,.int .u32 ib,.int .i64 room,qz18,.int .u32 ia,.int .i64 room,qz18,qz19,qz20,.bool true,.bool true,.int .i64 room,.bool true,.bool true,.int .i64 room,.bool true,.bool true,.bool false,.bool true,.bool false,qz35,qz36,.int .u32 ib,.int .i64 room,qz35,qz37,qz38,.bool true,qz44,qz45,qz46,qz44,qz47,.slice (some ⟨gs1,0,none⟩) 0 cs1,qz53,qz54,qz53,qz55,.slice (some ⟨gl,0,none⟩) 1 cl,.bool true,.bool false,.bool false,.slice (some ⟨gs1,0,none⟩) 0 cs1,.int .i64 0,.bool false,.bool false,.bool false,.slice (some ⟨gl,0,none⟩) 1 cl,.int .i64 1,.bool false,.bool false,.bool false,pX qw4.heap.size 0,.int .i64 (at0 (hA2 ia ib room) g2 cp2).st,.bool false,.bool false,.bool false,pX qw21.heap.size 0,.int .i64 (hB0 ia ib room).st,.bool false,.bool false,qz81,qz82,.slice (some ⟨gl,0,none⟩) 1 cl,pX gl 0,qz83,qz84,qz85,.slice (some ⟨qy73,0,none⟩) 0 qy74,.slice (some ⟨qy75,0,none⟩) 0 qy76,.int .i64 0,.bool false,.bool false,pX qw21.heap.size 0,.int .i64 (at0 (hB1 ia ib room) qg59 qc60).st,.bool false,.bool false,.bool false,pX qw4.heap.size 11,pX qw4.heap.size 11,.int .u32 (at0 (hA2 ia ib room) g2 cp2).iN,.int .u32 ib,.int .u32 ((ib+1) % 4294967296),.bool false,.bool false,.bool false,pX qw21.heap.size 11,pX qw21.heap.size 11,.int .u32 (at0 (hB1 ia ib room) qg59 qc60).iN,.int .u32 ia,.int .u32 ((ia+1) % 4294967296),.bool false,.bool false,.bool false,pX qw4.heap.size 2,.int .u32 (at0 (hA2 ia ib room) g2 cp2).una,.int .u32 ia,.int .u32 ((ia+1) % 4294967296),.bool false,.bool false,.bool false,pX qw21.heap.size 2,.int .u32 (at0 (hB1 ia ib room) qg59 qc60).una,.int .u32 ib,.int .u32 ((ib+1) % 4294967296),.bool false,.bool false,.bool false,qz86,.bool true,.bool false,.bool false,.bool false,qz87,.bool true,.bool false,.bool false,qz93,qz94,.string hW,qz93,qz95,.int .i64 (mm:Int),qz101,qz102,qz101,qz103,.slice (some ⟨gl4,0,none⟩) 1 cl4,.int .i64 0,.slice (some ⟨gl4,0,none⟩) 1 cl4,.int .i64 1,.bool true,u159,u160,u161,u162,u163,u164,u165,u166,u167,u168,u169,u170,u171,u172,u173,u174,u175,u176,u177,u178,U,U,U,U,U,U,U,U,U,U,U,U,U,U,U,U,U,U,U,U,U,U,U,U,U] ?_
     go_upto_region 24 with (fail)
     refine wp_region_low (fun x y=>x.heap.size≤y.heap.size) (fun i x v=>match i with
       | 0=>v=.agg (cnCells (at0 (hB1 ia ib room) qg59 qc60))
       | 1=>v=.slice (some ⟨gl4,0,none⟩) 1 cl4
       | 2=>v=.int .i64 0
       | 3=>v=.pointer (some ⟨gl4,0,none⟩)
       | 4=>v=.agg (sgCells (hP ia ib room))
       | 5=>∃ g cp gs cs,v=.tuple #[.agg (cnCells (at0 (at0 (hB2 ia ib room) qg59 qc60) g cp)),.slice (some ⟨gs,0,none⟩) 0 cs]
       | 6=>∃ g cp gs cs,v=.tuple #[.agg (cnCells (at0 (at0 (hB2 ia ib room) qg59 qc60) g cp)),.slice (some ⟨gs,0,none⟩) 0 cs]
       | 7=>∃ g cp,v=.agg (cnCells (at0 (at0 (hB2 ia ib room) qg59 qc60) g cp))
       | 8=>∃ gs cs,v=.slice (some ⟨gs,0,none⟩) 0 cs
       | _=>True) (fun f vals x=>(Laid0 x)∧(Held shG x BP gl4 1 cl4 [hP ia ib room])∧(wr.heap.size≤x.heap.size)∧(Since w x)∧((f 9=true→f 0=true))∧(∃ D,Blk qw21.heap.size x (cnCells D)∧(f 9=false→D=(at0 (hB1 ia ib room) qg59 qc60))∧(f 9=true→∃ g cp,D=at0 (at0 (hB2 ia ib room) qg59 qc60) g cp))) (fun v=>{tmps:=#[.slice a len cap,undef,.bool false,.int .u32 ia,.int .u32 ib,.int .i64 room,.pointer (some ⟨qw4.heap.size,0,none⟩),.pointer (some ⟨qw6.heap.size,0,none⟩),.bool true,.pointer (some ⟨qw21.heap.size,0,none⟩),.pointer (some ⟨qw23.heap.size,0,none⟩),.bool true,.slice (some ⟨gs1,0,none⟩) 0 cs1,.slice (some ⟨gl,0,none⟩) 1 cl,.slice (some ⟨qy75,0,none⟩) 0 qy76,.string hW,.int .i64 (mm:Int),.slice (some ⟨gl4,0,none⟩) 1 cl4,.string ByteArray.empty,.int .i64 0,u20,u21,.slice a len cap,.bool false,qz3,.slice a len cap,qz3,.int .u32 ia,.int .u32 ib,.int .i64 room,qz18,.int .u32 ia,.int .i64 room,qz18,qz19,qz20,.bool true,.bool true,.int .i64 room,.bool true,.bool true,.int .i64 room,.bool true,.bool true,.bool false,.bool true,.bool false,qz35,qz36,.int .u32 ib,.int .i64 room,qz35,qz37,qz38,.bool true,qz44,qz45,qz46,qz44,qz47,.slice (some ⟨gs1,0,none⟩) 0 cs1,qz53,qz54,qz53,qz55,.slice (some ⟨gl,0,none⟩) 1 cl,.bool true,.bool false,.bool false,.slice (some ⟨gs1,0,none⟩) 0 cs1,.int .i64 0,.bool false,.bool false,.bool false,.slice (some ⟨gl,0,none⟩) 1 cl,.int .i64 1,.bool false,.bool false,.bool false,.pointer (some ⟨qw4.heap.size,0,none⟩),.int .i64 (at0 (hA2 ia ib room) g2 cp2).st,.bool false,.bool false,.bool false,.pointer (some ⟨qw21.heap.size,0,none⟩),.int .i64 (hB0 ia ib room).st,.bool false,.bool false,qz81,qz82,.slice (some ⟨gl,0,none⟩) 1 cl,.pointer (some ⟨gl,0,none⟩),qz83,qz84,qz85,.slice (some ⟨qy73,0,none⟩) 0 qy74,.slice (some ⟨qy75,0,none⟩) 0 qy76,.int .i64 0,.bool false,.bool false,.pointer (some ⟨qw21.heap.size,0,none⟩),.int .i64 (at0 (hB1 ia ib room) qg59 qc60).st,.bool false,.bool false,.bool false,.pointer (some ⟨qw4.heap.size,11,none⟩),.pointer (some ⟨qw4.heap.size,11,none⟩),.int .u32 (at0 (hA2 ia ib room) g2 cp2).iN,.int .u32 ib,.int .u32 ((ib+1) % 4294967296),.bool false,.bool false,.bool false,.pointer (some ⟨qw21.heap.size,11,none⟩),.pointer (some ⟨qw21.heap.size,11,none⟩),.int .u32 (at0 (hB1 ia ib room) qg59 qc60).iN,.int .u32 ia,.int .u32 ((ia+1) % 4294967296),.bool false,.bool false,.bool false,.pointer (some ⟨qw4.heap.size,2,none⟩),.int .u32 (at0 (hA2 ia ib room) g2 cp2).una,.int .u32 ia,.int .u32 ((ia+1) % 4294967296),.bool false,.bool false,.bool false,.pointer (some ⟨qw21.heap.size,2,none⟩),.int .u32 (at0 (hB1 ia ib room) qg59 qc60).una,.int .u32 ib,.int .u32 ((ib+1) % 4294967296),.bool false,.bool false,.bool false,qz86,.bool true,.bool false,.bool false,.bool false,qz87,.bool true,.bool false,.bool false,qz93,qz94,.string hW,qz93,qz95,.int .i64 (mm:Int),qz101,qz102,qz101,qz103,.slice (some ⟨gl4,0,none⟩) 1 cl4,.int .i64 0,.slice (some ⟨gl4,0,none⟩) 1 cl4,.int .i64 1,.bool true,u159,u160,v 6,v 0,v 1,v 2,v 3,v 4,v 5,v 7,v 8,u170,u171,u172,u173,u174,u175,u176,u177,u178,undef,undef,undef,undef,undef,undef,undef,undef,undef,undef,undef,undef,undef,undef,undef,undef,undef,undef,undef,undef,undef,undef,undef,undef,undef],defers:=[]}) (by kernel_rfl) (by kernel_rfl) ?_ ?_ (fun vals=>by kernel_rfl) ?_ ?_
     case refine_1=>
      intro j x y v hl hv
      match j,hv with
      | 0,hv|1,hv|2,hv|3,hv|4,hv|5,hv|6,hv|7,hv|8,hv=>exact hv
      | 9,hv=>trivial
      | n+10,_=>trivial
     case refine_2=>
      intro f vals hf
      refine ⟨E.since ((Since.refl _).drew),HP.since ((Since.refl _).drew),((Since.refl _).drew).size,G.trans ((Since.refl _).drew),(fun h=>by rw [hf] at h;cases h),⟨_,B9.since ((Since.refl _).drew),fun _=>rfl,fun h=>by rw [hf] at h;cases h⟩⟩
     case refine_3=>
      repeat (first|exact eachLow_nil|refine eachLow_cons ?_ ?_)
      all_goals intro f vals x hf hr hK
      all_goals obtain ⟨k0,k1,k2,k3,k4,k5⟩:=hK
      ·skip
       have f0:f 0=true:=(hr ⟨0,.phase⟩ (by simp) rfl).1
       obtain ⟨-,g,cp,ev⟩:=hr ⟨7,.data⟩ (by simp) rfl
       obtain ⟨D,BD,-,-⟩:=k5
       refine does_store cn_big (cn_size _) (Raw.of BD (cn_size _)) (cn_one _) _ _ rfl rfl ev ?_
       intro z t B
       exact ⟨t.size,⟨k0.touch t (by omega),k1.touch t (by omega),Nat.le_trans k2 t.size,since_touch k3 t (by omega),fun _=>f0,⟨_,B,fun h=>absurd (show true=false from h) (by decide),fun _=>⟨g,cp,rfl⟩⟩⟩,trivial⟩
      ·skip
       obtain ⟨-,g,cp,gs,cs,ev⟩:=hr ⟨6,.data⟩ (by simp) rfl
       exact does_valT (.slice (some ⟨gs,0,none⟩) 0 cs) x (by simp only [ev];kernel_rfl) ⟨Nat.le_refl _,⟨k0,k1,k2,k3,k4,k5⟩,gs,cs,rfl⟩
      ·skip
       obtain ⟨-,g,cp,gs,cs,ev⟩:=hr ⟨6,.data⟩ (by simp) rfl
       exact does_valT (.agg (cnCells (at0 (at0 (hB2 ia ib room) qg59 qc60) g cp))) x (by simp only [ev];kernel_rfl) ⟨Nat.le_refl _,⟨k0,k1,k2,k3,k4,k5⟩,g,cp,rfl⟩
      ·skip
       obtain ⟨-,g,cp,gs,cs,ev⟩:=hr ⟨5,.data⟩ (by simp) rfl
       exact does_valT (.tuple #[.agg (cnCells (at0 (at0 (hB2 ia ib room) qg59 qc60) g cp)),.slice (some ⟨gs,0,none⟩) 0 cs]) x (by simp only [ev];kernel_rfl) ⟨Nat.le_refl _,⟨k0,k1,k2,k3,k4,k5⟩,g,cp,gs,cs,rfl⟩
      ·skip
       have e0:vals 0=.agg (cnCells (at0 (hB1 ia ib room) qg59 qc60)):=(hr ⟨0,.data⟩ (by simp) rfl).2
       have e4:vals 4=.agg (sgCells (hP ia ib room)):=(hr ⟨4,.data⟩ (by simp) rfl).2
       simp [does,doesUpon,go_sem,e0,e4]
       refine (came0 (at0 (hB1 ia ib room) qg59 qc60) (at0 (hB2 ia ib room) qg59 qc60) (hP ia ib room) 10 (came_at _ _ _ 10 (came_P ia ib room hi hk hroom) rfl rfl qg59 qc60) (goodAt (good_B1 ia ib room hi hk hroom) rfl qg59 qc60) rfl (word1 ia) (word1 ib) (by unfold IsInt hP;simp) (by show (hT room).size≤1048576;omega) _ k0).mono ?_
       rintro _ x' ⟨g,cp,gs,cs,rfl,h1⟩
       exact ⟨_,rfl,h1.size,⟨k0.since h1,k1.since h1,Nat.le_trans k2 h1.size,k3.trans h1,k4,(by obtain ⟨D,BD,a0,a1⟩:=k5;exact ⟨D,BD.since h1,a0,a1⟩)⟩,g,cp,gs,cs,rfl⟩
      ·skip
       have e3:vals 3=.pointer (some ⟨gl4,0,none⟩):=(hr ⟨3,.data⟩ (by simp) rfl).2
       exact held_load1 k1 _ rfl e3 ⟨Nat.le_refl _,⟨k0,k1,k2,k3,k4,k5⟩,rfl⟩
      ·skip
       have e1:vals 1=.slice (some ⟨gl4,0,none⟩) 1 cl4:=(hr ⟨1,.data⟩ (by simp) rfl).2
       have e2:vals 2=.int .i64 0:=(hr ⟨2,.data⟩ (by simp) rfl).2
       exact does_valT (.pointer (some ⟨gl4,0,none⟩)) x (by simp only [e1,e2];kernel_rfl) ⟨Nat.le_refl _,⟨k0,k1,k2,k3,k4,k5⟩,rfl⟩
      ·skip
       exact does_valT (.int .i64 0) x (by kernel_rfl) ⟨Nat.le_refl _,⟨k0,k1,k2,k3,k4,k5⟩,rfl⟩
      ·skip
       exact does_valT (.slice (some ⟨gl4,0,none⟩) 1 cl4) x (by kernel_rfl) ⟨Nat.le_refl _,⟨k0,k1,k2,k3,k4,k5⟩,rfl⟩
      ·skip
       obtain ⟨D,BD,hD0,hD1⟩:=k5
       have hfs:f 9=false:=by
        cases e:f 9 with
        | false=>rfl
        | true=>exact absurd (k4 e) (by rw [hf];decide)
       obtain rfl:=hD0 hfs
       exact does_load cn_big (cn_size _) BD _ rfl rfl ⟨Nat.le_refl _,⟨k0,k1,k2,k3,fun _=>rfl,⟨_,BD,hD0,hD1⟩⟩,rfl⟩
     intro f qv4002 qw4001 hK hf hv
     obtain ⟨k0,k1,k2,k3,k4,k5⟩:=hK
     obtain ⟨D,qB4003,-,hD⟩:=k5
     obtain ⟨qg4004,qc4005,rfl⟩:=hD (hf 9 (by decide))
     clear E HP G B9 hD k4
     have hv0:qv4002 0=_:=hv 0 (by decide)
     have hv1:qv4002 1=_:=hv 1 (by decide)
     have hv2:qv4002 2=_:=hv 2 (by decide)
     have hv3:qv4002 3=_:=hv 3 (by decide)
     have hv4:qv4002 4=_:=hv 4 (by decide)
     obtain ⟨qy4008,qy4009,qy4010,qy4011,hv5⟩:=hv 5 (by decide)
     obtain ⟨qy4012,qy4013,qy4014,qy4015,hv6⟩:=hv 6 (by decide)
     obtain ⟨qy4016,qy4017,hv7⟩:=hv 7 (by decide)
     obtain ⟨qy4018,qy4019,hv8⟩:=hv 8 (by decide)
     clear hv hf
     simp only [hv0,hv1,hv2,hv3,hv4,hv5,hv6,hv7,hv8]
     clear hv0 hv1 hv2 hv3 hv4 hv5 hv6 hv7 hv8
     have E:=k0
     clear k0
     have HP:=k1
     clear k1
     have G:=k3
     have qw4001_l:=k2
     clear k3 k2
     have qB4003_l:=qB4003.lt
     clear HP
     go_upto_region 25 with (fail)
     refine vR ?_
     refine vB cn_big qB4003 (cn_size _) ?_
     refine vC (read0 (hB2 ia ib room) 100 (by unfold IsInt;omega) (hT room) (read_B ia ib room hk hroom) (good_B2 ia ib room hi hk hroom) rfl qg4004 qc4005 _) ?_
     rintro _ qw4020 ⟨Z,rfl,qg4021⟩
     refine ⟨_,rfl,?_⟩
     replace qB4003:=qB4003.since qg4021
     replace E:=E.since qg4021
     replace G:=G.trans qg4021
     have qg4021_s:=qg4021.size
     refine vV (.tuple #[.agg (cnCells Z),.string (hT room)]) ?_
     refine vV (.agg (cnCells Z)) ?_
     refine vV (.string (hT room)) ?_
     refine vW (qw4020.alloc (.cells (cnCells cnZero) 37)) (.pointer (some ⟨qw4020.heap.size,0,none⟩)) ?_
     have qB4023:=Blk.new qw4020 (cnCells cnZero) 37
     have qg4024:=(Since.refl qw4020).alloc (.cells (cnCells cnZero) 37)
     replace qB4003:=qB4003.since qg4024
     replace E:=E.since qg4024
     replace G:=G.trans qg4024
     generalize qw4020.alloc (.cells (cnCells cnZero) 37)=qw4022 at qB4003 E G qB4023 qg4024 ⊢
     have qB4023_l:=qB4023.lt
     have qg4024_s:=qg4024.size
     refine sB (cnCells Z) cn_big qB4023 (cn_size _) (cn_size _) (cn_one _) ?_
     intro qw4025 qt4026 qB4027
     clear qB4023
     replace qB4003:=qB4003.touch qt4026 (by omega)
     replace E:=E.touch qt4026 (by omega)
     replace G:=since_touch G qt4026 (by omega)
     have qt4026_s:=qt4026.size
     refine vV (.string (hT room)) ?_
     refine vE #[.slice a len cap,U,.bool false,.int .u32 ia,.int .u32 ib,.int .i64 room,pX qw4.heap.size 0,pX qw6.heap.size 0,.bool true,pX qw21.heap.size 0,pX qw23.heap.size 0,.bool true,.slice (some ⟨gs1,0,none⟩) 0 cs1,.slice (some ⟨gl,0,none⟩) 1 cl,.slice (some ⟨qy75,0,none⟩) 0 qy76,.string hW,.int .i64 (mm:Int),.slice (some ⟨gl4,0,none⟩) 1 cl4,.string ByteArray.empty,.int .i64 0,pX qw4020.heap.size 0,.string (hT room),.slice a len cap,.bool false,qz3,.slice a len cap,qz3,.int .u32 ia,.int .u32 ib,.int .i64 room,qz18,.int .u32 ia,.int .i64 room,qz18,qz19,qz20,.bool true,.bool true,.int .i64 room,.bool true,.bool true,.int .i64 room,.bool true,.bool true,.bool false,.bool true,.bool false,qz35,qz36,.int .u32 ib,.int .i64 room,qz35,qz37,qz38,.bool true,qz44,qz45,qz46,qz44,qz47,.slice (some ⟨gs1,0,none⟩) 0 cs1,qz53,qz54,qz53,qz55,.slice (some ⟨gl,0,none⟩) 1 cl,.bool true,.bool false,.bool false,.slice (some ⟨gs1,0,none⟩) 0 cs1,.int .i64 0,.bool false,.bool false,.bool false,.slice (some ⟨gl,0,none⟩) 1 cl,.int .i64 1,.bool false,.bool false,.bool false,pX qw4.heap.size 0,.int .i64 (at0 (hA2 ia ib room) g2 cp2).st,.bool false,.bool false,.bool false,pX qw21.heap.size 0,.int .i64 (hB0 ia ib room).st,.bool false,.bool false,qz81,qz82,.slice (some ⟨gl,0,none⟩) 1 cl,pX gl 0,qz83,qz84,qz85,.slice (some ⟨qy73,0,none⟩) 0 qy74,.slice (some ⟨qy75,0,none⟩) 0 qy76,.int .i64 0,.bool false,.bool false,pX qw21.heap.size 0,.int .i64 (at0 (hB1 ia ib room) qg59 qc60).st,.bool false,.bool false,.bool false,pX qw4.heap.size 11,pX qw4.heap.size 11,.int .u32 (at0 (hA2 ia ib room) g2 cp2).iN,.int .u32 ib,.int .u32 ((ib+1) % 4294967296),.bool false,.bool false,.bool false,pX qw21.heap.size 11,pX qw21.heap.size 11,.int .u32 (at0 (hB1 ia ib room) qg59 qc60).iN,.int .u32 ia,.int .u32 ((ia+1) % 4294967296),.bool false,.bool false,.bool false,pX qw4.heap.size 2,.int .u32 (at0 (hA2 ia ib room) g2 cp2).una,.int .u32 ia,.int .u32 ((ia+1) % 4294967296),.bool false,.bool false,.bool false,pX qw21.heap.size 2,.int .u32 (at0 (hB1 ia ib room) qg59 qc60).una,.int .u32 ib,.int .u32 ((ib+1) % 4294967296),.bool false,.bool false,.bool false,qz86,.bool true,.bool false,.bool false,.bool false,qz87,.bool true,.bool false,.bool false,qz93,qz94,.string hW,qz93,qz95,.int .i64 (mm:Int),qz101,qz102,qz101,qz103,.slice (some ⟨gl4,0,none⟩) 1 cl4,.int .i64 0,.slice (some ⟨gl4,0,none⟩) 1 cl4,.int .i64 1,.bool true,u159,u160,.tuple #[.agg (cnCells (at0 (at0 (hB2 ia ib room) qg59 qc60) qy4012 qy4013)),.slice (some ⟨qy4014,0,none⟩) 0 qy4015],.agg (cnCells (at0 (hB1 ia ib room) qg59 qc60)),.slice (some ⟨gl4,0,none⟩) 1 cl4,.int .i64 0,pX gl4 0,.agg (sgCells (hP ia ib room)),.tuple #[.agg (cnCells (at0 (at0 (hB2 ia ib room) qg59 qc60) qy4008 qy4009)),.slice (some ⟨qy4010,0,none⟩) 0 qy4011],.agg (cnCells (at0 (at0 (hB2 ia ib room) qg59 qc60) qy4016 qy4017)),.slice (some ⟨qy4018,0,none⟩) 0 qy4019,.tuple #[.agg (cnCells Z),.string (hT room)],.agg (cnCells (at0 (at0 (hB2 ia ib room) qg59 qc60) qg4004 qc4005)),.tuple #[.agg (cnCells Z),.string (hT room)],.agg (cnCells Z),.string (hT room),u175,u176,u177,u178,U,U,U,U,U,U,U,U,U,U,U,U,U,U,U,U,U,U,U,U,U,U,U,U,U] ?_
     generalize (.tuple #[.agg (cnCells (at0 (at0 (hB2 ia ib room) qg59 qc60) qy4012 qy4013)),.slice (some ⟨qy4014,0,none⟩) 0 qy4015]:Value)=qz4028
     generalize (.agg (cnCells (at0 (hB1 ia ib room) qg59 qc60)):Value)=qz4029
     generalize (.agg (sgCells (hP ia ib room)):Value)=qz4030
     generalize (.tuple #[.agg (cnCells (at0 (at0 (hB2 ia ib room) qg59 qc60) qy4008 qy4009)),.slice (some ⟨qy4010,0,none⟩) 0 qy4011]:Value)=qz4031
     generalize (.agg (cnCells (at0 (at0 (hB2 ia ib room) qg59 qc60) qy4016 qy4017)):Value)=qz4032
     generalize (.tuple #[.agg (cnCells Z),.string (hT room)]:Value)=qz4033
     generalize (.agg (cnCells (at0 (at0 (hB2 ia ib room) qg59 qc60) qg4004 qc4005)):Value)=qz4034
     go_upto_region 26 with (fail)
     refine vR ?_
     refine vB cn_big qB4027 (cn_size _) ?_
     refine sB (cnCells Z) cn_big qB4003 (cn_size _) (cn_size _) (cn_one _) ?_
     intro qw4035 qt4036 qB4037
     clear qB4003
     replace qB4027:=qB4027.touch qt4036 (by omega)
     replace E:=E.touch qt4036 (by omega)
     replace G:=since_touch G qt4036 (by omega)
     have qt4036_s:=qt4036.size
     refine vE #[.slice a len cap,U,.bool false,.int .u32 ia,.int .u32 ib,.int .i64 room,pX qw4.heap.size 0,pX qw6.heap.size 0,.bool true,pX qw21.heap.size 0,pX qw23.heap.size 0,.bool true,.slice (some ⟨gs1,0,none⟩) 0 cs1,.slice (some ⟨gl,0,none⟩) 1 cl,.slice (some ⟨qy75,0,none⟩) 0 qy76,.string hW,.int .i64 (mm:Int),.slice (some ⟨gl4,0,none⟩) 1 cl4,.string ByteArray.empty,.int .i64 0,pX qw4020.heap.size 0,.string (hT room),.slice a len cap,.bool false,qz3,.slice a len cap,qz3,.int .u32 ia,.int .u32 ib,.int .i64 room,qz18,.int .u32 ia,.int .i64 room,qz18,qz19,qz20,.bool true,.bool true,.int .i64 room,.bool true,.bool true,.int .i64 room,.bool true,.bool true,.bool false,.bool true,.bool false,qz35,qz36,.int .u32 ib,.int .i64 room,qz35,qz37,qz38,.bool true,qz44,qz45,qz46,qz44,qz47,.slice (some ⟨gs1,0,none⟩) 0 cs1,qz53,qz54,qz53,qz55,.slice (some ⟨gl,0,none⟩) 1 cl,.bool true,.bool false,.bool false,.slice (some ⟨gs1,0,none⟩) 0 cs1,.int .i64 0,.bool false,.bool false,.bool false,.slice (some ⟨gl,0,none⟩) 1 cl,.int .i64 1,.bool false,.bool false,.bool false,pX qw4.heap.size 0,.int .i64 (at0 (hA2 ia ib room) g2 cp2).st,.bool false,.bool false,.bool false,pX qw21.heap.size 0,.int .i64 (hB0 ia ib room).st,.bool false,.bool false,qz81,qz82,.slice (some ⟨gl,0,none⟩) 1 cl,pX gl 0,qz83,qz84,qz85,.slice (some ⟨qy73,0,none⟩) 0 qy74,.slice (some ⟨qy75,0,none⟩) 0 qy76,.int .i64 0,.bool false,.bool false,pX qw21.heap.size 0,.int .i64 (at0 (hB1 ia ib room) qg59 qc60).st,.bool false,.bool false,.bool false,pX qw4.heap.size 11,pX qw4.heap.size 11,.int .u32 (at0 (hA2 ia ib room) g2 cp2).iN,.int .u32 ib,.int .u32 ((ib+1) % 4294967296),.bool false,.bool false,.bool false,pX qw21.heap.size 11,pX qw21.heap.size 11,.int .u32 (at0 (hB1 ia ib room) qg59 qc60).iN,.int .u32 ia,.int .u32 ((ia+1) % 4294967296),.bool false,.bool false,.bool false,pX qw4.heap.size 2,.int .u32 (at0 (hA2 ia ib room) g2 cp2).una,.int .u32 ia,.int .u32 ((ia+1) % 4294967296),.bool false,.bool false,.bool false,pX qw21.heap.size 2,.int .u32 (at0 (hB1 ia ib room) qg59 qc60).una,.int .u32 ib,.int .u32 ((ib+1) % 4294967296),.bool false,.bool false,.bool false,qz86,.bool true,.bool false,.bool false,.bool false,qz87,.bool true,.bool false,.bool false,qz93,qz94,.string hW,qz93,qz95,.int .i64 (mm:Int),qz101,qz102,qz101,qz103,.slice (some ⟨gl4,0,none⟩) 1 cl4,.int .i64 0,.slice (some ⟨gl4,0,none⟩) 1 cl4,.int .i64 1,.bool true,u159,u160,qz4028,qz4029,.slice (some ⟨gl4,0,none⟩) 1 cl4,.int .i64 0,pX gl4 0,qz4030,qz4031,qz4032,.slice (some ⟨qy4018,0,none⟩) 0 qy4019,qz4033,qz4034,qz4033,.agg (cnCells Z),.string (hT room),.agg (cnCells Z),u176,u177,u178,U,U,U,U,U,U,U,U,U,U,U,U,U,U,U,U,U,U,U,U,U,U,U,U,U] ?_
     have hadd:Hid (ByteArray.empty++hT room=hT room):=ByteArray.empty_append
     have he0:ByteArray.empty.size=0:=rfl
     go_upto_region 27 with (fail)
     refine vR ?_
     refine vV (.string ByteArray.empty) ?_
     refine vV (.string (hT room)) ?_
     refine vAdd ByteArray.empty (hT room) (by omega) ?_
     rw [hadd.out]
     refine vV (.string (hT room)) ?_
     refine vE #[.slice a len cap,U,.bool false,.int .u32 ia,.int .u32 ib,.int .i64 room,pX qw4.heap.size 0,pX qw6.heap.size 0,.bool true,pX qw21.heap.size 0,pX qw23.heap.size 0,.bool true,.slice (some ⟨gs1,0,none⟩) 0 cs1,.slice (some ⟨gl,0,none⟩) 1 cl,.slice (some ⟨qy75,0,none⟩) 0 qy76,.string hW,.int .i64 (mm:Int),.slice (some ⟨gl4,0,none⟩) 1 cl4,.string (hT room),.int .i64 0,pX qw4020.heap.size 0,.string (hT room),.slice a len cap,.bool false,qz3,.slice a len cap,qz3,.int .u32 ia,.int .u32 ib,.int .i64 room,qz18,.int .u32 ia,.int .i64 room,qz18,qz19,qz20,.bool true,.bool true,.int .i64 room,.bool true,.bool true,.int .i64 room,.bool true,.bool true,.bool false,.bool true,.bool false,qz35,qz36,.int .u32 ib,.int .i64 room,qz35,qz37,qz38,.bool true,qz44,qz45,qz46,qz44,qz47,.slice (some ⟨gs1,0,none⟩) 0 cs1,qz53,qz54,qz53,qz55,.slice (some ⟨gl,0,none⟩) 1 cl,.bool true,.bool false,.bool false,.slice (some ⟨gs1,0,none⟩) 0 cs1,.int .i64 0,.bool false,.bool false,.bool false,.slice (some ⟨gl,0,none⟩) 1 cl,.int .i64 1,.bool false,.bool false,.bool false,pX qw4.heap.size 0,.int .i64 (at0 (hA2 ia ib room) g2 cp2).st,.bool false,.bool false,.bool false,pX qw21.heap.size 0,.int .i64 (hB0 ia ib room).st,.bool false,.bool false,qz81,qz82,.slice (some ⟨gl,0,none⟩) 1 cl,pX gl 0,qz83,qz84,qz85,.slice (some ⟨qy73,0,none⟩) 0 qy74,.slice (some ⟨qy75,0,none⟩) 0 qy76,.int .i64 0,.bool false,.bool false,pX qw21.heap.size 0,.int .i64 (at0 (hB1 ia ib room) qg59 qc60).st,.bool false,.bool false,.bool false,pX qw4.heap.size 11,pX qw4.heap.size 11,.int .u32 (at0 (hA2 ia ib room) g2 cp2).iN,.int .u32 ib,.int .u32 ((ib+1) % 4294967296),.bool false,.bool false,.bool false,pX qw21.heap.size 11,pX qw21.heap.size 11,.int .u32 (at0 (hB1 ia ib room) qg59 qc60).iN,.int .u32 ia,.int .u32 ((ia+1) % 4294967296),.bool false,.bool false,.bool false,pX qw4.heap.size 2,.int .u32 (at0 (hA2 ia ib room) g2 cp2).una,.int .u32 ia,.int .u32 ((ia+1) % 4294967296),.bool false,.bool false,.bool false,pX qw21.heap.size 2,.int .u32 (at0 (hB1 ia ib room) qg59 qc60).una,.int .u32 ib,.int .u32 ((ib+1) % 4294967296),.bool false,.bool false,.bool false,qz86,.bool true,.bool false,.bool false,.bool false,qz87,.bool true,.bool false,.bool false,qz93,qz94,.string hW,qz93,qz95,.int .i64 (mm:Int),qz101,qz102,qz101,qz103,.slice (some ⟨gl4,0,none⟩) 1 cl4,.int .i64 0,.slice (some ⟨gl4,0,none⟩) 1 cl4,.int .i64 1,.bool true,u159,u160,qz4028,qz4029,.slice (some ⟨gl4,0,none⟩) 1 cl4,.int .i64 0,pX gl4 0,qz4030,qz4031,qz4032,.slice (some ⟨qy4018,0,none⟩) 0 qy4019,qz4033,qz4034,qz4033,.agg (cnCells Z),.string (hT room),.agg (cnCells Z),.string ByteArray.empty,.string (hT room),.string (hT room),U,U,U,U,U,U,U,U,U,U,U,U,U,U,U,U,U,U,U,U,U,U,U,U,U] ?_
     go_upto_region 23 with (fail)
     refine vR ?_
     refine vV (.int .i64 0) ?_
     refine vV (.int .i64 1) ?_
     refine vV (.int .i64 1) ?_
     refine vE #[.slice a len cap,U,.bool false,.int .u32 ia,.int .u32 ib,.int .i64 room,pX qw4.heap.size 0,pX qw6.heap.size 0,.bool true,pX qw21.heap.size 0,pX qw23.heap.size 0,.bool true,.slice (some ⟨gs1,0,none⟩) 0 cs1,.slice (some ⟨gl,0,none⟩) 1 cl,.slice (some ⟨qy75,0,none⟩) 0 qy76,.string hW,.int .i64 (mm:Int),.slice (some ⟨gl4,0,none⟩) 1 cl4,.string (hT room),.int .i64 1,pX qw4020.heap.size 0,.string (hT room),.slice a len cap,.bool false,qz3,.slice a len cap,qz3,.int .u32 ia,.int .u32 ib,.int .i64 room,qz18,.int .u32 ia,.int .i64 room,qz18,qz19,qz20,.bool true,.bool true,.int .i64 room,.bool true,.bool true,.int .i64 room,.bool true,.bool true,.bool false,.bool true,.bool false,qz35,qz36,.int .u32 ib,.int .i64 room,qz35,qz37,qz38,.bool true,qz44,qz45,qz46,qz44,qz47,.slice (some ⟨gs1,0,none⟩) 0 cs1,qz53,qz54,qz53,qz55,.slice (some ⟨gl,0,none⟩) 1 cl,.bool true,.bool false,.bool false,.slice (some ⟨gs1,0,none⟩) 0 cs1,.int .i64 0,.bool false,.bool false,.bool false,.slice (some ⟨gl,0,none⟩) 1 cl,.int .i64 1,.bool false,.bool false,.bool false,pX qw4.heap.size 0,.int .i64 (at0 (hA2 ia ib room) g2 cp2).st,.bool false,.bool false,.bool false,pX qw21.heap.size 0,.int .i64 (hB0 ia ib room).st,.bool false,.bool false,qz81,qz82,.slice (some ⟨gl,0,none⟩) 1 cl,pX gl 0,qz83,qz84,qz85,.slice (some ⟨qy73,0,none⟩) 0 qy74,.slice (some ⟨qy75,0,none⟩) 0 qy76,.int .i64 0,.bool false,.bool false,pX qw21.heap.size 0,.int .i64 (at0 (hB1 ia ib room) qg59 qc60).st,.bool false,.bool false,.bool false,pX qw4.heap.size 11,pX qw4.heap.size 11,.int .u32 (at0 (hA2 ia ib room) g2 cp2).iN,.int .u32 ib,.int .u32 ((ib+1) % 4294967296),.bool false,.bool false,.bool false,pX qw21.heap.size 11,pX qw21.heap.size 11,.int .u32 (at0 (hB1 ia ib room) qg59 qc60).iN,.int .u32 ia,.int .u32 ((ia+1) % 4294967296),.bool false,.bool false,.bool false,pX qw4.heap.size 2,.int .u32 (at0 (hA2 ia ib room) g2 cp2).una,.int .u32 ia,.int .u32 ((ia+1) % 4294967296),.bool false,.bool false,.bool false,pX qw21.heap.size 2,.int .u32 (at0 (hB1 ia ib room) qg59 qc60).una,.int .u32 ib,.int .u32 ((ib+1) % 4294967296),.bool false,.bool false,.bool false,qz86,.bool true,.bool false,.bool false,.bool false,qz87,.bool true,.bool false,.bool false,qz93,qz94,.string hW,qz93,qz95,.int .i64 (mm:Int),qz101,qz102,qz101,qz103,.slice (some ⟨gl4,0,none⟩) 1 cl4,.int .i64 0,.slice (some ⟨gl4,0,none⟩) 1 cl4,.int .i64 1,.bool true,.int .i64 0,.int .i64 1,qz4028,qz4029,.slice (some ⟨gl4,0,none⟩) 1 cl4,.int .i64 0,pX gl4 0,qz4030,qz4031,qz4032,.slice (some ⟨qy4018,0,none⟩) 0 qy4019,qz4033,qz4034,qz4033,.agg (cnCells Z),.string (hT room),.agg (cnCells Z),.string ByteArray.empty,.string (hT room),.string (hT room),U,U,U,U,U,U,U,U,U,U,U,U,U,U,U,U,U,U,U,U,U,U,U,U,U] ?_
     go_wp2_with (fail)
     exact ⟨.inr ⟨rfl,rfl,G⟩,by decide⟩
    ·skip
     clear qB100 qB17 qB58 qB34 E HP G
     have G:=S9
     have hbg:=fun wx=>begins15 room hroom wx
     go_upto_region 22 with (fail)
     refine vR ?_
     refine vV (.int .i64 1) ?_
     refine vV (.slice (some ⟨gl4,0,none⟩) 1 cl4) ?_
     refine vV (.int .i64 1) ?_
     refine vV (.bool false) ?_
     refine vE #[.slice a len cap,U,.bool false,.int .u32 ia,.int .u32 ib,.int .i64 room,pX qw4.heap.size 0,pX qw6.heap.size 0,.bool true,pX qw21.heap.size 0,pX qw23.heap.size 0,.bool true,.slice (some ⟨gs1,0,none⟩) 0 cs1,.slice (some ⟨gl,0,none⟩) 1 cl,.slice (some ⟨qy75,0,none⟩) 0 qy76,.string hW,.int .i64 (mm:Int),.slice (some ⟨gl4,0,none⟩) 1 cl4,.string (hT room),.int .i64 1,u20,u21,.slice a len cap,.bool false,qz3,.slice a len cap,qz3,.int .u32 ia,.int .u32 ib,.int .i64 room,qz18,.int .u32 ia,.int .i64 room,qz18,qz19,qz20,.bool true,.bool true,.int .i64 room,.bool true,.bool true,.int .i64 room,.bool true,.bool true,.bool false,.bool true,.bool false,qz35,qz36,.int .u32 ib,.int .i64 room,qz35,qz37,qz38,.bool true,qz44,qz45,qz46,qz44,qz47,.slice (some ⟨gs1,0,none⟩) 0 cs1,qz53,qz54,qz53,qz55,.slice (some ⟨gl,0,none⟩) 1 cl,.bool true,.bool false,.bool false,.slice (some ⟨gs1,0,none⟩) 0 cs1,.int .i64 0,.bool false,.bool false,.bool false,.slice (some ⟨gl,0,none⟩) 1 cl,.int .i64 1,.bool false,.bool false,.bool false,pX qw4.heap.size 0,.int .i64 (at0 (hA2 ia ib room) g2 cp2).st,.bool false,.bool false,.bool false,pX qw21.heap.size 0,.int .i64 (hB0 ia ib room).st,.bool false,.bool false,qz81,qz82,.slice (some ⟨gl,0,none⟩) 1 cl,pX gl 0,qz83,qz84,qz85,.slice (some ⟨qy73,0,none⟩) 0 qy74,.slice (some ⟨qy75,0,none⟩) 0 qy76,.int .i64 0,.bool false,.bool false,pX qw21.heap.size 0,.int .i64 (at0 (hB1 ia ib room) qg59 qc60).st,.bool false,.bool false,.bool false,pX qw4.heap.size 11,pX qw4.heap.size 11,.int .u32 (at0 (hA2 ia ib room) g2 cp2).iN,.int .u32 ib,.int .u32 ((ib+1) % 4294967296),.bool false,.bool false,.bool false,pX qw21.heap.size 11,pX qw21.heap.size 11,.int .u32 (at0 (hB1 ia ib room) qg59 qc60).iN,.int .u32 ia,.int .u32 ((ia+1) % 4294967296),.bool false,.bool false,.bool false,pX qw4.heap.size 2,.int .u32 (at0 (hA2 ia ib room) g2 cp2).una,.int .u32 ia,.int .u32 ((ia+1) % 4294967296),.bool false,.bool false,.bool false,pX qw21.heap.size 2,.int .u32 (at0 (hB1 ia ib room) qg59 qc60).una,.int .u32 ib,.int .u32 ((ib+1) % 4294967296),.bool false,.bool false,.bool false,qz86,.bool true,.bool false,.bool false,.bool false,qz87,.bool true,.bool false,.bool false,qz93,qz94,.string hW,qz93,qz95,.int .i64 (mm:Int),qz101,qz102,qz101,qz103,.slice (some ⟨gl4,0,none⟩) 1 cl4,.int .i64 1,.slice (some ⟨gl4,0,none⟩) 1 cl4,.int .i64 1,.bool false,u159,u160,u161,u162,u163,u164,u165,u166,u167,u168,u169,u170,u171,u172,u173,u174,u175,u176,u177,u178,U,U,U,U,U,U,U,U,U,U,U,U,U,U,U,U,U,U,U,U,U,U,U,U,U] ?_
     go_upto_region 28 with (fail)
     have hw7:hW.size=7:=rfl
     by_cases h7:mm<7
     case pos=>
      refine vR ?_
      refine vV (.int .i64 (mm:Int)) ?_
      refine vV (.bool true) ?_ (hrun:=by simp [execOp,go_sem];omega)
      refine vV (.bool true) ?_
      refine vV (.string hW) ?_
      refine vV (.string (hT room)) ?_
      refine vC (hbg _) ?_
      rintro _ _ ⟨rfl,rfl⟩
      refine ⟨_,rfl,?_⟩
      refine vV (.bool true) ?_
      refine vV (.bool true) ?_
      refine vV (.string (hT room)) ?_
      refine vV (.int .i64 ((hT room).size:Int)) ?_
      refine vV (.bool true) ?_ (hrun:=by simp [execOp,go_sem];omega)
      refine vV (.bool true) ?_
      refine vV (.bool true) ?_
      refine vV (.int .i64 (mm:Int)) ?_
      refine vV (.string hW) ?_
      refine vV (.int .i64 (hW.size:Int)) ?_
      refine vV (.bool true) ?_ (hrun:=by simp [execOp,go_sem];omega)
      refine vV (.bool true) ?_
      refine vS ?_
      refine vS ?_
      refine vS ?_
      refine vS ?_
      refine vS ?_
      refine vV (.bool true) ?_
      refine vV (.bool true) ?_
      refine vV (.bool true) ?_
      refine vE #[.slice a len cap,U,.bool true,.int .u32 ia,.int .u32 ib,.int .i64 room,pX qw4.heap.size 0,pX qw6.heap.size 0,.bool true,pX qw21.heap.size 0,pX qw23.heap.size 0,.bool true,.slice (some ⟨gs1,0,none⟩) 0 cs1,.slice (some ⟨gl,0,none⟩) 1 cl,.slice (some ⟨qy75,0,none⟩) 0 qy76,.string hW,.int .i64 (mm:Int),.slice (some ⟨gl4,0,none⟩) 1 cl4,.string (hT room),.int .i64 1,u20,u21,.slice a len cap,.bool false,qz3,.slice a len cap,qz3,.int .u32 ia,.int .u32 ib,.int .i64 room,qz18,.int .u32 ia,.int .i64 room,qz18,qz19,qz20,.bool true,.bool true,.int .i64 room,.bool true,.bool true,.int .i64 room,.bool true,.bool true,.bool false,.bool true,.bool false,qz35,qz36,.int .u32 ib,.int .i64 room,qz35,qz37,qz38,.bool true,qz44,qz45,qz46,qz44,qz47,.slice (some ⟨gs1,0,none⟩) 0 cs1,qz53,qz54,qz53,qz55,.slice (some ⟨gl,0,none⟩) 1 cl,.bool true,.bool false,.bool false,.slice (some ⟨gs1,0,none⟩) 0 cs1,.int .i64 0,.bool false,.bool false,.bool false,.slice (some ⟨gl,0,none⟩) 1 cl,.int .i64 1,.bool false,.bool false,.bool false,pX qw4.heap.size 0,.int .i64 (at0 (hA2 ia ib room) g2 cp2).st,.bool false,.bool false,.bool false,pX qw21.heap.size 0,.int .i64 (hB0 ia ib room).st,.bool false,.bool false,qz81,qz82,.slice (some ⟨gl,0,none⟩) 1 cl,pX gl 0,qz83,qz84,qz85,.slice (some ⟨qy73,0,none⟩) 0 qy74,.slice (some ⟨qy75,0,none⟩) 0 qy76,.int .i64 0,.bool false,.bool false,pX qw21.heap.size 0,.int .i64 (at0 (hB1 ia ib room) qg59 qc60).st,.bool false,.bool false,.bool false,pX qw4.heap.size 11,pX qw4.heap.size 11,.int .u32 (at0 (hA2 ia ib room) g2 cp2).iN,.int .u32 ib,.int .u32 ((ib+1) % 4294967296),.bool false,.bool false,.bool false,pX qw21.heap.size 11,pX qw21.heap.size 11,.int .u32 (at0 (hB1 ia ib room) qg59 qc60).iN,.int .u32 ia,.int .u32 ((ia+1) % 4294967296),.bool false,.bool false,.bool false,pX qw4.heap.size 2,.int .u32 (at0 (hA2 ia ib room) g2 cp2).una,.int .u32 ia,.int .u32 ((ia+1) % 4294967296),.bool false,.bool false,.bool false,pX qw21.heap.size 2,.int .u32 (at0 (hB1 ia ib room) qg59 qc60).una,.int .u32 ib,.int .u32 ((ib+1) % 4294967296),.bool false,.bool false,.bool false,qz86,.bool true,.bool false,.bool false,.bool false,qz87,.bool true,.bool false,.bool false,qz93,qz94,.string hW,qz93,qz95,.int .i64 (mm:Int),qz101,qz102,qz101,qz103,.slice (some ⟨gl4,0,none⟩) 1 cl4,.int .i64 1,.slice (some ⟨gl4,0,none⟩) 1 cl4,.int .i64 1,.bool false,u159,u160,u161,u162,u163,u164,u165,u166,u167,u168,u169,u170,u171,u172,u173,u174,u175,u176,u177,u178,.int .i64 (mm:Int),.bool true,.bool true,.string hW,.string (hT room),.bool true,.bool true,.bool true,.string (hT room),.int .i64 ((hT room).size:Int),.bool true,.bool true,.bool true,.int .i64 (mm:Int),.string hW,.int .i64 (hW.size:Int),.bool true,.bool true,U,U,U,U,U,.bool true,.bool true] ?_
      go_wp2_with (fail)
      go_ret
      exact ⟨rfl,G⟩
     case neg=>
      obtain rfl:mm=7:=by omega
      have hT7:hT room=hW.extract 0 7:=by
       unfold hT
       rw [← hmm.out]
      rw [hT7] at hbg hsz ⊢
      refine vR ?_
      refine vV (.int .i64 7) ?_
      refine vV (.bool true) ?_
      refine vV (.bool true) ?_
      refine vV (.string hW) ?_
      refine vV (.string (hW.extract 0 7)) ?_
      refine vC (hbg _) ?_
      rintro _ _ ⟨rfl,rfl⟩
      refine ⟨_,rfl,?_⟩
      refine vV (.bool true) ?_
      refine vV (.bool true) ?_
      refine vV (.string (hW.extract 0 7)) ?_
      refine vV (.int .i64 ((hW.extract 0 7).size:Int)) ?_
      refine vV (.bool true) ?_ (hrun:=by simp [execOp,go_sem,hsz])
      refine vV (.bool true) ?_
      refine vV (.bool true) ?_
      refine vV (.int .i64 7) ?_
      refine vV (.string hW) ?_
      refine vV (.int .i64 (hW.size:Int)) ?_
      refine vV (.bool false) ?_ (hrun:=by simp [execOp,go_sem,hw7])
      refine vV (.bool false) ?_
      refine vV (.string (hW.extract 0 7)) ?_
      refine vV (.string hW) ?_
      refine vV (.int .i64 7) ?_
      refine vV (.string (hW.extract 0 7)) ?_
      refine vV (.bool true) ?_ (hrun:=by simp [execOp,go_sem])
      refine vV (.bool true) ?_
      refine vV (.bool true) ?_
      refine vV (.bool true) ?_
      refine vE #[.slice a len cap,U,.bool true,.int .u32 ia,.int .u32 ib,.int .i64 room,pX qw4.heap.size 0,pX qw6.heap.size 0,.bool true,pX qw21.heap.size 0,pX qw23.heap.size 0,.bool true,.slice (some ⟨gs1,0,none⟩) 0 cs1,.slice (some ⟨gl,0,none⟩) 1 cl,.slice (some ⟨qy75,0,none⟩) 0 qy76,.string hW,.int .i64 7,.slice (some ⟨gl4,0,none⟩) 1 cl4,.string (hW.extract 0 7),.int .i64 1,u20,u21,.slice a len cap,.bool false,qz3,.slice a len cap,qz3,.int .u32 ia,.int .u32 ib,.int .i64 room,qz18,.int .u32 ia,.int .i64 room,qz18,qz19,qz20,.bool true,.bool true,.int .i64 room,.bool true,.bool true,.int .i64 room,.bool true,.bool true,.bool false,.bool true,.bool false,qz35,qz36,.int .u32 ib,.int .i64 room,qz35,qz37,qz38,.bool true,qz44,qz45,qz46,qz44,qz47,.slice (some ⟨gs1,0,none⟩) 0 cs1,qz53,qz54,qz53,qz55,.slice (some ⟨gl,0,none⟩) 1 cl,.bool true,.bool false,.bool false,.slice (some ⟨gs1,0,none⟩) 0 cs1,.int .i64 0,.bool false,.bool false,.bool false,.slice (some ⟨gl,0,none⟩) 1 cl,.int .i64 1,.bool false,.bool false,.bool false,pX qw4.heap.size 0,.int .i64 (at0 (hA2 ia ib room) g2 cp2).st,.bool false,.bool false,.bool false,pX qw21.heap.size 0,.int .i64 (hB0 ia ib room).st,.bool false,.bool false,qz81,qz82,.slice (some ⟨gl,0,none⟩) 1 cl,pX gl 0,qz83,qz84,qz85,.slice (some ⟨qy73,0,none⟩) 0 qy74,.slice (some ⟨qy75,0,none⟩) 0 qy76,.int .i64 0,.bool false,.bool false,pX qw21.heap.size 0,.int .i64 (at0 (hB1 ia ib room) qg59 qc60).st,.bool false,.bool false,.bool false,pX qw4.heap.size 11,pX qw4.heap.size 11,.int .u32 (at0 (hA2 ia ib room) g2 cp2).iN,.int .u32 ib,.int .u32 ((ib+1) % 4294967296),.bool false,.bool false,.bool false,pX qw21.heap.size 11,pX qw21.heap.size 11,.int .u32 (at0 (hB1 ia ib room) qg59 qc60).iN,.int .u32 ia,.int .u32 ((ia+1) % 4294967296),.bool false,.bool false,.bool false,pX qw4.heap.size 2,.int .u32 (at0 (hA2 ia ib room) g2 cp2).una,.int .u32 ia,.int .u32 ((ia+1) % 4294967296),.bool false,.bool false,.bool false,pX qw21.heap.size 2,.int .u32 (at0 (hB1 ia ib room) qg59 qc60).una,.int .u32 ib,.int .u32 ((ib+1) % 4294967296),.bool false,.bool false,.bool false,qz86,.bool true,.bool false,.bool false,.bool false,qz87,.bool true,.bool false,.bool false,qz93,qz94,.string hW,qz93,qz95,.int .i64 7,qz101,qz102,qz101,qz103,.slice (some ⟨gl4,0,none⟩) 1 cl4,.int .i64 1,.slice (some ⟨gl4,0,none⟩) 1 cl4,.int .i64 1,.bool false,u159,u160,u161,u162,u163,u164,u165,u166,u167,u168,u169,u170,u171,u172,u173,u174,u175,u176,u177,u178,.int .i64 7,.bool true,.bool true,.string hW,.string (hW.extract 0 7),.bool true,.bool true,.bool true,.string (hW.extract 0 7),.int .i64 ((hW.extract 0 7).size:Int),.bool true,.bool true,.bool true,.int .i64 7,.string hW,.int .i64 (hW.size:Int),.bool false,.bool false,.string (hW.extract 0 7),.string hW,.int .i64 7,.string (hW.extract 0 7),.bool true,.bool true,.bool true] ?_
      go_wp2_with (fail)
      go_ret
      exact ⟨rfl,G⟩
end Go.Proofs.YtmdglnmdodcehaaGreatDoor
