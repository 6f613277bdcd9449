/- A part of the proof. -/
import Derived.Test.YtmigalhmlofbkaaGreatDoorK6
set_option linter.unusedVariables false
set_option maxRecDepth 20000
set_option maxHeartbeats 16000000
namespace Go.Proofs.YtmigalhmlofbkaaGreatDoor
open Go.ChangeShapes Go.WideShapes Go.ChangeAt Go.RowKit Go.Deep
theorem big_ (a:Option Addr) (len cap:Nat) (w:World) :
  Calls Tryz.prog 4 #[.slice a len cap] w fun e w'=>e=.returned (.bool (decide ((1048576:Int)<(len:Int))))∧w=w':=by
 go_enter Tryz.func4,Tryz.ntmps4
 go_wp2
 go_ret
 exact ⟨rfl,rfl⟩
theorem held_cell1 {w:World} {B g cap:Nat} {s:Sg} (H:Held shG w B g 1 cap [s]) (j:Nat) (hj:j<8) (v:Value) (hv:(sgCells s).toList[j]?=some v):w.cell? ⟨g,j,none⟩=some v:=by
 have c:=H.cell 0 (by decide) j hj
 rw [show 0*shG.k+j=j by simp] at c
 exact c.trans hv
theorem held_run1 {w:World} {B g cap:Nat} {s:Sg} (H:Held shG w B g 1 cap [s]):(loadVar 41 ⟨g,0,none⟩).run Tryz.prog w=.ok (.agg (sgCells s)) w:=by
 obtain ⟨d,h1,h2⟩:=seg_big.row
 refine run_loadVar_mid w g 0 41 (sgCells s).toList d (fun j v hv=>?_) h1 h2 (by rw [seg_big.size];rfl)
 have hj:j<8:=by
  rcases Nat.lt_or_ge j 8 with q|q
  ·exact q
  ·rw [List.getElem?_eq_none (by exact q)] at hv
   cases hv
 rw [Nat.zero_add]
 exact held_cell1 H j hj v hv
theorem held_load1 {w:World} {B g cap:Nat} {s:Sg} (H:Held shG w B g 1 cap [s]) {op:Oper} {a:Act} {R:Value→World→Prop} (x:Operand) (ho:op.op=.load 41 x) (hx:a.eval x=.pointer (some ⟨g,0,none⟩)) (h:R (.agg (sgCells s)) w):does Tryz.prog op a w R:=by
 have e:=held_run1 H
 unfold does execOp
 simp only [ho,hx,Instr.loadAt,Instr.sureAddr,Sem.run_bind,Sem.run_pure,Result.andThen_ok,e]
 exact h
theorem vH {ops:Array Oper} {rest:List Oper} {o:Oper} {a:Act} {w:World} {Q:Exit→Act→World→Prop} {B g cap:Nat} {s:Sg} (H:Held shG w B g 1 cap [s]) {x:Operand} (h:VL ops Q rest (a.put o.dst (.agg (sgCells s))) w) (ho:o.op=.load 41 x:=by rfl)
  (hg:Region.wanted o (yielded ops a.tmps)=true:=by kernel_rfl) (hx:a.eval x=.pointer (some ⟨g,0,none⟩):=by kernel_rfl):VL ops Q (o :: rest) a w:=by
 have e:=held_run1 H
 refine vV _ h hg ?_
 unfold execOp
 simp only [ho,hx,Instr.loadAt,Instr.sureAddr,Sem.run_bind,Sem.run_pure,Result.andThen_ok,e]
theorem bytes_later {w x:World} {a:Option Addr} {len:Nat} {zs:List Int} (hb:Bytes w a len zs) (g:Since w x):Bytes x a len zs:=by
 rcases hb with h0|⟨b,off,e,hl,hz⟩
 ·exact .inl h0
 ·exact .inr ⟨b,off,e,hl,fun i hi=>⟨cell_later g (hz i hi).1,(hz i hi).2⟩⟩
theorem at15 (a:Option Addr) (len cap:Nat) (zs:List Int) (k:Nat) (hk:k≤1000) (w0:World) (hb:Bytes w0 a len zs) (hm:len≤1048576) :
  ∃ X:Int,(0≤X∧X≤255)∧∀ w,Since w0 w→Calls Tryz.prog 7 #[.slice a len cap,.int .i64 (k:Int)] w fun e w'=>e=.returned (.int .i64 X)∧Since w w':=by
 refine ⟨if k<len then zs.getD k 0 else ((k:Int)*7+len) % 256,?_,fun w g=>(at_ a len cap zs k hk w0 hb hm w g).mono ?_⟩
 ·split
  ·rename_i h
   rcases hb with h0|⟨b,off,e,hl,hz⟩
   ·omega
   ·exact (hz k h).2
  ·omega
 ·rintro e w' ⟨h1,-,-,rfl⟩
  exact ⟨h1,Since.refl _⟩
theorem good_U0 (i:Int) (hi:IsWord i):GoodC (uA0 i) []:=
 ⟨hi,hi,word1 i,word1 i,word0,word0,word1 i,word0,word0,hi,Nat.zero_le _,goodN _ _ _ word0 (Nat.zero_le _) r400⟩
theorem good_U1 (i k:Int) (hi:IsWord i) (hk:IsWord k):GoodC (uA1 i k) []:=
 ⟨hi,word1 i,word1 i,word1 i,hk,word1 i,word1 i,word0,word0,hi,Nat.zero_le _,goodN _ _ _ (word1 k) (Nat.zero_le _) r400⟩
theorem good_U2 (i k:Int) (hi:IsWord i) (hk:IsWord k):GoodC (uA2 i k) []:=
 ⟨hi,word1 i,word1 i,word1 i,hk,word1 i,word1 i,word0,word0,hi,(by show uW.size≤1048576;rw [uW_size];omega),goodN _ _ _ (word1 k) (Nat.zero_le _) r400⟩
theorem good_V0 (i k:Int) (hi:IsWord i) (hk:IsWord k):GoodC (uB0 i k) []:=
 ⟨hk,word1 k,word1 k,word1 k,hi,word0,word1 k,word0,word0,hk,Nat.zero_le _,goodN _ _ _ (word1 i) (Nat.zero_le _) r400⟩
theorem good_V1 (i k:Int) (hi:IsWord i) (hk:IsWord k):GoodC (uB1 i k) []:=
 ⟨hk,word1 k,word1 k,word1 k,word1 i,word1 k,word1 k,word0,word0,hk,Nat.zero_le _,goodN _ _ _ (show IsWord (((i+1) % 4294967296+5) % 4294967296) by unfold IsWord;omega) (by show uW.size≤1048576;rw [uW_size];omega) r400⟩
theorem tak_form (k0 h p j q e:Int) (s:Sg) (room now:Int):∃ Z b,takV k0 h p j q e s room now=.tuple #[.agg (cnCells Z),.bool b]:=by
 unfold takV
 split
 ·exact ⟨_,_,rfl⟩
 ·exact ⟨_,_,rfl⟩
theorem walkUnkept (a:Option Addr) (len cap:Nat) (zs:List Int) (w:World) (hb:Bytes w a len zs) (E:Laid0 w) (EM:LaidM w) :
  Calls Tryz.prog 3 #[.slice a len cap] w fun e w'=>e=.returned (.bool true)∧Below w.heap.size w w':=by
 have hbg:=fun wx=>big_ a len cap wx
 have hE:=E.lt
 have hEM:=EM.lt
 have G:=Since.refl w
 go_enter Tryz.func3,Tryz.ntmps3
 go_upto_region 0 with (fail)
 refine vR ?_
 refine vV (bF) ?_
 refine vE #[.slice a len cap,U,bF,U,U,U,U,U,U,U,U,U,U,U,U,U,U,U,U,U,U,U,U,U,U,U,U,U,U,U,U,U,U,U,U,U,U,U,U,U,U,U,U,U,U,U,U,U,U,U,U,U,U,U,U,U,U,U,U,U,U,U,U,U,U,U,U,U,U,U,U,U,U,U,U,U,U,U,U,U,U,U,U,U,U,U,U,U,U,U,U,U,U,U,U,U,U,U,U,U,U,U,U,U,U,U,U,U,U,U,U,U,U,U,U,U,U,U,U,U,U,U,U,U,U,U,U,U,U,U,U,U,U,U,U,U,U,U,U,U,U,U,U,U,U,U,U,U,U,U,U,U,U,U,U,U,U,U,U,U,U,U,U,U,U,U,U,U,U,U,U,U,U,U,U,U,U,U,U,U,U,U,U,U,U,U,U,U,U,U,U,U,U] ?_
 go_upto_region 1 with (fail)
 by_cases hbig:(1048576:Int)<(len:Int)
 case pos=>
  rw [decide_eq_true hbig] at hbg
  refine vR ?_
  refine vV (.slice a len cap) ?_
  refine vC (hbg _) ?_
  rintro _ _ ⟨rfl,rfl⟩
  refine ⟨_,rfl,?_⟩
  refine vE #[.slice a len cap,U,bF,U,U,U,U,U,U,U,U,U,U,U,U,U,U,U,U,U,U,U,U,U,.slice a len cap,bT,U,U,U,U,U,U,U,U,U,U,U,U,U,U,U,U,U,U,U,U,U,U,U,U,U,U,U,U,U,U,U,U,U,U,U,U,U,U,U,U,U,U,U,U,U,U,U,U,U,U,U,U,U,U,U,U,U,U,U,U,U,U,U,U,U,U,U,U,U,U,U,U,U,U,U,U,U,U,U,U,U,U,U,U,U,U,U,U,U,U,U,U,U,U,U,U,U,U,U,U,U,U,U,U,U,U,U,U,U,U,U,U,U,U,U,U,U,U,U,U,U,U,U,U,U,U,U,U,U,U,U,U,U,U,U,U,U,U,U,U,U,U,U,U,U,U,U,U,U,U,U,U,U,U,U,U,U,U,U,U,U,U,U,U,U,U,U] ?_
  go_wp2_with (fail)
  go_ret
  exact ⟨rfl,G⟩
 case neg=>
  rw [decide_eq_false hbig] at hbg
  have hm:len≤1048576:=by omega
  refine vR ?_
  refine vV (.slice a len cap) ?_
  refine vC (hbg _) ?_
  rintro _ _ ⟨rfl,rfl⟩
  refine ⟨_,rfl,?_⟩
  refine vE #[.slice a len cap,U,bF,U,U,U,U,U,U,U,U,U,U,U,U,U,U,U,U,U,U,U,U,U,.slice a len cap,bF,U,U,U,U,U,U,U,U,U,U,U,U,U,U,U,U,U,U,U,U,U,U,U,U,U,U,U,U,U,U,U,U,U,U,U,U,U,U,U,U,U,U,U,U,U,U,U,U,U,U,U,U,U,U,U,U,U,U,U,U,U,U,U,U,U,U,U,U,U,U,U,U,U,U,U,U,U,U,U,U,U,U,U,U,U,U,U,U,U,U,U,U,U,U,U,U,U,U,U,U,U,U,U,U,U,U,U,U,U,U,U,U,U,U,U,U,U,U,U,U,U,U,U,U,U,U,U,U,U,U,U,U,U,U,U,U,U,U,U,U,U,U,U,U,U,U,U,U,U,U,U,U,U,U,U,U,U,U,U,U,U,U,U,U,U,U,U] ?_
  go_upto_region 3 with (fail)
  refine vR ?_
  refine vV (.slice a len cap) ?_
  refine vC ((drawCookie a len cap zs _ (bytes_later hb G) hm)) ?_
  rintro _ qw1 ⟨sk,h,p,j,q,e,k,rfl,hp,hq,he,hk,qg2⟩
  refine ⟨_,rfl,?_⟩
  replace E:=E.since qg2
  replace EM:=EM.since qg2
  replace G:=G.trans qg2
  have qg2_s:=qg2.size
  unfold IsPortD at hp hq
  unfold IsEpochD at he
  clear hk
  refine vV (.tuple #[uJ sk,.agg #[uJ h,iJ p],.agg #[uJ j,iJ q],iJ e,iJ k]) ?_
  refine vV (uJ sk) ?_
  refine vV (.agg #[uJ h,iJ p]) ?_
  refine vV (.agg #[uJ j,iJ q]) ?_
  refine vV (iJ e) ?_
  refine vV (iJ k) ?_
  refine vW (qw1.alloc (.cells #[uJ 0,iJ 0] 26)) (pX qw1.heap.size 0) ?_
  have qB4:=Blk.new qw1 #[.int .u32 0,.int .i64 0] 26
  have qg5:=(Since.refl qw1).alloc (.cells #[.int .u32 0,.int .i64 0] 26)
  replace E:=E.since qg5
  replace EM:=EM.since qg5
  replace G:=G.trans qg5
  generalize qw1.alloc (.cells #[.int .u32 0,.int .i64 0] 26)=qw3 at E EM G qB4 qg5 ⊢
  have qB4_l:=qB4.lt
  have qg5_s:=qg5.size
  refine vW (qw3.alloc (.cells #[uJ 0,iJ 0] 26)) (pX qw3.heap.size 0) ?_
  have qB7:=Blk.new qw3 #[.int .u32 0,.int .i64 0] 26
  have qg8:=(Since.refl qw3).alloc (.cells #[.int .u32 0,.int .i64 0] 26)
  replace qB4:=qB4.since qg8
  replace E:=E.since qg8
  replace EM:=EM.since qg8
  replace G:=G.trans qg8
  generalize qw3.alloc (.cells #[.int .u32 0,.int .i64 0] 26)=qw6 at qB4 E EM G qB7 qg8 ⊢
  have qB7_l:=qB7.lt
  have qg8_s:=qg8.size
  refine vV (uJ sk) ?_
  refine sB #[.int .u32 h,.int .i64 p] ad_big qB4 rfl rfl (by simp [Value.oneCell']) ?_
  intro qw9 qt10 qB11
  clear qB4
  replace qB7:=qB7.touch qt10 (by omega)
  replace E:=E.touch qt10 (by omega)
  replace EM:=EM.touch qt10 (by omega)
  replace G:=since_touch G qt10 (by omega)
  have qt10_s:=qt10.size
  refine sB #[.int .u32 j,.int .i64 q] ad_big qB7 rfl rfl (by simp [Value.oneCell']) ?_
  intro qw12 qt13 qB14
  clear qB7
  replace qB11:=qB11.touch qt13 (by omega)
  replace E:=E.touch qt13 (by omega)
  replace EM:=EM.touch qt13 (by omega)
  replace G:=since_touch G qt13 (by omega)
  have qt13_s:=qt13.size
  refine vV (iJ e) ?_
  refine vV (iJ k) ?_
  refine vE #[.slice a len cap,U,bF,uJ sk,pX qw1.heap.size 0,pX qw3.heap.size 0,iJ e,iJ k,U,U,U,U,U,U,U,U,U,U,U,U,U,U,U,U,.slice a len cap,bF,.tuple #[uJ sk,.agg #[uJ h,iJ p],.agg #[uJ j,iJ q],iJ e,iJ k],.slice a len cap,.tuple #[uJ sk,.agg #[uJ h,iJ p],.agg #[uJ j,iJ q],iJ e,iJ k],uJ sk,.agg #[uJ h,iJ p],.agg #[uJ j,iJ q],iJ e,iJ k,U,U,U,U,U,U,U,U,U,U,U,U,U,U,U,U,U,U,U,U,U,U,U,U,U,U,U,U,U,U,U,U,U,U,U,U,U,U,U,U,U,U,U,U,U,U,U,U,U,U,U,U,U,U,U,U,U,U,U,U,U,U,U,U,U,U,U,U,U,U,U,U,U,U,U,U,U,U,U,U,U,U,U,U,U,U,U,U,U,U,U,U,U,U,U,U,U,U,U,U,U,U,U,U,U,U,U,U,U,U,U,U,U,U,U,U,U,U,U,U,U,U,U,U,U,U,U,U,U,U,U,U,U,U,U,U,U,U,U,U,U,U,U,U,U,U,U,U,U,U,U,U,U,U,U,U,U,U,U] ?_
  generalize (.tuple #[.int .u32 sk,.agg #[.int .u32 h,.int .i64 p],.agg #[.int .u32 j,.int .i64 q],.int .i64 e,.int .i64 k]:Value)=qz15
  generalize (.agg #[.int .u32 h,.int .i64 p]:Value)=qz16
  generalize (.agg #[.int .u32 j,.int .i64 q]:Value)=qz17
  go_upto_region 4 with (fail)
  by_cases b0:e<0
  case pos=>
   refine vR ?_
   refine vV (iJ e) ?_
   refine vV (.bool true) ?_ (hrun:=by simp [execOp,go_sem];omega)
   refine vV (bT) ?_
   refine vS ?_
   refine vS ?_
   refine vV (bT) ?_
   refine vV (bT) ?_
   refine vS ?_
   refine vS ?_
   refine vS ?_
   refine vV (bT) ?_
   refine vV (bT) ?_
   refine vS ?_
   refine vS ?_
   refine vS ?_
   refine vV (bT) ?_
   refine vV (bT) ?_
   refine vS ?_
   refine vS ?_
   refine vS ?_
   refine vV (bT) ?_
   refine vV (bT) ?_
   refine vS ?_
   refine vS ?_
   refine vS ?_
   refine vV (bT) ?_
   refine vZ (fun Y=>#[.slice a len cap,U,Y 2,uJ sk,pX qw1.heap.size 0,pX qw3.heap.size 0,iJ e,Y 7,U,U,U,U,U,U,U,U,U,U,U,U,U,U,U,U,Y 24,Y 25,Y 26,Y 27,Y 28,Y 29,Y 30,Y 31,Y 32,Y 33,iJ e,bT,bT,U,U,bT,bT,U,U,U,bT,bT,U,U,U,bT,bT,U,U,U,bT,bT,U,U,U,bT,U,U,U,U,U,U,U,U,U,U,U,U,U,U,U,U,U,U,U,U,U,U,U,U,U,U,U,U,U,U,U,U,U,U,U,U,U,U,U,U,U,U,U,U,U,U,U,U,U,U,U,U,U,U,U,U,U,U,U,U,U,U,U,U,U,U,U,U,U,U,U,U,U,U,U,U,U,U,U,U,U,U,U,U,U,U,U,U,U,U,U,U,U,U,U,U,U,U,U,U,U,U,U,U,U,U,U,U,U,U,U,U,U,U,U,U,U,U,U,U,U,U,U,U,U,U,U,U,U,U,U,U,U]) (fun Y=>?_)
   go_wp2_with (fail)
   go_ret
   exact ⟨rfl,G⟩
  by_cases b1:1000000000≤e
  case pos=>
   refine vR ?_
   refine vV (iJ e) ?_
   refine vV (.bool false) ?_ (hrun:=by simp [execOp,go_sem];omega)
   refine vV (bF) ?_
   refine vV (iJ e) ?_
   refine vV (.bool true) ?_ (hrun:=by simp [execOp,go_sem];omega)
   refine vV (bT) ?_
   refine vV (bT) ?_
   refine vS ?_
   refine vS ?_
   refine vS ?_
   refine vV (bT) ?_
   refine vV (bT) ?_
   refine vS ?_
   refine vS ?_
   refine vS ?_
   refine vV (bT) ?_
   refine vV (bT) ?_
   refine vS ?_
   refine vS ?_
   refine vS ?_
   refine vV (bT) ?_
   refine vV (bT) ?_
   refine vS ?_
   refine vS ?_
   refine vS ?_
   refine vV (bT) ?_
   refine vZ (fun Y=>#[.slice a len cap,U,Y 2,uJ sk,pX qw1.heap.size 0,pX qw3.heap.size 0,iJ e,Y 7,U,U,U,U,U,U,U,U,U,U,U,U,U,U,U,U,Y 24,Y 25,Y 26,Y 27,Y 28,Y 29,Y 30,Y 31,Y 32,Y 33,iJ e,bF,bF,iJ e,bT,bT,bT,U,U,U,bT,bT,U,U,U,bT,bT,U,U,U,bT,bT,U,U,U,bT,U,U,U,U,U,U,U,U,U,U,U,U,U,U,U,U,U,U,U,U,U,U,U,U,U,U,U,U,U,U,U,U,U,U,U,U,U,U,U,U,U,U,U,U,U,U,U,U,U,U,U,U,U,U,U,U,U,U,U,U,U,U,U,U,U,U,U,U,U,U,U,U,U,U,U,U,U,U,U,U,U,U,U,U,U,U,U,U,U,U,U,U,U,U,U,U,U,U,U,U,U,U,U,U,U,U,U,U,U,U,U,U,U,U,U,U,U,U,U,U,U,U,U,U,U,U,U,U,U,U,U,U,U]) (fun Y=>?_)
   go_wp2_with (fail)
   go_ret
   exact ⟨rfl,G⟩
  by_cases b2:p<0
  case pos=>
   refine vR ?_
   refine vV (iJ e) ?_
   refine vV (.bool false) ?_ (hrun:=by simp [execOp,go_sem];omega)
   refine vV (bF) ?_
   refine vV (iJ e) ?_
   refine vV (.bool false) ?_ (hrun:=by simp [execOp,go_sem];omega)
   refine vV (bF) ?_
   refine vV (bF) ?_
   refine vV (pX qw1.heap.size 1) ?_
   refine vD (iJ p) (qB11.cell 1) ?_
   refine vV (.bool true) ?_ (hrun:=by simp [execOp,go_sem];omega)
   refine vV (bT) ?_
   refine vV (bT) ?_
   refine vS ?_
   refine vS ?_
   refine vS ?_
   refine vV (bT) ?_
   refine vV (bT) ?_
   refine vS ?_
   refine vS ?_
   refine vS ?_
   refine vV (bT) ?_
   refine vV (bT) ?_
   refine vS ?_
   refine vS ?_
   refine vS ?_
   refine vV (bT) ?_
   refine vZ (fun Y=>#[.slice a len cap,U,Y 2,uJ sk,pX qw1.heap.size 0,pX qw3.heap.size 0,iJ e,Y 7,U,U,U,U,U,U,U,U,U,U,U,U,U,U,U,U,Y 24,Y 25,Y 26,Y 27,Y 28,Y 29,Y 30,Y 31,Y 32,Y 33,iJ e,bF,bF,iJ e,bF,bF,bF,pX qw1.heap.size 1,iJ p,bT,bT,bT,U,U,U,bT,bT,U,U,U,bT,bT,U,U,U,bT,U,U,U,U,U,U,U,U,U,U,U,U,U,U,U,U,U,U,U,U,U,U,U,U,U,U,U,U,U,U,U,U,U,U,U,U,U,U,U,U,U,U,U,U,U,U,U,U,U,U,U,U,U,U,U,U,U,U,U,U,U,U,U,U,U,U,U,U,U,U,U,U,U,U,U,U,U,U,U,U,U,U,U,U,U,U,U,U,U,U,U,U,U,U,U,U,U,U,U,U,U,U,U,U,U,U,U,U,U,U,U,U,U,U,U,U,U,U,U,U,U,U,U,U,U,U,U,U,U,U,U,U,U]) (fun Y=>?_)
   go_wp2_with (fail)
   go_ret
   exact ⟨rfl,G⟩
  by_cases b3:65535<p
  case pos=>
   refine vR ?_
   refine vV (iJ e) ?_
   refine vV (.bool false) ?_ (hrun:=by simp [execOp,go_sem];omega)
   refine vV (bF) ?_
   refine vV (iJ e) ?_
   refine vV (.bool false) ?_ (hrun:=by simp [execOp,go_sem];omega)
   refine vV (bF) ?_
   refine vV (bF) ?_
   refine vV (pX qw1.heap.size 1) ?_
   refine vD (iJ p) (qB11.cell 1) ?_
   refine vV (.bool false) ?_ (hrun:=by simp [execOp,go_sem];omega)
   refine vV (bF) ?_
   refine vV (bF) ?_
   refine vV (pX qw1.heap.size 1) ?_
   refine vD (iJ p) (qB11.cell 1) ?_
   refine vV (.bool true) ?_ (hrun:=by simp [execOp,go_sem];omega)
   refine vV (bT) ?_
   refine vV (bT) ?_
   refine vS ?_
   refine vS ?_
   refine vS ?_
   refine vV (bT) ?_
   refine vV (bT) ?_
   refine vS ?_
   refine vS ?_
   refine vS ?_
   refine vV (bT) ?_
   refine vZ (fun Y=>#[.slice a len cap,U,Y 2,uJ sk,pX qw1.heap.size 0,pX qw3.heap.size 0,iJ e,Y 7,U,U,U,U,U,U,U,U,U,U,U,U,U,U,U,U,Y 24,Y 25,Y 26,Y 27,Y 28,Y 29,Y 30,Y 31,Y 32,Y 33,iJ e,bF,bF,iJ e,bF,bF,bF,pX qw1.heap.size 1,iJ p,bF,bF,bF,pX qw1.heap.size 1,iJ p,bT,bT,bT,U,U,U,bT,bT,U,U,U,bT,U,U,U,U,U,U,U,U,U,U,U,U,U,U,U,U,U,U,U,U,U,U,U,U,U,U,U,U,U,U,U,U,U,U,U,U,U,U,U,U,U,U,U,U,U,U,U,U,U,U,U,U,U,U,U,U,U,U,U,U,U,U,U,U,U,U,U,U,U,U,U,U,U,U,U,U,U,U,U,U,U,U,U,U,U,U,U,U,U,U,U,U,U,U,U,U,U,U,U,U,U,U,U,U,U,U,U,U,U,U,U,U,U,U,U,U,U,U,U,U,U,U,U,U,U,U,U,U,U,U,U,U,U]) (fun Y=>?_)
   go_wp2_with (fail)
   go_ret
   exact ⟨rfl,G⟩
  by_cases b4:q<0
  case pos=>
   refine vR ?_
   refine vV (iJ e) ?_
   refine vV (.bool false) ?_ (hrun:=by simp [execOp,go_sem];omega)
   refine vV (bF) ?_
   refine vV (iJ e) ?_
   refine vV (.bool false) ?_ (hrun:=by simp [execOp,go_sem];omega)
   refine vV (bF) ?_
   refine vV (bF) ?_
   refine vV (pX qw1.heap.size 1) ?_
   refine vD (iJ p) (qB11.cell 1) ?_
   refine vV (.bool false) ?_ (hrun:=by simp [execOp,go_sem];omega)
   refine vV (bF) ?_
   refine vV (bF) ?_
   refine vV (pX qw1.heap.size 1) ?_
   refine vD (iJ p) (qB11.cell 1) ?_
   refine vV (.bool false) ?_ (hrun:=by simp [execOp,go_sem];omega)
   refine vV (bF) ?_
   refine vV (bF) ?_
   refine vV (pX qw3.heap.size 1) ?_
   refine vD (iJ q) (qB14.cell 1) ?_
   refine vV (.bool true) ?_ (hrun:=by simp [execOp,go_sem];omega)
   refine vV (bT) ?_
   refine vV (bT) ?_
   refine vS ?_
   refine vS ?_
   refine vS ?_
   refine vV (bT) ?_
   refine vZ (fun Y=>#[.slice a len cap,U,Y 2,uJ sk,pX qw1.heap.size 0,pX qw3.heap.size 0,iJ e,Y 7,U,U,U,U,U,U,U,U,U,U,U,U,U,U,U,U,Y 24,Y 25,Y 26,Y 27,Y 28,Y 29,Y 30,Y 31,Y 32,Y 33,iJ e,bF,bF,iJ e,bF,bF,bF,pX qw1.heap.size 1,iJ p,bF,bF,bF,pX qw1.heap.size 1,iJ p,bF,bF,bF,pX qw3.heap.size 1,iJ q,bT,bT,bT,U,U,U,bT,U,U,U,U,U,U,U,U,U,U,U,U,U,U,U,U,U,U,U,U,U,U,U,U,U,U,U,U,U,U,U,U,U,U,U,U,U,U,U,U,U,U,U,U,U,U,U,U,U,U,U,U,U,U,U,U,U,U,U,U,U,U,U,U,U,U,U,U,U,U,U,U,U,U,U,U,U,U,U,U,U,U,U,U,U,U,U,U,U,U,U,U,U,U,U,U,U,U,U,U,U,U,U,U,U,U,U,U,U,U,U,U,U,U,U,U,U,U,U,U,U,U,U,U,U,U,U,U,U,U,U,U,U]) (fun Y=>?_)
   go_wp2_with (fail)
   go_ret
   exact ⟨rfl,G⟩
  by_cases b5:65535<q
  case pos=>
   refine vR ?_
   refine vV (iJ e) ?_
   refine vV (.bool false) ?_ (hrun:=by simp [execOp,go_sem];omega)
   refine vV (bF) ?_
   refine vV (iJ e) ?_
   refine vV (.bool false) ?_ (hrun:=by simp [execOp,go_sem];omega)
   refine vV (bF) ?_
   refine vV (bF) ?_
   refine vV (pX qw1.heap.size 1) ?_
   refine vD (iJ p) (qB11.cell 1) ?_
   refine vV (.bool false) ?_ (hrun:=by simp [execOp,go_sem];omega)
   refine vV (bF) ?_
   refine vV (bF) ?_
   refine vV (pX qw1.heap.size 1) ?_
   refine vD (iJ p) (qB11.cell 1) ?_
   refine vV (.bool false) ?_ (hrun:=by simp [execOp,go_sem];omega)
   refine vV (bF) ?_
   refine vV (bF) ?_
   refine vV (pX qw3.heap.size 1) ?_
   refine vD (iJ q) (qB14.cell 1) ?_
   refine vV (.bool false) ?_ (hrun:=by simp [execOp,go_sem];omega)
   refine vV (bF) ?_
   refine vV (bF) ?_
   refine vV (pX qw3.heap.size 1) ?_
   refine vD (iJ q) (qB14.cell 1) ?_
   refine vV (.bool true) ?_ (hrun:=by simp [execOp,go_sem];omega)
   refine vV (bT) ?_
   refine vZ (fun Y=>#[.slice a len cap,U,Y 2,uJ sk,pX qw1.heap.size 0,pX qw3.heap.size 0,iJ e,Y 7,U,U,U,U,U,U,U,U,U,U,U,U,U,U,U,U,Y 24,Y 25,Y 26,Y 27,Y 28,Y 29,Y 30,Y 31,Y 32,Y 33,iJ e,bF,bF,iJ e,bF,bF,bF,pX qw1.heap.size 1,iJ p,bF,bF,bF,pX qw1.heap.size 1,iJ p,bF,bF,bF,pX qw3.heap.size 1,iJ q,bF,bF,bF,pX qw3.heap.size 1,iJ q,bT,bT,U,U,U,U,U,U,U,U,U,U,U,U,U,U,U,U,U,U,U,U,U,U,U,U,U,U,U,U,U,U,U,U,U,U,U,U,U,U,U,U,U,U,U,U,U,U,U,U,U,U,U,U,U,U,U,U,U,U,U,U,U,U,U,U,U,U,U,U,U,U,U,U,U,U,U,U,U,U,U,U,U,U,U,U,U,U,U,U,U,U,U,U,U,U,U,U,U,U,U,U,U,U,U,U,U,U,U,U,U,U,U,U,U,U,U,U,U,U,U,U,U,U,U,U,U,U,U,U,U,U,U,U,U]) (fun Y=>?_)
   go_wp2_with (fail)
   go_ret
   exact ⟨rfl,G⟩
  refine vR ?_
  refine vV (iJ e) ?_
  refine vV (.bool false) ?_ (hrun:=by simp [execOp,go_sem];omega)
  refine vV (bF) ?_
  refine vV (iJ e) ?_
  refine vV (.bool false) ?_ (hrun:=by simp [execOp,go_sem];omega)
  refine vV (bF) ?_
  refine vV (bF) ?_
  refine vV (pX qw1.heap.size 1) ?_
  refine vD (iJ p) (qB11.cell 1) ?_
  refine vV (.bool false) ?_ (hrun:=by simp [execOp,go_sem];omega)
  refine vV (bF) ?_
  refine vV (bF) ?_
  refine vV (pX qw1.heap.size 1) ?_
  refine vD (iJ p) (qB11.cell 1) ?_
  refine vV (.bool false) ?_ (hrun:=by simp [execOp,go_sem];omega)
  refine vV (bF) ?_
  refine vV (bF) ?_
  refine vV (pX qw3.heap.size 1) ?_
  refine vD (iJ q) (qB14.cell 1) ?_
  refine vV (.bool false) ?_ (hrun:=by simp [execOp,go_sem];omega)
  refine vV (bF) ?_
  refine vV (bF) ?_
  refine vV (pX qw3.heap.size 1) ?_
  refine vD (iJ q) (qB14.cell 1) ?_
  refine vV (.bool false) ?_ (hrun:=by simp [execOp,go_sem];omega)
  refine vV (bF) ?_
  refine vZ (fun Y=>#[.slice a len cap,U,Y 2,uJ sk,pX qw1.heap.size 0,pX qw3.heap.size 0,iJ e,Y 7,U,U,U,U,U,U,U,U,U,U,U,U,U,U,U,U,Y 24,Y 25,Y 26,Y 27,Y 28,Y 29,Y 30,Y 31,Y 32,Y 33,iJ e,bF,bF,iJ e,bF,bF,bF,pX qw1.heap.size 1,iJ p,bF,bF,bF,pX qw1.heap.size 1,iJ p,bF,bF,bF,pX qw3.heap.size 1,iJ q,bF,bF,bF,pX qw3.heap.size 1,iJ q,bF,bF,U,U,U,U,U,U,U,U,U,U,U,U,U,U,U,U,U,U,U,U,U,U,U,U,U,U,U,U,U,U,U,U,U,U,U,U,U,U,U,U,U,U,U,U,U,U,U,U,U,U,U,U,U,U,U,U,U,U,U,U,U,U,U,U,U,U,U,U,U,U,U,U,U,U,U,U,U,U,U,U,U,U,U,U,U,U,U,U,U,U,U,U,U,U,U,U,U,U,U,U,U,U,U,U,U,U,U,U,U,U,U,U,U,U,U,U,U,U,U,U,U,U,U,U,U,U,U,U,U,U,U,U,U]) (fun Y=>?_)
  have hok:ckOk p q e=true:=by
   unfold ckOk
   simp only [Bool.and_eq_true,decide_eq_true_eq]
   omega
  have he0:0≤e∧e<1000000000:=by omega
  clear b0 b1 b2 b3 b4 b5 hp hq he
  obtain ⟨X4,hX4,hat4⟩:=at15 a len cap zs 4 (by omega) w hb hm
  obtain ⟨X5,hX5,hat5⟩:=at15 a len cap zs 5 (by omega) w hb hm
  obtain ⟨X6,hX6,hat6⟩:=at15 a len cap zs 6 (by omega) w hb hm
  obtain ⟨ia,hI⟩:∃ ia:Int,Hid (ia=X4 % 4294967296*16777217 % 4294967296):=⟨_,rfl⟩
  have hi:IsWord ia:=by
   rw [hI.out]
   unfold IsWord
   omega
  have hask:=fun wx=>implAsk ia 400 3 hi wx
  unfold askV at hask
  rw [if_pos (show (1≤(400:Int)∧(400:Int)≤4096)∧(0:Int)≤3∧(3:Int)≤1000000000 by omega)] at hask
  have hs1:=syn_U0 ia
  change ∀ wx,Calls _ _ _ _ (fun e w'=>e=.returned (.tuple #[.agg (cnCells (uA0 ia)),.agg (sgCells (synSg (uA0 ia) [])),.bool true])∧_) at hask
  rw [hs1] at hask
  clear hs1
  have hhear:=fun wx L=>implHearCk sk h p j q e (uS1 ia) (Nat.zero_le _) wx L
  rw [hear_U sk h p j q e ia hok] at hhear
  obtain ⟨c,hc⟩:∃ c,Hid (c=ckOf sk h p j q e 0):=⟨_,rfl⟩
  rw [← hc.out] at hhear
  have hcw:IsWord c:=by rw [hc.out];exact ckOf_word _ _ _ _ _ _ _
  have hkn:ckKnown sk h p j q (e+X5 % 2) c=true:=by
   rw [hc.out]
   have h01:X5 % 2=0∨X5 % 2=1:=by omega
   rcases h01 with h0|h0
   ·rw [h0,Int.add_zero]
    exact (known_now sk h p j q e 0 hok (by omega)).1
   ·rw [h0]
    exact (known_next sk h p j q e 0 hok he0.2 (by omega)).1
  have htk:=fun wx L=>implTake15 sk h p j q (e+X5 % 2) (uP ia c) 400 5 (by unfold IsInt uP;simp) wx L
  rw [take_P sk h p j q (e+X5 % 2) ia c hi hcw hkn] at htk
  clear hkn hok
  have htm:X5.tmod 2=X5 % 2:=Int.tmod_eq_emod_of_nonneg hX5.1
  have hwe:IntKind.i64.wrap (e+X5 % 2)=e+X5 % 2:=by
   rw [IntWalk.i64_left]
   exact IntWalk.wrap64_in _ ⟨by omega,by omega⟩
  have hokB:=fun wx=>implConnOk (uB0 ia c) [] (good_V0 ia c hi hcw) wx (rdNil wx none)
  rw [ok_V0 ia c] at hokB
  have stB:(uB0 ia c).st=3:=rfl
  clear he0
  go_upto_region 6 with (fail)
  refine vR ?_
  refine vV (.slice a len cap) ?_
  refine vK (hat4 _ G) ?_
  intro qw18 qg19
  replace qB11:=qB11.since qg19
  replace qB14:=qB14.since qg19
  replace E:=E.since qg19
  replace EM:=EM.since qg19
  replace G:=G.trans qg19
  have qg19_s:=qg19.size
  refine vV (uJ (X4 % 4294967296)) ?_
  refine vV (.int .u32 ia) ?_ (hrun:=by rw [hI.out];kernel_rfl)
  refine vK (hask _) ?_
  intro qw20 qg21
  replace qB11:=qB11.since qg21
  replace qB14:=qB14.since qg21
  replace E:=E.since qg21
  replace EM:=EM.since qg21
  replace G:=G.trans qg21
  have qg21_s:=qg21.size
  refine vV (.tuple #[.agg (cnCells (uA0 ia)),.agg (sgCells (uS1 ia)),bT]) ?_
  refine vV (.agg (cnCells (uA0 ia))) ?_
  refine vV (.agg (sgCells (uS1 ia))) ?_
  refine vV (bT) ?_
  refine vW (qw20.alloc (.cells (cnCells cnZero) 39)) (pX qw20.heap.size 0) ?_
  have qB23:=Blk.new qw20 (cnCells cnZero) 39
  have qg24:=(Since.refl qw20).alloc (.cells (cnCells cnZero) 39)
  replace qB11:=qB11.since qg24
  replace qB14:=qB14.since qg24
  replace E:=E.since qg24
  replace EM:=EM.since qg24
  replace G:=G.trans qg24
  generalize qw20.alloc (.cells (cnCells cnZero) 39)=qw22 at qB11 qB14 E EM G qB23 qg24 ⊢
  have qB23_l:=qB23.lt
  have qg24_s:=qg24.size
  refine vW (qw22.alloc (.cells (sgCells sgZero) 41)) (pX qw22.heap.size 0) ?_
  have qB26:=Blk.new qw22 (sgCells sgZero) 41
  have qg27:=(Since.refl qw22).alloc (.cells (sgCells sgZero) 41)
  replace qB11:=qB11.since qg27
  replace qB14:=qB14.since qg27
  replace qB23:=qB23.since qg27
  replace E:=E.since qg27
  replace EM:=EM.since qg27
  replace G:=G.trans qg27
  generalize qw22.alloc (.cells (sgCells sgZero) 41)=qw25 at qB11 qB14 qB23 E EM G qB26 qg27 ⊢
  have qB26_l:=qB26.lt
  have qg27_s:=qg27.size
  refine sB (cnCells (uA0 ia)) cn_big qB23 (cn_size _) (cn_size _) (cn_one _) ?_
  intro qw28 qt29 qB30
  clear qB23
  replace qB11:=qB11.touch qt29 (by omega)
  replace qB14:=qB14.touch qt29 (by omega)
  replace qB26:=qB26.touch qt29 (by omega)
  replace E:=E.touch qt29 (by omega)
  replace EM:=EM.touch qt29 (by omega)
  replace G:=since_touch G qt29 (by omega)
  have qt29_s:=qt29.size
  refine sB (sgCells (uS1 ia)) seg_big qB26 rfl rfl (seg_one _ _ _ _ _ _ _ _) ?_
  intro qw31 qt32 qB33
  clear qB26
  replace qB11:=qB11.touch qt32 (by omega)
  replace qB14:=qB14.touch qt32 (by omega)
  replace qB30:=qB30.touch qt32 (by omega)
  replace E:=E.touch qt32 (by omega)
  replace EM:=EM.touch qt32 (by omega)
  replace G:=since_touch G qt32 (by omega)
  have qt32_s:=qt32.size
  refine vV (bT) ?_
  refine vZ (fun Y=>#[.slice a len cap,U,Y 2,uJ sk,pX qw1.heap.size 0,pX qw3.heap.size 0,iJ e,Y 7,pX qw20.heap.size 0,pX qw22.heap.size 0,bT,U,U,U,U,U,U,U,U,U,U,U,U,U,Y 24,Y 25,Y 26,Y 27,Y 28,Y 29,Y 30,Y 31,Y 32,Y 33,Y 34,Y 35,Y 36,Y 37,Y 38,Y 39,Y 40,Y 41,Y 42,Y 43,Y 44,Y 45,Y 46,Y 47,Y 48,Y 49,Y 50,Y 51,Y 52,Y 53,Y 54,Y 55,Y 56,Y 57,Y 58,Y 59,.tuple #[.agg (cnCells (uA0 ia)),.agg (sgCells (uS1 ia)),bT],.slice a len cap,iJ X4,uJ (X4 % 4294967296),uJ ia,.tuple #[.agg (cnCells (uA0 ia)),.agg (sgCells (uS1 ia)),bT],.agg (cnCells (uA0 ia)),.agg (sgCells (uS1 ia)),bT,U,U,U,U,U,U,U,U,U,U,U,U,U,U,U,U,U,U,U,U,U,U,U,U,U,U,U,U,U,U,U,U,U,U,U,U,U,U,U,U,U,U,U,U,U,U,U,U,U,U,U,U,U,U,U,U,U,U,U,U,U,U,U,U,U,U,U,U,U,U,U,U,U,U,U,U,U,U,U,U,U,U,U,U,U,U,U,U,U,U,U,U,U,U,U,U,U,U,U,U,U,U,U,U,U,U,U,U,U,U,U,U,U,U,U,U,U,U,U,U,U,U,U,U]) (fun Y=>?_)
  generalize (.tuple #[.agg (cnCells (uA0 ia)),.agg (sgCells (uS1 ia)),.bool true]:Value)=qz34
  clear hI hask hat4 hX4
  go_upto_region 7 with (fail)
  refine vR ?_
  refine vV (uJ sk) ?_
  refine vB ad_big qB11 rfl ?_
  refine vB ad_big qB14 rfl ?_
  refine vV (iJ e) ?_
  refine vB seg_big qB33 rfl ?_
  refine vK (hhear _ EM) ?_
  intro qw35 qg36
  replace qB11:=qB11.since qg36
  replace qB14:=qB14.since qg36
  replace qB30:=qB30.since qg36
  replace qB33:=qB33.since qg36
  replace E:=E.since qg36
  replace EM:=EM.since qg36
  replace G:=G.trans qg36
  have qg36_s:=qg36.size
  refine vV (.tuple #[.agg (sgCells (uS2 ia c)),bT]) ?_
  refine vV (.agg (sgCells (uS2 ia c))) ?_
  refine vV (bT) ?_
  refine vW (qw35.alloc (.cells (sgCells sgZero) 41)) (pX qw35.heap.size 0) ?_
  have qB38:=Blk.new qw35 (sgCells sgZero) 41
  have qg39:=(Since.refl qw35).alloc (.cells (sgCells sgZero) 41)
  replace qB11:=qB11.since qg39
  replace qB14:=qB14.since qg39
  replace qB30:=qB30.since qg39
  replace qB33:=qB33.since qg39
  replace E:=E.since qg39
  replace EM:=EM.since qg39
  replace G:=G.trans qg39
  generalize qw35.alloc (.cells (sgCells sgZero) 41)=qw37 at qB11 qB14 qB30 qB33 E EM G qB38 qg39 ⊢
  have qB38_l:=qB38.lt
  have qg39_s:=qg39.size
  refine sB (sgCells (uS2 ia c)) seg_big qB38 rfl rfl (seg_one _ _ _ _ _ _ _ _) ?_
  intro qw40 qt41 qB42
  clear qB38
  replace qB11:=qB11.touch qt41 (by omega)
  replace qB14:=qB14.touch qt41 (by omega)
  replace qB30:=qB30.touch qt41 (by omega)
  replace qB33:=qB33.touch qt41 (by omega)
  replace E:=E.touch qt41 (by omega)
  replace EM:=EM.touch qt41 (by omega)
  replace G:=since_touch G qt41 (by omega)
  have qt41_s:=qt41.size
  refine vV (bT) ?_
  refine vZ (fun Y=>#[.slice a len cap,U,Y 2,uJ sk,pX qw1.heap.size 0,pX qw3.heap.size 0,iJ e,Y 7,pX qw20.heap.size 0,pX qw22.heap.size 0,Y 10,pX qw35.heap.size 0,bT,U,U,U,U,U,U,U,U,U,U,U,Y 24,Y 25,Y 26,Y 27,Y 28,Y 29,Y 30,Y 31,Y 32,Y 33,Y 34,Y 35,Y 36,Y 37,Y 38,Y 39,Y 40,Y 41,Y 42,Y 43,Y 44,Y 45,Y 46,Y 47,Y 48,Y 49,Y 50,Y 51,Y 52,Y 53,Y 54,Y 55,Y 56,Y 57,Y 58,Y 59,Y 60,Y 61,Y 62,Y 63,Y 64,Y 65,Y 66,Y 67,Y 68,.tuple #[.agg (sgCells (uS2 ia c)),bT],uJ sk,.agg #[uJ h,iJ p],.agg #[uJ j,iJ q],iJ e,.agg (sgCells (uS1 ia)),.tuple #[.agg (sgCells (uS2 ia c)),bT],.agg (sgCells (uS2 ia c)),bT,U,U,U,U,U,U,U,U,U,U,U,U,U,U,U,U,U,U,U,U,U,U,U,U,U,U,U,U,U,U,U,U,U,U,U,U,U,U,U,U,U,U,U,U,U,U,U,U,U,U,U,U,U,U,U,U,U,U,U,U,U,U,U,U,U,U,U,U,U,U,U,U,U,U,U,U,U,U,U,U,U,U,U,U,U,U,U,U,U,U,U,U,U,U,U,U,U,U,U,U,U,U,U,U,U,U,U,U,U,U,U,U,U,U,U]) (fun Y=>?_)
  generalize (.tuple #[.agg (sgCells (uS2 ia c)),.bool true]:Value)=qz43
  generalize (.agg #[.int .u32 h,.int .i64 p]:Value)=qz44
  generalize (.agg #[.int .u32 j,.int .i64 q]:Value)=qz45
  generalize (.agg (sgCells (uS2 ia c)):Value)=qz46
  clear EM hhear hc
  go_upto_region 8 with (fail)
  refine vR ?_
  refine vB cn_big qB30 (cn_size _) ?_
  refine vB seg_big qB42 rfl ?_
  refine vC (came0 (uA0 ia) (uA1 ia c) (uS2 ia c) 4 (came_U ia c hi) (good_U0 ia hi) rfl hcw (word1 ia) (by unfold IsInt uS2;simp) (Nat.zero_le _) _ E) ?_
  rintro _ qw47 ⟨g1,cp1,gs1,cs1,rfl,qg48⟩
  refine ⟨_,rfl,?_⟩
  replace qB11:=qB11.since qg48
  replace qB14:=qB14.since qg48
  replace qB30:=qB30.since qg48
  replace qB33:=qB33.since qg48
  replace qB42:=qB42.since qg48
  replace E:=E.since qg48
  replace G:=G.trans qg48
  have qg48_s:=qg48.size
  refine vV (.tuple #[.agg (cnCells (at0 (uA1 ia c) g1 cp1)),.slice (some ⟨gs1,0,none⟩) 0 cs1]) ?_
  refine vV (.agg (cnCells (at0 (uA1 ia c) g1 cp1))) ?_
  refine vV (.slice (some ⟨gs1,0,none⟩) 0 cs1) ?_
  refine sB (cnCells (at0 (uA1 ia c) g1 cp1)) cn_big qB30 (cn_size _) (cn_size _) (cn_one _) ?_
  intro qw49 qt50 qB51
  clear qB30
  replace qB11:=qB11.touch qt50 (by omega)
  replace qB14:=qB14.touch qt50 (by omega)
  replace qB33:=qB33.touch qt50 (by omega)
  replace qB42:=qB42.touch qt50 (by omega)
  replace E:=E.touch qt50 (by omega)
  replace G:=since_touch G qt50 (by omega)
  have qt50_s:=qt50.size
  refine vZ (fun Y=>#[.slice a len cap,U,Y 2,uJ sk,pX qw1.heap.size 0,pX qw3.heap.size 0,iJ e,Y 7,pX qw20.heap.size 0,pX qw22.heap.size 0,Y 10,pX qw35.heap.size 0,bT,U,U,U,U,U,U,U,U,U,U,U,Y 24,Y 25,Y 26,Y 27,Y 28,Y 29,Y 30,Y 31,Y 32,Y 33,Y 34,Y 35,Y 36,Y 37,Y 38,Y 39,Y 40,Y 41,Y 42,Y 43,Y 44,Y 45,Y 46,Y 47,Y 48,Y 49,Y 50,Y 51,Y 52,Y 53,Y 54,Y 55,Y 56,Y 57,Y 58,Y 59,Y 60,Y 61,Y 62,Y 63,Y 64,Y 65,Y 66,Y 67,Y 68,Y 69,Y 70,Y 71,Y 72,Y 73,Y 74,Y 75,Y 76,Y 77,.tuple #[.agg (cnCells (at0 (uA1 ia c) g1 cp1)),.slice (some ⟨gs1,0,none⟩) 0 cs1],.agg (cnCells (uA0 ia)),.agg (sgCells (uS2 ia c)),.tuple #[.agg (cnCells (at0 (uA1 ia c) g1 cp1)),.slice (some ⟨gs1,0,none⟩) 0 cs1],.agg (cnCells (at0 (uA1 ia c) g1 cp1)),.slice (some ⟨gs1,0,none⟩) 0 cs1,U,U,U,U,U,U,U,U,U,U,U,U,U,U,U,U,U,U,U,U,U,U,U,U,U,U,U,U,U,U,U,U,U,U,U,U,U,U,U,U,U,U,U,U,U,U,U,U,U,U,U,U,U,U,U,U,U,U,U,U,U,U,U,U,U,U,U,U,U,U,U,U,U,U,U,U,U,U,U,U,U,U,U,U,U,U,U,U,U,U,U,U,U,U,U,U,U,U,U,U,U,U,U,U,U,U,U,U,U]) (fun Y=>?_)
  generalize (.tuple #[.agg (cnCells (at0 (uA1 ia c) g1 cp1)),.slice (some ⟨gs1,0,none⟩) 0 cs1]:Value)=qz52
  generalize (.agg (sgCells (uS2 ia c)):Value)=qz53
  generalize (.agg (cnCells (at0 (uA1 ia c) g1 cp1)):Value)=qz54
  go_upto_region 9 with (fail)
  refine vR ?_
  refine vB cn_big qB51 (cn_size _) ?_
  refine vC (write0 (uA1 ia c) (uA2 ia c) 5 uW (by decide) (write_U ia c hi).1 (write_U ia c hi).2 (good_U1 ia c hi hcw) rfl g1 cp1 _) ?_
  rintro _ qw55 ⟨g3,rfl,qg56⟩
  refine ⟨_,rfl,?_⟩
  replace qB11:=qB11.since qg56
  replace qB14:=qB14.since qg56
  replace qB51:=qB51.since qg56
  replace qB33:=qB33.since qg56
  replace qB42:=qB42.since qg56
  replace E:=E.since qg56
  replace G:=G.trans qg56
  have qg56_s:=qg56.size
  refine vV (.tuple #[.agg (cnCells (at0 (uA2 ia c) g3 0)),iJ 5]) ?_
  refine vV (.agg (cnCells (at0 (uA2 ia c) g3 0))) ?_
  refine vV (iJ 5) ?_
  refine sB (cnCells (at0 (uA2 ia c) g3 0)) cn_big qB51 (cn_size _) (cn_size _) (cn_one _) ?_
  intro qw57 qt58 qB59
  clear qB51
  replace qB11:=qB11.touch qt58 (by omega)
  replace qB14:=qB14.touch qt58 (by omega)
  replace qB33:=qB33.touch qt58 (by omega)
  replace qB42:=qB42.touch qt58 (by omega)
  replace E:=E.touch qt58 (by omega)
  replace G:=since_touch G qt58 (by omega)
  have qt58_s:=qt58.size
  refine vV (iJ 5) ?_
  refine vZ (fun Y=>#[.slice a len cap,U,Y 2,uJ sk,pX qw1.heap.size 0,pX qw3.heap.size 0,iJ e,Y 7,pX qw20.heap.size 0,pX qw22.heap.size 0,Y 10,pX qw35.heap.size 0,bT,iJ 5,U,U,U,U,U,U,U,U,U,U,Y 24,Y 25,Y 26,Y 27,Y 28,Y 29,Y 30,Y 31,Y 32,Y 33,Y 34,Y 35,Y 36,Y 37,Y 38,Y 39,Y 40,Y 41,Y 42,Y 43,Y 44,Y 45,Y 46,Y 47,Y 48,Y 49,Y 50,Y 51,Y 52,Y 53,Y 54,Y 55,Y 56,Y 57,Y 58,Y 59,Y 60,Y 61,Y 62,Y 63,Y 64,Y 65,Y 66,Y 67,Y 68,Y 69,Y 70,Y 71,Y 72,Y 73,Y 74,Y 75,Y 76,Y 77,Y 78,Y 79,Y 80,Y 81,Y 82,Y 83,.tuple #[.agg (cnCells (at0 (uA2 ia c) g3 0)),iJ 5],.agg (cnCells (at0 (uA1 ia c) g1 cp1)),.tuple #[.agg (cnCells (at0 (uA2 ia c) g3 0)),iJ 5],.agg (cnCells (at0 (uA2 ia c) g3 0)),iJ 5,U,U,U,U,U,U,U,U,U,U,U,U,U,U,U,U,U,U,U,U,U,U,U,U,U,U,U,U,U,U,U,U,U,U,U,U,U,U,U,U,U,U,U,U,U,U,U,U,U,U,U,U,U,U,U,U,U,U,U,U,U,U,U,U,U,U,U,U,U,U,U,U,U,U,U,U,U,U,U,U,U,U,U,U,U,U,U,U,U,U,U,U,U,U,U,U,U,U,U,U,U,U,U,U]) (fun Y=>?_)
  generalize (.tuple #[.agg (cnCells (at0 (uA2 ia c) g3 0)),.int .i64 5]:Value)=qz60
  generalize (.agg (cnCells (at0 (uA1 ia c) g1 cp1)):Value)=qz61
  generalize (.agg (cnCells (at0 (uA2 ia c) g3 0)):Value)=qz62
  go_upto_region 10 with (fail)
  refine vR ?_
  refine vB cn_big qB59 (cn_size _) ?_
  refine vC (send0 (uA2 ia c) (sentC (uA2 ia c) [] 4) [uP ia c] 4 rfl (sent_U ia c hi).1 (good_U2 ia c hi hcw) rfl g3 0 _) ?_
  rintro _ qw63 ⟨g4,cp4,gl4,cl4,rfl,HP,qg64⟩
  refine ⟨_,rfl,?_⟩
  replace qB11:=qB11.since qg64
  replace qB14:=qB14.since qg64
  replace qB59:=qB59.since qg64
  replace qB33:=qB33.since qg64
  replace qB42:=qB42.since qg64
  replace E:=E.since qg64
  replace G:=G.trans qg64
  have qg64_s:=qg64.size
  have HP_o:=HP.low'
  have HP_l:=HP.lt
  refine vV (.tuple #[.agg (cnCells (at0 (sentC (uA2 ia c) [] 4) g4 cp4)),.slice (some ⟨gl4,0,none⟩) 1 cl4]) ?_
  refine vV (.agg (cnCells (at0 (sentC (uA2 ia c) [] 4) g4 cp4))) ?_
  refine vV (.slice (some ⟨gl4,0,none⟩) 1 cl4) ?_
  refine sB (cnCells (at0 (sentC (uA2 ia c) [] 4) g4 cp4)) cn_big qB59 (cn_size _) (cn_size _) (cn_one _) ?_
  intro qw65 qt66 qB67
  clear qB59
  replace qB11:=qB11.touch qt66 (by omega)
  replace qB14:=qB14.touch qt66 (by omega)
  replace qB33:=qB33.touch qt66 (by omega)
  replace qB42:=qB42.touch qt66 (by omega)
  replace E:=E.touch qt66 (by omega)
  replace HP:=HP.touch qt66 (by omega)
  replace G:=since_touch G qt66 (by omega)
  have qt66_s:=qt66.size
  refine vV (.slice (some ⟨gl4,0,none⟩) 1 cl4) ?_
  refine vZ (fun Y=>#[.slice a len cap,U,Y 2,uJ sk,pX qw1.heap.size 0,pX qw3.heap.size 0,iJ e,Y 7,pX qw20.heap.size 0,pX qw22.heap.size 0,Y 10,pX qw35.heap.size 0,bT,iJ 5,.slice (some ⟨gl4,0,none⟩) 1 cl4,U,U,U,U,U,U,U,U,U,Y 24,Y 25,Y 26,Y 27,Y 28,Y 29,Y 30,Y 31,Y 32,Y 33,Y 34,Y 35,Y 36,Y 37,Y 38,Y 39,Y 40,Y 41,Y 42,Y 43,Y 44,Y 45,Y 46,Y 47,Y 48,Y 49,Y 50,Y 51,Y 52,Y 53,Y 54,Y 55,Y 56,Y 57,Y 58,Y 59,Y 60,Y 61,Y 62,Y 63,Y 64,Y 65,Y 66,Y 67,Y 68,Y 69,Y 70,Y 71,Y 72,Y 73,Y 74,Y 75,Y 76,Y 77,Y 78,Y 79,Y 80,Y 81,Y 82,Y 83,Y 84,Y 85,Y 86,Y 87,Y 88,.tuple #[.agg (cnCells (at0 (sentC (uA2 ia c) [] 4) g4 cp4)),.slice (some ⟨gl4,0,none⟩) 1 cl4],.agg (cnCells (at0 (uA2 ia c) g3 0)),.tuple #[.agg (cnCells (at0 (sentC (uA2 ia c) [] 4) g4 cp4)),.slice (some ⟨gl4,0,none⟩) 1 cl4],.agg (cnCells (at0 (sentC (uA2 ia c) [] 4) g4 cp4)),.slice (some ⟨gl4,0,none⟩) 1 cl4,U,U,U,U,U,U,U,U,U,U,U,U,U,U,U,U,U,U,U,U,U,U,U,U,U,U,U,U,U,U,U,U,U,U,U,U,U,U,U,U,U,U,U,U,U,U,U,U,U,U,U,U,U,U,U,U,U,U,U,U,U,U,U,U,U,U,U,U,U,U,U,U,U,U,U,U,U,U,U,U,U,U,U,U,U,U,U,U,U,U,U,U,U,U,U,U,U,U,U]) (fun Y=>?_)
  generalize (.tuple #[.agg (cnCells (at0 (sentC (uA2 ia c) [] 4) g4 cp4)),.slice (some ⟨gl4,0,none⟩) 1 cl4]:Value)=qz68
  generalize (.agg (cnCells (at0 (uA2 ia c) g3 0)):Value)=qz69
  generalize (.agg (cnCells (at0 (sentC (uA2 ia c) [] 4) g4 cp4)):Value)=qz70
  obtain ⟨BP,hBP⟩:∃ B,Held shG qw65 B gl4 1 cl4 [uP ia c]:=⟨_,HP⟩
  replace HP:=hBP
  clear hBP
  have stU:(at0 (sentC (uA2 ia c) [] 4) g4 cp4).st=3:=(sent_U ia c hi).2
  go_upto_region 11 with (fail)
  refine vR ?_
  refine vV (bT) ?_
  refine vV (bF) ?_
  refine vV (bF) ?_
  refine vV (pX qw20.heap.size 0) ?_
  refine vD (iJ 3) ((qB67.cell 0).trans (by show some (iJ (at0 (sentC (uA2 ia c) [] 4) g4 cp4).st:Value)=some (iJ 3:Value);rw [stU])) ?_
  refine vV (bF) ?_
  refine vV (bF) ?_
  refine vV (bF) ?_
  refine vV (iJ 5) ?_
  refine vV (bF) ?_
  refine vV (bF) ?_
  refine vV (bF) ?_
  refine vV (.slice (some ⟨gl4,0,none⟩) 1 cl4) ?_
  refine vV (iJ 1) ?_
  refine vV (bF) ?_
  refine vV (bF) ?_
  refine vV (bF) ?_
  refine vV (.slice (some ⟨gl4,0,none⟩) 1 cl4) ?_
  refine vV (pX gl4 0) ?_
  refine vV (pX gl4 7) ?_
  refine vD (.string uW) (held_cell1 HP 7 (by decide) _ rfl) ?_
  refine vV (bF) ?_
  refine vV (bF) ?_
  refine vZ (fun Y=>#[.slice a len cap,U,Y 2,uJ sk,pX qw1.heap.size 0,pX qw3.heap.size 0,iJ e,Y 7,pX qw20.heap.size 0,pX qw22.heap.size 0,Y 10,pX qw35.heap.size 0,Y 12,Y 13,.slice (some ⟨gl4,0,none⟩) 1 cl4,U,U,U,U,U,U,U,U,U,Y 24,Y 25,Y 26,Y 27,Y 28,Y 29,Y 30,Y 31,Y 32,Y 33,Y 34,Y 35,Y 36,Y 37,Y 38,Y 39,Y 40,Y 41,Y 42,Y 43,Y 44,Y 45,Y 46,Y 47,Y 48,Y 49,Y 50,Y 51,Y 52,Y 53,Y 54,Y 55,Y 56,Y 57,Y 58,Y 59,Y 60,Y 61,Y 62,Y 63,Y 64,Y 65,Y 66,Y 67,Y 68,Y 69,Y 70,Y 71,Y 72,Y 73,Y 74,Y 75,Y 76,Y 77,Y 78,Y 79,Y 80,Y 81,Y 82,Y 83,Y 84,Y 85,Y 86,Y 87,Y 88,Y 89,Y 90,Y 91,Y 92,Y 93,bT,bF,bF,pX qw20.heap.size 0,iJ 3,bF,bF,bF,iJ 5,bF,bF,bF,.slice (some ⟨gl4,0,none⟩) 1 cl4,iJ 1,bF,bF,bF,.slice (some ⟨gl4,0,none⟩) 1 cl4,pX gl4 0,pX gl4 7,.string uW,bF,bF,U,U,U,U,U,U,U,U,U,U,U,U,U,U,U,U,U,U,U,U,U,U,U,U,U,U,U,U,U,U,U,U,U,U,U,U,U,U,U,U,U,U,U,U,U,U,U,U,U,U,U,U,U,U,U,U,U,U,U,U,U,U,U,U,U,U,U,U,U,U,U,U,U,U,U,U]) (fun Y=>?_)
  clear qB67
  clear qB33
  clear qB42
  go_upto_region 13 with (fail)
  refine wp_region_low (fun x y=>x.heap.size≤y.heap.size) (fun i x v=>match i with
    | 0=>v=.int .u32 sk
    | 1=>v=.agg #[.int .u32 h,.int .i64 p]
    | 2=>v=.agg #[.int .u32 j,.int .i64 q]
    | 3=>v=.int .i64 e
    | 4=>v=.slice a len cap
    | 5=>v=.int .i64 X5
    | 6=>v=.int .i64 (X5 % 2)
    | 7=>v=.int .i64 (e+X5 % 2)
    | 8=>v=.slice (some ⟨gl4,0,none⟩) 1 cl4
    | 9=>v=.pointer (some ⟨gl4,0,none⟩)
    | 10=>v=.agg (sgCells (uP ia c))
    | 11=>v=.tuple #[.agg (cnCells (uB0 ia c)),.bool true]
    | 12=>v=.tuple #[.agg (cnCells (uB0 ia c)),.bool true]
    | 13=>v=.agg (cnCells (uB0 ia c))
    | 14=>v=.bool true
    | 17=>v=.bool true
    | _=>True) (fun f vals x=>Blk qw1.heap.size x #[uJ h,iJ p]∧Blk qw3.heap.size x #[uJ j,iJ q]∧Laid0 x∧Held shG x BP gl4 1 cl4 [uP ia c]∧qw65.heap.size≤x.heap.size∧Since w x∧(f 16=true→f 15=true)∧(f 15=true→∃ n,vals 15=pX n 0∧qw65.heap.size≤n∧Blk n x (if f 16 then (cnCells (uB0 ia c)) else (cnCells cnZero)))) (fun v=>{tmps:=#[.slice a len cap,U,Y 2,uJ sk,pX qw1.heap.size 0,pX qw3.heap.size 0,iJ e,Y 7,pX qw20.heap.size 0,pX qw22.heap.size 0,Y 10,pX qw35.heap.size 0,Y 12,Y 13,.slice (some ⟨gl4,0,none⟩) 1 cl4,v 15,v 17,U,U,U,U,U,U,U,Y 24,Y 25,Y 26,Y 27,Y 28,Y 29,Y 30,Y 31,Y 32,Y 33,Y 34,Y 35,Y 36,Y 37,Y 38,Y 39,Y 40,Y 41,Y 42,Y 43,Y 44,Y 45,Y 46,Y 47,Y 48,Y 49,Y 50,Y 51,Y 52,Y 53,Y 54,Y 55,Y 56,Y 57,Y 58,Y 59,Y 60,Y 61,Y 62,Y 63,Y 64,Y 65,Y 66,Y 67,Y 68,Y 69,Y 70,Y 71,Y 72,Y 73,Y 74,Y 75,Y 76,Y 77,Y 78,Y 79,Y 80,Y 81,Y 82,Y 83,Y 84,Y 85,Y 86,Y 87,Y 88,Y 89,Y 90,Y 91,Y 92,Y 93,bT,bF,bF,pX qw20.heap.size 0,iJ 3,bF,bF,bF,iJ 5,bF,bF,bF,.slice (some ⟨gl4,0,none⟩) 1 cl4,iJ 1,bF,bF,bF,.slice (some ⟨gl4,0,none⟩) 1 cl4,pX gl4 0,pX gl4 7,.string uW,bF,bF,v 12,v 0,v 1,v 2,v 3,v 4,v 5,v 6,v 7,v 8,v 9,v 10,v 11,v 13,v 14,U,U,U,U,U,U,U,U,U,U,U,U,U,U,U,U,U,U,U,U,U,U,U,U,U,U,U,U,U,U,U,U,U,U,U,U,U,U,U,U,U,U,U,U,U,U,U,U,U,U,U,U,U,U,U,U,U,U,U,U,U],defers:=[]}) (by kernel_rfl) (by kernel_rfl) ?_ ?_ (fun vals=>by kernel_rfl) ?_ ?_
  case refine_1=>
   intro j x y v hl hv
   match j,hv with
   | 0,hv|1,hv|2,hv|3,hv|4,hv|5,hv|6,hv|7,hv|8,hv|9,hv|10,hv|11,hv|12,hv|13,hv|14,hv|17,hv=>exact hv
   | 15,hv|16,hv=>trivial
   | n+18,_=>trivial
  case refine_2=>
   intro f vals hf
   refine ⟨qB11.since ((Since.refl _).drew),qB14.since ((Since.refl _).drew),E.since ((Since.refl _).drew),HP.since ((Since.refl _).drew),((Since.refl _).drew).size,G.trans ((Since.refl _).drew),(fun h=>by rw [hf] at h;cases h),(fun h=>by rw [hf] at h;cases h)⟩
  case refine_3=>
   repeat (first|exact eachLow_nil|refine eachLow_cons ?_ ?_)
   all_goals intro f vals x hf hr hK
   all_goals obtain ⟨k0,k1,k2,k3,k4,k5,k6,k7⟩:=hK
   ·skip
    have e14:vals 14=.bool true:=(hr ⟨14,.data⟩ (by simp) rfl).2
    exact does_valT (.bool true) x (by simp only [e14];kernel_rfl) ⟨Nat.le_refl _,⟨k0,k1,k2,k3,k4,k5,k6,k7⟩,rfl⟩
   ·have fa:f 15=true:=(hr ⟨15,.data⟩ (by simp) rfl).1
    have e13:vals 13=.agg (cnCells (uB0 ia c)):=(hr ⟨13,.data⟩ (by simp) rfl).2
    obtain ⟨n,en,ln,Bn⟩:=k7 fa
    rw [hf] at Bn
    refine does_store cn_big (cn_size _) (Raw.of Bn (cn_size _)) (cn_one _) _ _ rfl en e13 ?_
    intro z t B
    exact ⟨t.size,⟨k0.touch t (by omega),k1.touch t (by omega),k2.touch t (by omega),k3.touch t (by omega),Nat.le_trans k4 t.size,since_touch k5 t (by omega),fun _=>fa,fun _=>⟨n,en,ln,B⟩⟩,trivial⟩
   ·have h1:=(Since.refl x).alloc (.cells (cnCells cnZero) 39)
    have hq:f 16=false:=by
     cases e:f 16 with
     | false=>rfl
     | true=>rw [k6 e] at hf;cases hf
    exact does_valT (.pointer (some ⟨x.heap.size,0,none⟩)) (x.alloc (.cells (cnCells cnZero) 39)) (by kernel_rfl) ⟨h1.size,⟨k0.since h1,k1.since h1,k2.since h1,k3.since h1,Nat.le_trans k4 h1.size,k5.trans h1,fun _=>rfl,fun _=>⟨x.heap.size,rfl,k4,by rw [show andDone f 15 16=f 16 from rfl,hq];exact Blk.new x (cnCells cnZero) 39⟩⟩,trivial⟩
   ·skip
    have e12:vals 12=.tuple #[.agg (cnCells (uB0 ia c)),.bool true]:=(hr ⟨12,.data⟩ (by simp) rfl).2
    exact does_valT (.bool true) x (by simp only [e12];kernel_rfl) ⟨Nat.le_refl _,⟨k0,k1,k2,k3,k4,k5,k6,k7⟩,rfl⟩
   ·skip
    have e12:vals 12=.tuple #[.agg (cnCells (uB0 ia c)),.bool true]:=(hr ⟨12,.data⟩ (by simp) rfl).2
    exact does_valT (.agg (cnCells (uB0 ia c))) x (by simp only [e12];kernel_rfl) ⟨Nat.le_refl _,⟨k0,k1,k2,k3,k4,k5,k6,k7⟩,rfl⟩
   ·skip
    have e11:vals 11=.tuple #[.agg (cnCells (uB0 ia c)),.bool true]:=(hr ⟨11,.data⟩ (by simp) rfl).2
    exact does_valT (.tuple #[.agg (cnCells (uB0 ia c)),.bool true]) x (by simp only [e11];kernel_rfl) ⟨Nat.le_refl _,⟨k0,k1,k2,k3,k4,k5,k6,k7⟩,rfl⟩
   ·skip
    have e0:vals 0=.int .u32 sk:=(hr ⟨0,.data⟩ (by simp) rfl).2
    have e1:vals 1=.agg #[.int .u32 h,.int .i64 p]:=(hr ⟨1,.data⟩ (by simp) rfl).2
    have e2:vals 2=.agg #[.int .u32 j,.int .i64 q]:=(hr ⟨2,.data⟩ (by simp) rfl).2
    have e7:vals 7=.int .i64 (e+X5 % 2):=(hr ⟨7,.data⟩ (by simp) rfl).2
    have e10:vals 10=.agg (sgCells (uP ia c)):=(hr ⟨10,.data⟩ (by simp) rfl).2
    simp [does,doesUpon,go_sem,e0,e1,e2,e7,e10]
    refine (htk _ k2).mono ?_
    rintro _ x' ⟨rfl,h1⟩
    exact ⟨_,rfl,h1.size,⟨k0.since h1,k1.since h1,k2.since h1,k3.since h1,Nat.le_trans k4 h1.size,k5.trans h1,k6,fun h=>by obtain ⟨n,en,ln,Bn⟩:=k7 h;exact ⟨n,en,ln,Bn.since h1⟩⟩,rfl⟩
   ·skip
    have e9:vals 9=.pointer (some ⟨gl4,0,none⟩):=(hr ⟨9,.data⟩ (by simp) rfl).2
    exact held_load1 k3 _ rfl e9 ⟨Nat.le_refl _,⟨k0,k1,k2,k3,k4,k5,k6,k7⟩,rfl⟩
   ·skip
    have e8:vals 8=.slice (some ⟨gl4,0,none⟩) 1 cl4:=(hr ⟨8,.data⟩ (by simp) rfl).2
    exact does_valT (.pointer (some ⟨gl4,0,none⟩)) x (by simp only [e8];kernel_rfl) ⟨Nat.le_refl _,⟨k0,k1,k2,k3,k4,k5,k6,k7⟩,rfl⟩
   ·skip
    exact does_valT (.slice (some ⟨gl4,0,none⟩) 1 cl4) x (by kernel_rfl) ⟨Nat.le_refl _,⟨k0,k1,k2,k3,k4,k5,k6,k7⟩,rfl⟩
   ·skip
    have e3:vals 3=.int .i64 e:=(hr ⟨3,.data⟩ (by simp) rfl).2
    have e6:vals 6=.int .i64 (X5 % 2):=(hr ⟨6,.data⟩ (by simp) rfl).2
    exact does_valT (.int .i64 (e+X5 % 2)) x (by simp [execOp,go_sem,e3,e6,hwe]) ⟨Nat.le_refl _,⟨k0,k1,k2,k3,k4,k5,k6,k7⟩,rfl⟩
   ·skip
    have e5:vals 5=.int .i64 X5:=(hr ⟨5,.data⟩ (by simp) rfl).2
    exact does_valT (.int .i64 (X5 % 2)) x (by simp [execOp,go_sem,e5,htm]) ⟨Nat.le_refl _,⟨k0,k1,k2,k3,k4,k5,k6,k7⟩,rfl⟩
   ·skip
    have e4:vals 4=.slice a len cap:=(hr ⟨4,.data⟩ (by simp) rfl).2
    simp [does,doesUpon,go_sem,e4]
    refine (hat5 _ k5).mono ?_
    rintro _ x' ⟨rfl,h1⟩
    exact ⟨_,rfl,h1.size,⟨k0.since h1,k1.since h1,k2.since h1,k3.since h1,Nat.le_trans k4 h1.size,k5.trans h1,k6,fun h=>by obtain ⟨n,en,ln,Bn⟩:=k7 h;exact ⟨n,en,ln,Bn.since h1⟩⟩,rfl⟩
   ·skip
    exact does_valT (.slice a len cap) x (by kernel_rfl) ⟨Nat.le_refl _,⟨k0,k1,k2,k3,k4,k5,k6,k7⟩,rfl⟩
   ·skip
    exact does_valT (.int .i64 e) x (by kernel_rfl) ⟨Nat.le_refl _,⟨k0,k1,k2,k3,k4,k5,k6,k7⟩,rfl⟩
   ·exact does_load ad_big rfl k1 _ rfl rfl ⟨Nat.le_refl _,⟨k0,k1,k2,k3,k4,k5,k6,k7⟩,rfl⟩
   ·exact does_load ad_big rfl k0 _ rfl rfl ⟨Nat.le_refl _,⟨k0,k1,k2,k3,k4,k5,k6,k7⟩,rfl⟩
   ·skip
    exact does_valT (.int .u32 sk) x (by kernel_rfl) ⟨Nat.le_refl _,⟨k0,k1,k2,k3,k4,k5,k6,k7⟩,rfl⟩
  intro f qv73 qw72 hK hf hv
  obtain ⟨k0,k1,k2,k3,k4,k5,k6,k7⟩:=hK
  clear qB11 qB14 E HP G
  obtain ⟨qn71,hv15,qn71_l,qB74⟩:=k7 (hf 15 (by decide))
  rw [hf 16 (by decide)] at qB74
  replace qB74:Blk qn71 qw72 (cnCells (uB0 ia c)):=qB74
  clear k7 k6
  have hv0:qv73 0=_:=hv 0 (by decide)
  have hv1:qv73 1=_:=hv 1 (by decide)
  have hv2:qv73 2=_:=hv 2 (by decide)
  have hv3:qv73 3=_:=hv 3 (by decide)
  have hv4:qv73 4=_:=hv 4 (by decide)
  have hv5:qv73 5=_:=hv 5 (by decide)
  have hv6:qv73 6=_:=hv 6 (by decide)
  have hv7:qv73 7=_:=hv 7 (by decide)
  have hv8:qv73 8=_:=hv 8 (by decide)
  have hv9:qv73 9=_:=hv 9 (by decide)
  have hv10:qv73 10=_:=hv 10 (by decide)
  have hv11:qv73 11=_:=hv 11 (by decide)
  have hv12:qv73 12=_:=hv 12 (by decide)
  have hv13:qv73 13=_:=hv 13 (by decide)
  have hv14:qv73 14=_:=hv 14 (by decide)
  have hv17:qv73 17=_:=hv 17 (by decide)
  clear hv hf
  simp only [hv0,hv1,hv2,hv3,hv4,hv5,hv6,hv7,hv8,hv9,hv10,hv11,hv12,hv13,hv14,hv17,hv15]
  clear hv0 hv1 hv2 hv3 hv4 hv5 hv6 hv7 hv8 hv9 hv10 hv11 hv12 hv13 hv14 hv17 hv15
  have qB11:=k0
  clear k0
  have qB14:=k1
  clear k1
  have E:=k2
  clear k2
  have HP:=k3
  clear k3
  have G:=k5
  clear k5
  have qw72_l:=k4
  clear k4
  have qB74_l:=qB74.lt
  clear htk hat5 htm hwe hX5
  go_upto_region 14 with (fail)
  refine vR ?_
  refine vV (bT) ?_
  refine vV (bF) ?_
  refine vV (bF) ?_
  refine vV (pX qn71 0) ?_
  refine vD (iJ 3) ((qB74.cell 0).trans (by show some (iJ (uB0 ia c).st:Value)=some (iJ 3:Value);rw [stB])) ?_
  refine vV (bF) ?_
  refine vV (bF) ?_
  refine vV (bF) ?_
  refine vB cn_big qB74 (cn_size _) ?_
  refine vK (hokB _) ?_
  intro qw75 qg76
  replace qB11:=qB11.since qg76
  replace qB14:=qB14.since qg76
  replace qB74:=qB74.since qg76
  replace E:=E.since qg76
  replace HP:=HP.since qg76
  replace G:=G.trans qg76
  have qg76_s:=qg76.size
  refine vV (bF) ?_
  refine vV (bF) ?_
  refine vZ (fun Y=>#[.slice a len cap,U,Y 2,uJ sk,pX qw1.heap.size 0,pX qw3.heap.size 0,iJ e,Y 7,pX qw20.heap.size 0,pX qw22.heap.size 0,Y 10,pX qw35.heap.size 0,Y 12,Y 13,.slice (some ⟨gl4,0,none⟩) 1 cl4,pX qn71 0,Y 16,U,U,U,U,U,U,U,Y 24,Y 25,Y 26,Y 27,Y 28,Y 29,Y 30,Y 31,Y 32,Y 33,Y 34,Y 35,Y 36,Y 37,Y 38,Y 39,Y 40,Y 41,Y 42,Y 43,Y 44,Y 45,Y 46,Y 47,Y 48,Y 49,Y 50,Y 51,Y 52,Y 53,Y 54,Y 55,Y 56,Y 57,Y 58,Y 59,Y 60,Y 61,Y 62,Y 63,Y 64,Y 65,Y 66,Y 67,Y 68,Y 69,Y 70,Y 71,Y 72,Y 73,Y 74,Y 75,Y 76,Y 77,Y 78,Y 79,Y 80,Y 81,Y 82,Y 83,Y 84,Y 85,Y 86,Y 87,Y 88,Y 89,Y 90,Y 91,Y 92,Y 93,Y 94,Y 95,Y 96,Y 97,Y 98,Y 99,Y 100,Y 101,Y 102,Y 103,Y 104,Y 105,Y 106,Y 107,Y 108,Y 109,Y 110,Y 111,Y 112,Y 113,Y 114,Y 115,Y 116,Y 117,Y 118,Y 119,Y 120,Y 121,Y 122,Y 123,Y 124,Y 125,Y 126,Y 127,Y 128,Y 129,Y 130,Y 131,bT,bF,bF,pX qn71 0,iJ 3,bF,bF,bF,.agg (cnCells (uB0 ia c)),bT,bF,bF,U,U,U,U,U,U,U,U,U,U,U,U,U,U,U,U,U,U,U,U,U,U,U,U,U,U,U,U,U,U,U,U,U,U,U,U,U,U,U,U,U,U,U,U,U,U,U,U,U]) (fun Y=>?_)
  generalize (.agg (cnCells (uB0 ia c)):Value)=qz77
  clear hokB stB stU
  go_upto_region 16 with (fail)
  refine wp_region_low (fun x y=>x.heap.size≤y.heap.size) (fun i x v=>match i with
    | 0=>v=.agg (cnCells (uB0 ia c))
    | 1=>v=.slice (some ⟨gl4,0,none⟩) 1 cl4
    | 2=>v=.pointer (some ⟨gl4,0,none⟩)
    | 3=>v=.agg (sgCells (uP ia c))
    | 4=>∃ g cp gs cs,v=.tuple #[.agg (cnCells (at0 (uB1 ia c) g cp)),.slice (some ⟨gs,0,none⟩) 0 cs]
    | 5=>∃ g cp gs cs,v=.tuple #[.agg (cnCells (at0 (uB1 ia c) g cp)),.slice (some ⟨gs,0,none⟩) 0 cs]
    | 6=>∃ g cp,v=.agg (cnCells (at0 (uB1 ia c) g cp))
    | 7=>∃ gs cs,v=.slice (some ⟨gs,0,none⟩) 0 cs
    | _=>True) (fun f vals x=>(Blk qw1.heap.size x #[uJ h,iJ p])∧(Blk qw3.heap.size x #[uJ j,iJ q])∧(Laid0 x)∧(Held shG x BP gl4 1 cl4 [uP ia c])∧(qw75.heap.size≤x.heap.size)∧(Since w x)∧((f 8=true→f 0=true))∧(∃ D,Blk qn71 x (cnCells D)∧(f 8=false→D=(uB0 ia c))∧(f 8=true→∃ g cp,D=at0 (uB1 ia c) g cp))) (fun v=>{tmps:=#[.slice a len cap,U,Y 2,uJ sk,pX qw1.heap.size 0,pX qw3.heap.size 0,iJ e,Y 7,pX qw20.heap.size 0,pX qw22.heap.size 0,Y 10,pX qw35.heap.size 0,Y 12,Y 13,.slice (some ⟨gl4,0,none⟩) 1 cl4,pX qn71 0,Y 16,U,U,U,U,U,U,U,Y 24,Y 25,Y 26,Y 27,Y 28,Y 29,Y 30,Y 31,Y 32,Y 33,Y 34,Y 35,Y 36,Y 37,Y 38,Y 39,Y 40,Y 41,Y 42,Y 43,Y 44,Y 45,Y 46,Y 47,Y 48,Y 49,Y 50,Y 51,Y 52,Y 53,Y 54,Y 55,Y 56,Y 57,Y 58,Y 59,Y 60,Y 61,Y 62,Y 63,Y 64,Y 65,Y 66,Y 67,Y 68,Y 69,Y 70,Y 71,Y 72,Y 73,Y 74,Y 75,Y 76,Y 77,Y 78,Y 79,Y 80,Y 81,Y 82,Y 83,Y 84,Y 85,Y 86,Y 87,Y 88,Y 89,Y 90,Y 91,Y 92,Y 93,Y 94,Y 95,Y 96,Y 97,Y 98,Y 99,Y 100,Y 101,Y 102,Y 103,Y 104,Y 105,Y 106,Y 107,Y 108,Y 109,Y 110,Y 111,Y 112,Y 113,Y 114,Y 115,Y 116,Y 117,Y 118,Y 119,Y 120,Y 121,Y 122,Y 123,Y 124,Y 125,Y 126,Y 127,Y 128,Y 129,Y 130,Y 131,bT,bF,bF,pX qn71 0,iJ 3,bF,bF,bF,qz77,bT,bF,bF,v 5,v 0,v 1,v 2,v 3,v 4,v 6,v 7,U,U,U,U,U,U,U,U,U,U,U,U,U,U,U,U,U,U,U,U,U,U,U,U,U,U,U,U,U,U,U,U,U,U,U,U,U,U,U,U,U],defers:=[]}) (by kernel_rfl) (by kernel_rfl) ?_ ?_ (fun vals=>by kernel_rfl) ?_ ?_
  case refine_1=>
   intro j x y v hl hv
   match j,hv with
   | 0,hv|1,hv|2,hv|3,hv|4,hv|5,hv|6,hv|7,hv=>exact hv
   | 8,hv=>trivial
   | n+9,_=>trivial
  case refine_2=>
   intro f vals hf
   refine ⟨qB11.since ((Since.refl _).drew),qB14.since ((Since.refl _).drew),E.since ((Since.refl _).drew),HP.since ((Since.refl _).drew),((Since.refl _).drew).size,G.trans ((Since.refl _).drew),(fun h=>by rw [hf] at h;cases h),⟨_,qB74.since ((Since.refl _).drew),fun _=>rfl,fun h=>by rw [hf] at h;cases h⟩⟩
  case refine_3=>
   repeat (first|exact eachLow_nil|refine eachLow_cons ?_ ?_)
   all_goals intro f vals x hf hr hK
   all_goals obtain ⟨k0,k1,k2,k3,k4,k5,k6,k7⟩:=hK
   ·skip
    have f0:f 0=true:=(hr ⟨0,.phase⟩ (by simp) rfl).1
    obtain ⟨-,g,cp,ev⟩:=hr ⟨6,.data⟩ (by simp) rfl
    obtain ⟨D,BD,-,-⟩:=k7
    refine does_store cn_big (cn_size _) (Raw.of BD (cn_size _)) (cn_one _) _ _ rfl rfl ev ?_
    intro z t B
    exact ⟨t.size,⟨k0.touch t (by omega),k1.touch t (by omega),k2.touch t (by omega),k3.touch t (by omega),Nat.le_trans k4 t.size,since_touch k5 t (by omega),fun _=>f0,⟨_,B,fun h=>absurd (show true=false from h) (by decide),fun _=>⟨g,cp,rfl⟩⟩⟩,trivial⟩
   ·skip
    obtain ⟨-,g,cp,gs,cs,ev⟩:=hr ⟨5,.data⟩ (by simp) rfl
    exact does_valT (.slice (some ⟨gs,0,none⟩) 0 cs) x (by simp only [ev];kernel_rfl) ⟨Nat.le_refl _,⟨k0,k1,k2,k3,k4,k5,k6,k7⟩,gs,cs,rfl⟩
   ·skip
    obtain ⟨-,g,cp,gs,cs,ev⟩:=hr ⟨5,.data⟩ (by simp) rfl
    exact does_valT (.agg (cnCells (at0 (uB1 ia c) g cp))) x (by simp only [ev];kernel_rfl) ⟨Nat.le_refl _,⟨k0,k1,k2,k3,k4,k5,k6,k7⟩,g,cp,rfl⟩
   ·skip
    obtain ⟨-,g,cp,gs,cs,ev⟩:=hr ⟨4,.data⟩ (by simp) rfl
    exact does_valT (.tuple #[.agg (cnCells (at0 (uB1 ia c) g cp)),.slice (some ⟨gs,0,none⟩) 0 cs]) x (by simp only [ev];kernel_rfl) ⟨Nat.le_refl _,⟨k0,k1,k2,k3,k4,k5,k6,k7⟩,g,cp,gs,cs,rfl⟩
   ·skip
    have e0:vals 0=.agg (cnCells (uB0 ia c)):=(hr ⟨0,.data⟩ (by simp) rfl).2
    have e3:vals 3=.agg (sgCells (uP ia c)):=(hr ⟨3,.data⟩ (by simp) rfl).2
    simp [does,doesUpon,go_sem,e0,e3]
    refine (came0 (uB0 ia c) (uB1 ia c) (uP ia c) 5 (came_UP ia c hi hcw) (good_V0 ia c hi hcw) rfl (word1 ia) (word1 c) (by unfold IsInt uP;simp) (by show uW.size≤1048576;rw [uW_size];omega) _ k2).mono ?_
    rintro _ x' ⟨g,cp,gs,cs,rfl,h1⟩
    exact ⟨_,rfl,h1.size,⟨k0.since h1,k1.since h1,k2.since h1,k3.since h1,Nat.le_trans k4 h1.size,k5.trans h1,k6,(by obtain ⟨D,BD,a0,a1⟩:=k7;exact ⟨D,BD.since h1,a0,a1⟩)⟩,g,cp,gs,cs,rfl⟩
   ·skip
    have e2:vals 2=.pointer (some ⟨gl4,0,none⟩):=(hr ⟨2,.data⟩ (by simp) rfl).2
    exact held_load1 k3 _ rfl e2 ⟨Nat.le_refl _,⟨k0,k1,k2,k3,k4,k5,k6,k7⟩,rfl⟩
   ·skip
    have e1:vals 1=.slice (some ⟨gl4,0,none⟩) 1 cl4:=(hr ⟨1,.data⟩ (by simp) rfl).2
    exact does_valT (.pointer (some ⟨gl4,0,none⟩)) x (by simp only [e1];kernel_rfl) ⟨Nat.le_refl _,⟨k0,k1,k2,k3,k4,k5,k6,k7⟩,rfl⟩
   ·skip
    exact does_valT (.slice (some ⟨gl4,0,none⟩) 1 cl4) x (by kernel_rfl) ⟨Nat.le_refl _,⟨k0,k1,k2,k3,k4,k5,k6,k7⟩,rfl⟩
   ·skip
    obtain ⟨D,BD,hD0,hD1⟩:=k7
    have hfs:f 8=false:=by
     cases e:f 8 with
     | false=>rfl
     | true=>exact absurd (k6 e) (by rw [hf];decide)
    obtain rfl:=hD0 hfs
    exact does_load cn_big (cn_size _) BD _ rfl rfl ⟨Nat.le_refl _,⟨k0,k1,k2,k3,k4,k5,fun _=>rfl,⟨_,BD,hD0,hD1⟩⟩,rfl⟩
  intro f qv79 qw78 hK hf hv
  obtain ⟨k0,k1,k2,k3,k4,k5,k6,k7⟩:=hK
  obtain ⟨D,qB80,-,hD⟩:=k7
  obtain ⟨qg81,qc82,rfl⟩:=hD (hf 8 (by decide))
  clear qB11 qB14 E HP G qB74 hD k6
  have hv0:qv79 0=_:=hv 0 (by decide)
  have hv1:qv79 1=_:=hv 1 (by decide)
  have hv2:qv79 2=_:=hv 2 (by decide)
  have hv3:qv79 3=_:=hv 3 (by decide)
  obtain ⟨qy85,qy86,qy87,qy88,hv4⟩:=hv 4 (by decide)
  obtain ⟨qy89,qy90,qy91,qy92,hv5⟩:=hv 5 (by decide)
  obtain ⟨qy93,qy94,hv6⟩:=hv 6 (by decide)
  obtain ⟨qy95,qy96,hv7⟩:=hv 7 (by decide)
  clear hv hf
  simp only [hv0,hv1,hv2,hv3,hv4,hv5,hv6,hv7]
  clear hv0 hv1 hv2 hv3 hv4 hv5 hv6 hv7
  have qB11:=k0
  clear k0
  have qB14:=k1
  clear k1
  have E:=k2
  clear k2
  have HP:=k3
  clear k3
  have G:=k5
  have qw78_l:=k4
  clear k5 k4
  have qB80_l:=qB80.lt
  go_upto_region 17 with (fail)
  refine vR ?_
  refine vB cn_big qB80 (cn_size _) ?_
  refine vC (read0 (uB1 ia c) 100 (by unfold IsInt;omega) uW (read_U ia c) (good_V1 ia c hi hcw) rfl qg81 qc82 _) ?_
  rintro _ qw97 ⟨Z,rfl,qg98⟩
  refine ⟨_,rfl,?_⟩
  replace qB11:=qB11.since qg98
  replace qB14:=qB14.since qg98
  replace qB80:=qB80.since qg98
  replace E:=E.since qg98
  replace HP:=HP.since qg98
  replace G:=G.trans qg98
  have qg98_s:=qg98.size
  refine vV (.tuple #[.agg (cnCells Z),.string uW]) ?_
  refine vV (.agg (cnCells Z)) ?_
  refine vV (.string uW) ?_
  refine vW (qw97.alloc (.cells (cnCells cnZero) 39)) (pX qw97.heap.size 0) ?_
  have qB100:=Blk.new qw97 (cnCells cnZero) 39
  have qg101:=(Since.refl qw97).alloc (.cells (cnCells cnZero) 39)
  replace qB11:=qB11.since qg101
  replace qB14:=qB14.since qg101
  replace qB80:=qB80.since qg101
  replace E:=E.since qg101
  replace HP:=HP.since qg101
  replace G:=G.trans qg101
  generalize qw97.alloc (.cells (cnCells cnZero) 39)=qw99 at qB11 qB14 qB80 E HP G qB100 qg101 ⊢
  have qB100_l:=qB100.lt
  have qg101_s:=qg101.size
  refine sB (cnCells Z) cn_big qB100 (cn_size _) (cn_size _) (cn_one _) ?_
  intro qw102 qt103 qB104
  clear qB100
  replace qB11:=qB11.touch qt103 (by omega)
  replace qB14:=qB14.touch qt103 (by omega)
  replace qB80:=qB80.touch qt103 (by omega)
  replace E:=E.touch qt103 (by omega)
  replace HP:=HP.touch qt103 (by omega)
  replace G:=since_touch G qt103 (by omega)
  have qt103_s:=qt103.size
  refine vV (.string uW) ?_
  refine vZ (fun Y=>#[.slice a len cap,U,Y 2,uJ sk,pX qw1.heap.size 0,pX qw3.heap.size 0,iJ e,Y 7,pX qw20.heap.size 0,pX qw22.heap.size 0,Y 10,pX qw35.heap.size 0,Y 12,Y 13,.slice (some ⟨gl4,0,none⟩) 1 cl4,pX qn71 0,Y 16,pX qw97.heap.size 0,.string uW,U,U,U,U,U,Y 24,Y 25,Y 26,Y 27,Y 28,Y 29,Y 30,Y 31,Y 32,Y 33,Y 34,Y 35,Y 36,Y 37,Y 38,Y 39,Y 40,Y 41,Y 42,Y 43,Y 44,Y 45,Y 46,Y 47,Y 48,Y 49,Y 50,Y 51,Y 52,Y 53,Y 54,Y 55,Y 56,Y 57,Y 58,Y 59,Y 60,Y 61,Y 62,Y 63,Y 64,Y 65,Y 66,Y 67,Y 68,Y 69,Y 70,Y 71,Y 72,Y 73,Y 74,Y 75,Y 76,Y 77,Y 78,Y 79,Y 80,Y 81,Y 82,Y 83,Y 84,Y 85,Y 86,Y 87,Y 88,Y 89,Y 90,Y 91,Y 92,Y 93,Y 94,Y 95,Y 96,Y 97,Y 98,Y 99,Y 100,Y 101,Y 102,Y 103,Y 104,Y 105,Y 106,Y 107,Y 108,Y 109,Y 110,Y 111,Y 112,Y 113,Y 114,Y 115,Y 116,Y 117,Y 118,Y 119,Y 120,Y 121,Y 122,Y 123,Y 124,Y 125,Y 126,Y 127,Y 128,Y 129,Y 130,Y 131,Y 132,Y 133,Y 134,Y 135,Y 136,Y 137,Y 138,Y 139,Y 140,Y 141,Y 142,Y 143,Y 144,Y 145,Y 146,Y 147,Y 148,Y 149,Y 150,Y 151,.tuple #[.agg (cnCells Z),.string uW],.agg (cnCells (at0 (uB1 ia c) qg81 qc82)),.tuple #[.agg (cnCells Z),.string uW],.agg (cnCells Z),.string uW,U,U,U,U,U,U,U,U,U,U,U,U,U,U,U,U,U,U,U,U,U,U,U,U,U,U,U,U,U,U,U,U,U,U,U,U]) (fun Y=>?_)
  generalize (.tuple #[.agg (cnCells Z),.string uW]:Value)=qz105
  generalize (.agg (cnCells (at0 (uB1 ia c) qg81 qc82)):Value)=qz106
  go_upto_region 18 with (fail)
  refine vR ?_
  refine vV (.slice (some ⟨gl4,0,none⟩) 1 cl4) ?_
  refine vV (pX gl4 0) ?_
  refine vH HP ?_
  refine vW (qw102.alloc (.cells (sgCells sgZero) 41)) (pX qw102.heap.size 0) ?_
  have qB108:=Blk.new qw102 (sgCells sgZero) 41
  have qg109:=(Since.refl qw102).alloc (.cells (sgCells sgZero) 41)
  replace qB11:=qB11.since qg109
  replace qB14:=qB14.since qg109
  replace qB80:=qB80.since qg109
  replace qB104:=qB104.since qg109
  replace E:=E.since qg109
  replace HP:=HP.since qg109
  replace G:=G.trans qg109
  generalize qw102.alloc (.cells (sgCells sgZero) 41)=qw107 at qB11 qB14 qB80 qB104 E HP G qB108 qg109 ⊢
  have qB108_l:=qB108.lt
  have qg109_s:=qg109.size
  refine sB (sgCells ⟨0,0,(ia+1) % 4294967296,(c+1) % 4294967296,24,400,0,uW⟩) seg_big qB108 rfl rfl (seg_one _ _ _ _ _ _ _ _) ?_
  intro qw110 qt111 qB112
  clear qB108
  replace qB11:=qB11.touch qt111 (by omega)
  replace qB14:=qB14.touch qt111 (by omega)
  replace qB80:=qB80.touch qt111 (by omega)
  replace qB104:=qB104.touch qt111 (by omega)
  replace E:=E.touch qt111 (by omega)
  replace HP:=HP.touch qt111 (by omega)
  replace G:=since_touch G qt111 (by omega)
  have qt111_s:=qt111.size
  refine vZ (fun Y=>#[.slice a len cap,U,Y 2,uJ sk,pX qw1.heap.size 0,pX qw3.heap.size 0,iJ e,Y 7,pX qw20.heap.size 0,pX qw22.heap.size 0,Y 10,pX qw35.heap.size 0,Y 12,Y 13,Y 14,pX qn71 0,Y 16,pX qw97.heap.size 0,.string uW,pX qw102.heap.size 0,U,U,U,U,Y 24,Y 25,Y 26,Y 27,Y 28,Y 29,Y 30,Y 31,Y 32,Y 33,Y 34,Y 35,Y 36,Y 37,Y 38,Y 39,Y 40,Y 41,Y 42,Y 43,Y 44,Y 45,Y 46,Y 47,Y 48,Y 49,Y 50,Y 51,Y 52,Y 53,Y 54,Y 55,Y 56,Y 57,Y 58,Y 59,Y 60,Y 61,Y 62,Y 63,Y 64,Y 65,Y 66,Y 67,Y 68,Y 69,Y 70,Y 71,Y 72,Y 73,Y 74,Y 75,Y 76,Y 77,Y 78,Y 79,Y 80,Y 81,Y 82,Y 83,Y 84,Y 85,Y 86,Y 87,Y 88,Y 89,Y 90,Y 91,Y 92,Y 93,Y 94,Y 95,Y 96,Y 97,Y 98,Y 99,Y 100,Y 101,Y 102,Y 103,Y 104,Y 105,Y 106,Y 107,Y 108,Y 109,Y 110,Y 111,Y 112,Y 113,Y 114,Y 115,Y 116,Y 117,Y 118,Y 119,Y 120,Y 121,Y 122,Y 123,Y 124,Y 125,Y 126,Y 127,Y 128,Y 129,Y 130,Y 131,Y 132,Y 133,Y 134,Y 135,Y 136,Y 137,Y 138,Y 139,Y 140,Y 141,Y 142,Y 143,Y 144,Y 145,Y 146,Y 147,Y 148,Y 149,Y 150,Y 151,Y 152,Y 153,Y 154,Y 155,Y 156,.slice (some ⟨gl4,0,none⟩) 1 cl4,pX gl4 0,.agg (sgCells ⟨0,0,(ia+1) % 4294967296,(c+1) % 4294967296,24,400,0,uW⟩),U,U,U,U,U,U,U,U,U,U,U,U,U,U,U,U,U,U,U,U,U,U,U,U,U,U,U,U,U,U,U,U,U]) (fun Y=>?_)
  generalize (.agg (sgCells ⟨0,0,(ia+1) % 4294967296,(c+1) % 4294967296,24,400,0,uW⟩):Value)=qz113
  clear qB80
  clear qB104
  clear HP
  go_upto_region 19 with (fail)
  refine wp_region_tail (wb:=qw110) 8 (fun i x v=>match i with
    | 0=>v=.pointer (some ⟨qw102.heap.size,3,none⟩)
    | 1=>v=.int .u32 ((c+1) % 4294967296)
    | 2=>v=.int .u32 (((c+1) % 4294967296+1) % 4294967296)
    | 3=>v=.slice a len cap
    | 4=>v=.int .i64 X6
    | 5=>v=.int .u32 (X6 % 4294967296)
    | 6=>v=.int .u32 ((((c+1) % 4294967296+1) % 4294967296+X6 % 4294967296) % 4294967296)
    | 7=>v=.pointer (some ⟨qw102.heap.size,3,none⟩)
    | _=>True) (fun v=>{tmps:=#[.slice a len cap,U,Y 2,uJ sk,pX qw1.heap.size 0,pX qw3.heap.size 0,iJ e,Y 7,pX qw20.heap.size 0,pX qw22.heap.size 0,Y 10,pX qw35.heap.size 0,Y 12,Y 13,Y 14,pX qn71 0,Y 16,pX qw97.heap.size 0,.string uW,pX qw102.heap.size 0,U,U,U,U,Y 24,Y 25,Y 26,Y 27,Y 28,Y 29,Y 30,Y 31,Y 32,Y 33,Y 34,Y 35,Y 36,Y 37,Y 38,Y 39,Y 40,Y 41,Y 42,Y 43,Y 44,Y 45,Y 46,Y 47,Y 48,Y 49,Y 50,Y 51,Y 52,Y 53,Y 54,Y 55,Y 56,Y 57,Y 58,Y 59,Y 60,Y 61,Y 62,Y 63,Y 64,Y 65,Y 66,Y 67,Y 68,Y 69,Y 70,Y 71,Y 72,Y 73,Y 74,Y 75,Y 76,Y 77,Y 78,Y 79,Y 80,Y 81,Y 82,Y 83,Y 84,Y 85,Y 86,Y 87,Y 88,Y 89,Y 90,Y 91,Y 92,Y 93,Y 94,Y 95,Y 96,Y 97,Y 98,Y 99,Y 100,Y 101,Y 102,Y 103,Y 104,Y 105,Y 106,Y 107,Y 108,Y 109,Y 110,Y 111,Y 112,Y 113,Y 114,Y 115,Y 116,Y 117,Y 118,Y 119,Y 120,Y 121,Y 122,Y 123,Y 124,Y 125,Y 126,Y 127,Y 128,Y 129,Y 130,Y 131,Y 132,Y 133,Y 134,Y 135,Y 136,Y 137,Y 138,Y 139,Y 140,Y 141,Y 142,Y 143,Y 144,Y 145,Y 146,Y 147,Y 148,Y 149,Y 150,Y 151,Y 152,Y 153,Y 154,Y 155,Y 156,.slice (some ⟨gl4,0,none⟩) 1 cl4,pX gl4 0,qz113,v 0,v 1,v 2,v 3,v 4,v 5,v 6,v 7,U,U,U,U,U,U,U,U,U,U,U,U,U,U,U,U,U,U,U,U,U,U,U,U,U],defers:=[]}) (by kernel_rfl) (by kernel_rfl) (by kernel_rfl) (Since.refl _) ?_ (fun vals=>by kernel_rfl) ?_ ?_
  case refine_1=>
   intro j x x' v h1 h2
   match j,h2 with
   | 0,h2|1,h2|2,h2|3,h2|4,h2|5,h2|6,h2|7,h2=>exact h2
   | n+8,_=>trivial
  case refine_2=>
   repeat (first|exact eachDoes_nil|refine eachDoes_cons ?_ ?_)
   all_goals intro vals x hx hv
   all_goals simp [Region.binds] at hv
   ·simp [does,doesUpon,go_sem,Since.refl]
   ·simp [does,doesUpon,go_sem,hv,Since.refl]
    show ((c+1+1) % 4294967296+X6 % 4294967296) % 4294967296=(c+1+1+X6) % 4294967296
    omega
   ·simp [does,doesUpon,go_sem,hv,Since.refl]<;>rfl
   ·simp [does,doesUpon,go_sem,hv]
    refine (hat6 _ (G.trans hx)).mono ?_
    rintro _ x' ⟨rfl,h1⟩
    simp [h1]
   ·simp [does,doesUpon,go_sem,Since.refl]
   ·simp [does,doesUpon,go_sem,hv,Since.refl]
    show ((c+1) % 4294967296+1) % 4294967296=(c+1+1) % 4294967296
    omega
   ·have fl0:x.cell? ⟨qw102.heap.size,3,none⟩=some (.int .u32 ((c+1) % 4294967296)):=(qB112.since hx).cell 3
    simp [does,doesUpon,go_sem,hv,fl0,Since.refl]
   ·simp [does,doesUpon,go_sem,Since.refl]
  case refine_3=>
   intro qv116 qw114 qh115 hv
   have hv0:qv116 0=_:=hv 0 (by decide)
   have hv1:qv116 1=_:=hv 1 (by decide)
   have hv2:qv116 2=_:=hv 2 (by decide)
   have hv3:qv116 3=_:=hv 3 (by decide)
   have hv4:qv116 4=_:=hv 4 (by decide)
   have hv5:qv116 5=_:=hv 5 (by decide)
   have hv6:qv116 6=_:=hv 6 (by decide)
   have hv7:qv116 7=_:=hv 7 (by decide)
   clear hv
   simp only [hv0,hv1,hv2,hv3,hv4,hv5,hv6,hv7,List.drop]
   clear hv0 hv1 hv2 hv3 hv4 hv5 hv6 hv7
   replace qB11:=qB11.since qh115
   replace qB14:=qB14.since qh115
   replace qB112:=qB112.since qh115
   replace E:=E.since qh115
   replace G:=G.trans qh115
   have qh115_s:=qh115.size
   refine VL.out ?_
   refine sC (sgCells ⟨0,0,(ia+1) % 4294967296,((((c+1) % 4294967296+1) % 4294967296+X6 % 4294967296) % 4294967296),24,400,0,uW⟩) qB112 3 (.int .u32 ((((c+1) % 4294967296+1) % 4294967296+X6 % 4294967296) % 4294967296)) rfl ?_
   intro qw117 qt118 qB119
   clear qB112
   replace qB11:=qB11.touch qt118 (by omega)
   replace qB14:=qB14.touch qt118 (by omega)
   replace E:=E.touch qt118 (by omega)
   replace G:=since_touch G qt118 (by omega)
   have qt118_s:=qt118.size
   refine vZ (fun Y=>#[Y 0,U,Y 2,uJ sk,pX qw1.heap.size 0,pX qw3.heap.size 0,iJ e,Y 7,pX qw20.heap.size 0,pX qw22.heap.size 0,Y 10,pX qw35.heap.size 0,Y 12,Y 13,Y 14,pX qn71 0,Y 16,pX qw97.heap.size 0,.string uW,pX qw102.heap.size 0,U,U,U,U,Y 24,Y 25,Y 26,Y 27,Y 28,Y 29,Y 30,Y 31,Y 32,Y 33,Y 34,Y 35,Y 36,Y 37,Y 38,Y 39,Y 40,Y 41,Y 42,Y 43,Y 44,Y 45,Y 46,Y 47,Y 48,Y 49,Y 50,Y 51,Y 52,Y 53,Y 54,Y 55,Y 56,Y 57,Y 58,Y 59,Y 60,Y 61,Y 62,Y 63,Y 64,Y 65,Y 66,Y 67,Y 68,Y 69,Y 70,Y 71,Y 72,Y 73,Y 74,Y 75,Y 76,Y 77,Y 78,Y 79,Y 80,Y 81,Y 82,Y 83,Y 84,Y 85,Y 86,Y 87,Y 88,Y 89,Y 90,Y 91,Y 92,Y 93,Y 94,Y 95,Y 96,Y 97,Y 98,Y 99,Y 100,Y 101,Y 102,Y 103,Y 104,Y 105,Y 106,Y 107,Y 108,Y 109,Y 110,Y 111,Y 112,Y 113,Y 114,Y 115,Y 116,Y 117,Y 118,Y 119,Y 120,Y 121,Y 122,Y 123,Y 124,Y 125,Y 126,Y 127,Y 128,Y 129,Y 130,Y 131,Y 132,Y 133,Y 134,Y 135,Y 136,Y 137,Y 138,Y 139,Y 140,Y 141,Y 142,Y 143,Y 144,Y 145,Y 146,Y 147,Y 148,Y 149,Y 150,Y 151,Y 152,Y 153,Y 154,Y 155,Y 156,Y 157,Y 158,Y 159,pX qw102.heap.size 3,uJ ((c+1) % 4294967296),uJ (((c+1) % 4294967296+1) % 4294967296),.slice a len cap,iJ X6,uJ (X6 % 4294967296),uJ ((((c+1) % 4294967296+1) % 4294967296+X6 % 4294967296) % 4294967296),pX qw102.heap.size 3,U,U,U,U,U,U,U,U,U,U,U,U,U,U,U,U,U,U,U,U,U,U,U,U,U]) (fun Y=>?_)
   obtain ⟨ZT,zb,hZT⟩:=tak_form sk h p j q e ⟨0,0,(ia+1) % 4294967296,((((c+1) % 4294967296+1) % 4294967296+X6 % 4294967296) % 4294967296),24,400,0,uW⟩ 400 5
   have hti:=fun wx L=>implTake15 sk h p j q e ⟨0,0,(ia+1) % 4294967296,((((c+1) % 4294967296+1) % 4294967296+X6 % 4294967296) % 4294967296),24,400,0,uW⟩ 400 5 (by unfold IsInt;simp) wx L
   have hts:=fun wx=>specTake sk h p j q e ⟨0,0,(ia+1) % 4294967296,((((c+1) % 4294967296+1) % 4294967296+X6 % 4294967296) % 4294967296),24,400,0,uW⟩ 400 5 (by unfold IsInt;simp) wx
   rw [hZT] at hti hts
   clear hZT
   go_upto_region 20 with (fail)
   refine vR ?_
   refine vV (uJ sk) ?_
   refine vB ad_big qB11 rfl ?_
   refine vB ad_big qB14 rfl ?_
   refine vV (iJ e) ?_
   refine vB seg_big qB119 rfl ?_
   refine vK (hti _ E) ?_
   intro qw120 qg121
   replace qB11:=qB11.since qg121
   replace qB14:=qB14.since qg121
   replace qB119:=qB119.since qg121
   replace E:=E.since qg121
   replace G:=G.trans qg121
   have qg121_s:=qg121.size
   refine vV (.tuple #[.agg (cnCells ZT),.bool zb]) ?_
   refine vV (.agg (cnCells ZT)) ?_
   refine vV (.bool zb) ?_
   refine vW (qw120.alloc (.cells (cnCells cnZero) 39)) (pX qw120.heap.size 0) ?_
   have qB123:=Blk.new qw120 (cnCells cnZero) 39
   have qg124:=(Since.refl qw120).alloc (.cells (cnCells cnZero) 39)
   replace qB11:=qB11.since qg124
   replace qB14:=qB14.since qg124
   replace qB119:=qB119.since qg124
   replace E:=E.since qg124
   replace G:=G.trans qg124
   generalize qw120.alloc (.cells (cnCells cnZero) 39)=qw122 at qB11 qB14 qB119 E G qB123 qg124 ⊢
   have qB123_l:=qB123.lt
   have qg124_s:=qg124.size
   refine sB (cnCells ZT) cn_big qB123 (cn_size _) (cn_size _) (cn_one _) ?_
   intro qw125 qt126 qB127
   clear qB123
   replace qB11:=qB11.touch qt126 (by omega)
   replace qB14:=qB14.touch qt126 (by omega)
   replace qB119:=qB119.touch qt126 (by omega)
   replace E:=E.touch qt126 (by omega)
   replace G:=since_touch G qt126 (by omega)
   have qt126_s:=qt126.size
   refine vV (.bool zb) ?_
   refine vZ (fun Y=>#[Y 0,U,Y 2,uJ sk,pX qw1.heap.size 0,pX qw3.heap.size 0,iJ e,Y 7,pX qw20.heap.size 0,pX qw22.heap.size 0,Y 10,pX qw35.heap.size 0,Y 12,Y 13,Y 14,pX qn71 0,Y 16,pX qw97.heap.size 0,.string uW,pX qw102.heap.size 0,pX qw120.heap.size 0,.bool zb,U,U,Y 24,Y 25,Y 26,Y 27,Y 28,Y 29,Y 30,Y 31,Y 32,Y 33,Y 34,Y 35,Y 36,Y 37,Y 38,Y 39,Y 40,Y 41,Y 42,Y 43,Y 44,Y 45,Y 46,Y 47,Y 48,Y 49,Y 50,Y 51,Y 52,Y 53,Y 54,Y 55,Y 56,Y 57,Y 58,Y 59,Y 60,Y 61,Y 62,Y 63,Y 64,Y 65,Y 66,Y 67,Y 68,Y 69,Y 70,Y 71,Y 72,Y 73,Y 74,Y 75,Y 76,Y 77,Y 78,Y 79,Y 80,Y 81,Y 82,Y 83,Y 84,Y 85,Y 86,Y 87,Y 88,Y 89,Y 90,Y 91,Y 92,Y 93,Y 94,Y 95,Y 96,Y 97,Y 98,Y 99,Y 100,Y 101,Y 102,Y 103,Y 104,Y 105,Y 106,Y 107,Y 108,Y 109,Y 110,Y 111,Y 112,Y 113,Y 114,Y 115,Y 116,Y 117,Y 118,Y 119,Y 120,Y 121,Y 122,Y 123,Y 124,Y 125,Y 126,Y 127,Y 128,Y 129,Y 130,Y 131,Y 132,Y 133,Y 134,Y 135,Y 136,Y 137,Y 138,Y 139,Y 140,Y 141,Y 142,Y 143,Y 144,Y 145,Y 146,Y 147,Y 148,Y 149,Y 150,Y 151,Y 152,Y 153,Y 154,Y 155,Y 156,Y 157,Y 158,Y 159,Y 160,Y 161,Y 162,Y 163,Y 164,Y 165,Y 166,Y 167,.tuple #[.agg (cnCells ZT),.bool zb],uJ sk,.agg #[uJ h,iJ p],.agg #[uJ j,iJ q],iJ e,.agg (sgCells ⟨0,0,(ia+1) % 4294967296,((((c+1) % 4294967296+1) % 4294967296+X6 % 4294967296) % 4294967296),24,400,0,uW⟩),.tuple #[.agg (cnCells ZT),.bool zb],.agg (cnCells ZT),.bool zb,U,U,U,U,U,U,U,U,U,U,U,U,U,U,U,U]) (fun Y=>?_)
   generalize (.tuple #[.agg (cnCells ZT),.bool zb]:Value)=qz128
   generalize (.agg #[.int .u32 h,.int .i64 p]:Value)=qz129
   generalize (.agg #[.int .u32 j,.int .i64 q]:Value)=qz130
   generalize (.agg (sgCells ⟨0,0,(ia+1) % 4294967296,((((c+1) % 4294967296+1) % 4294967296+X6 % 4294967296) % 4294967296),24,400,0,uW⟩):Value)=qz131
   go_upto_region 21 with (fail)
   refine vR ?_
   refine vV (uJ sk) ?_
   refine vB ad_big qB11 rfl ?_
   refine vB ad_big qB14 rfl ?_
   refine vV (iJ e) ?_
   refine vB seg_big qB119 rfl ?_
   refine vK (hts _) ?_
   intro qw132 qg133
   replace qB11:=qB11.since qg133
   replace qB14:=qB14.since qg133
   replace qB119:=qB119.since qg133
   replace qB127:=qB127.since qg133
   replace E:=E.since qg133
   replace G:=G.trans qg133
   have qg133_s:=qg133.size
   refine vV (.tuple #[.agg (cnCells ZT),.bool zb]) ?_
   refine vV (.agg (cnCells ZT)) ?_
   refine vV (.bool zb) ?_
   refine vW (qw132.alloc (.cells (cnCells cnZero) 39)) (pX qw132.heap.size 0) ?_
   have qB135:=Blk.new qw132 (cnCells cnZero) 39
   have qg136:=(Since.refl qw132).alloc (.cells (cnCells cnZero) 39)
   replace qB11:=qB11.since qg136
   replace qB14:=qB14.since qg136
   replace qB119:=qB119.since qg136
   replace qB127:=qB127.since qg136
   replace E:=E.since qg136
   replace G:=G.trans qg136
   generalize qw132.alloc (.cells (cnCells cnZero) 39)=qw134 at qB11 qB14 qB119 qB127 E G qB135 qg136 ⊢
   have qB135_l:=qB135.lt
   have qg136_s:=qg136.size
   refine sB (cnCells ZT) cn_big qB135 (cn_size _) (cn_size _) (cn_one _) ?_
   intro qw137 qt138 qB139
   clear qB135
   replace qB11:=qB11.touch qt138 (by omega)
   replace qB14:=qB14.touch qt138 (by omega)
   replace qB119:=qB119.touch qt138 (by omega)
   replace qB127:=qB127.touch qt138 (by omega)
   replace E:=E.touch qt138 (by omega)
   replace G:=since_touch G qt138 (by omega)
   have qt138_s:=qt138.size
   refine vV (.bool zb) ?_
   refine vZ (fun Y=>#[Y 0,U,Y 2,Y 3,pX qw1.heap.size 0,pX qw3.heap.size 0,Y 6,Y 7,pX qw20.heap.size 0,pX qw22.heap.size 0,Y 10,pX qw35.heap.size 0,Y 12,Y 13,Y 14,pX qn71 0,Y 16,pX qw97.heap.size 0,.string uW,pX qw102.heap.size 0,Y 20,.bool zb,pX qw132.heap.size 0,.bool zb,Y 24,Y 25,Y 26,Y 27,Y 28,Y 29,Y 30,Y 31,Y 32,Y 33,Y 34,Y 35,Y 36,Y 37,Y 38,Y 39,Y 40,Y 41,Y 42,Y 43,Y 44,Y 45,Y 46,Y 47,Y 48,Y 49,Y 50,Y 51,Y 52,Y 53,Y 54,Y 55,Y 56,Y 57,Y 58,Y 59,Y 60,Y 61,Y 62,Y 63,Y 64,Y 65,Y 66,Y 67,Y 68,Y 69,Y 70,Y 71,Y 72,Y 73,Y 74,Y 75,Y 76,Y 77,Y 78,Y 79,Y 80,Y 81,Y 82,Y 83,Y 84,Y 85,Y 86,Y 87,Y 88,Y 89,Y 90,Y 91,Y 92,Y 93,Y 94,Y 95,Y 96,Y 97,Y 98,Y 99,Y 100,Y 101,Y 102,Y 103,Y 104,Y 105,Y 106,Y 107,Y 108,Y 109,Y 110,Y 111,Y 112,Y 113,Y 114,Y 115,Y 116,Y 117,Y 118,Y 119,Y 120,Y 121,Y 122,Y 123,Y 124,Y 125,Y 126,Y 127,Y 128,Y 129,Y 130,Y 131,Y 132,Y 133,Y 134,Y 135,Y 136,Y 137,Y 138,Y 139,Y 140,Y 141,Y 142,Y 143,Y 144,Y 145,Y 146,Y 147,Y 148,Y 149,Y 150,Y 151,Y 152,Y 153,Y 154,Y 155,Y 156,Y 157,Y 158,Y 159,Y 160,Y 161,Y 162,Y 163,Y 164,Y 165,Y 166,Y 167,Y 168,Y 169,Y 170,Y 171,Y 172,Y 173,Y 174,Y 175,Y 176,.tuple #[.agg (cnCells ZT),.bool zb],uJ sk,.agg #[uJ h,iJ p],.agg #[uJ j,iJ q],iJ e,.agg (sgCells ⟨0,0,(ia+1) % 4294967296,((((c+1) % 4294967296+1) % 4294967296+X6 % 4294967296) % 4294967296),24,400,0,uW⟩),.tuple #[.agg (cnCells ZT),.bool zb],.agg (cnCells ZT),.bool zb,U,U,U,U,U,U,U]) (fun Y=>?_)
   generalize (.tuple #[.agg (cnCells ZT),.bool zb]:Value)=qz140
   generalize (.agg #[.int .u32 h,.int .i64 p]:Value)=qz141
   generalize (.agg #[.int .u32 j,.int .i64 q]:Value)=qz142
   generalize (.agg (sgCells ⟨0,0,(ia+1) % 4294967296,((((c+1) % 4294967296+1) % 4294967296+X6 % 4294967296) % 4294967296),24,400,0,uW⟩):Value)=qz143
   go_upto_region 22 with (fail)
   refine vR ?_
   refine vV (.string uW) ?_
   refine vV (bT) ?_
   refine vV (bT) ?_
   refine vV (.bool zb) ?_
   refine vV (.bool zb) ?_
   refine vV (.bool true) ?_ (hrun:=by simp [execOp,go_sem])
   refine vV (bT) ?_
   refine vV (bT) ?_
   refine vZ (fun Y=>#[Y 0,U,bT,Y 3,pX qw1.heap.size 0,pX qw3.heap.size 0,Y 6,Y 7,pX qw20.heap.size 0,pX qw22.heap.size 0,Y 10,pX qw35.heap.size 0,Y 12,Y 13,Y 14,pX qn71 0,Y 16,pX qw97.heap.size 0,Y 18,pX qw102.heap.size 0,Y 20,Y 21,Y 22,Y 23,Y 24,Y 25,Y 26,Y 27,Y 28,Y 29,Y 30,Y 31,Y 32,Y 33,Y 34,Y 35,Y 36,Y 37,Y 38,Y 39,Y 40,Y 41,Y 42,Y 43,Y 44,Y 45,Y 46,Y 47,Y 48,Y 49,Y 50,Y 51,Y 52,Y 53,Y 54,Y 55,Y 56,Y 57,Y 58,Y 59,Y 60,Y 61,Y 62,Y 63,Y 64,Y 65,Y 66,Y 67,Y 68,Y 69,Y 70,Y 71,Y 72,Y 73,Y 74,Y 75,Y 76,Y 77,Y 78,Y 79,Y 80,Y 81,Y 82,Y 83,Y 84,Y 85,Y 86,Y 87,Y 88,Y 89,Y 90,Y 91,Y 92,Y 93,Y 94,Y 95,Y 96,Y 97,Y 98,Y 99,Y 100,Y 101,Y 102,Y 103,Y 104,Y 105,Y 106,Y 107,Y 108,Y 109,Y 110,Y 111,Y 112,Y 113,Y 114,Y 115,Y 116,Y 117,Y 118,Y 119,Y 120,Y 121,Y 122,Y 123,Y 124,Y 125,Y 126,Y 127,Y 128,Y 129,Y 130,Y 131,Y 132,Y 133,Y 134,Y 135,Y 136,Y 137,Y 138,Y 139,Y 140,Y 141,Y 142,Y 143,Y 144,Y 145,Y 146,Y 147,Y 148,Y 149,Y 150,Y 151,Y 152,Y 153,Y 154,Y 155,Y 156,Y 157,Y 158,Y 159,Y 160,Y 161,Y 162,Y 163,Y 164,Y 165,Y 166,Y 167,Y 168,Y 169,Y 170,Y 171,Y 172,Y 173,Y 174,Y 175,Y 176,Y 177,Y 178,Y 179,Y 180,Y 181,Y 182,Y 183,Y 184,Y 185,.string uW,bT,bT,.bool zb,.bool zb,bT,bT]) (fun Y=>?_)
   go_wp2_with (fail)
   go_ret
   exact ⟨rfl,G⟩
end Go.Proofs.YtmigalhmlofbkaaGreatDoor
