/- A part of the proof. -/
import Derived.Test.YtmigalhmlofbkaaGreatDoorM44
set_option linter.unusedVariables false
set_option maxRecDepth 20000
set_option maxHeartbeats 8000000
namespace Go.Proofs.YtmigalhmlofbkaaGreatDoor
open Go.ChangeShapes Go.WideShapes Go.ChangeAt Go.RowKit
def finI (c:Cn):Bool:=c.fin && (decide (c.nxt=behindC c) && (!c.fsn || decide (c.nxt=c.fsq)))
theorem left_zero {c:Cn} (h:IsWord c.nxt):decide (leftC c=0)=decide (c.nxt=behindC c):=by
 have h1:=distI_is c.nxt (behindC c)
 have h2:IsWord (behindC c):=isWord_mod _
 have:leftC c=0↔c.nxt=behindC c:=by
  unfold leftC
  generalize distI c.nxt (behindC c)=q at *
  generalize behindC c=b at *
  obtain ⟨a1,a2⟩:=h
  obtain ⟨a3,a4⟩:=h2
  unfold IsDist at h1
  omega
 simp [this]
theorem fin_is {c:Cn} (h:IsWord c.nxt) (hs:sendsB c.st=true):finB c=finI c:=by
 unfold finB finI
 rw [hs,left_zero h]
 rfl
theorem implIsFinNext (c:Cn) (w:World) :
  Calls Tryz.prog 118 #[.agg (cnCells c)] w fun e w'=>e=.returned (.bool (finI c))∧Since w w':=by
 have hbh:=fun wx=>implBehind c wx
 obtain ⟨v,hv⟩:∃ q,Hid (q=finI c):=⟨_,rfl⟩
 rw [← hv.out]
 have G:=(Since.refl w).alloc (.cells (cnCells c) 39)
 have A:=Blk.new w (cnCells c) 39
 go_enter Tryz.func118,Tryz.ntmps118
 go_upto_region 1 with (fail)
 generalize w.alloc (.cells (cnCells c) 39)=x0 at A G ⊢
 obtain ⟨bb,hb⟩:∃ q,Hid (q=(c.nxt == behindC c)):=⟨_,rfl⟩
 obtain ⟨bq,hq⟩:∃ q,Hid (q=(c.nxt == c.fsq)):=⟨_,rfl⟩
 rcases Bool.eq_false_or_eq_true c.fin with hf|hf
 all_goals replace hf:Hid _:=hf
 case inr=>
  refine wp_region_qs (wb:=x0) (by kernel_rfl) (by kernel_rfl) (Since.refl _) ?_
  refine qV (pX w.heap.size 15) ?_
  refine qC ⟨w.heap.size,15,none⟩ (bF) (fun y hy=>((A.since hy).cell 15).trans (by show some (.bool c.fin:Value)=some (bF:Value);rw [hf.out])) ?_
  refine qV (bF) ?_
  refine qS ?_
  refine qS ?_
  refine qS ?_
  refine qS ?_
  refine qS ?_
  refine qV (bF) ?_
  refine qV (bF) ?_
  refine qS ?_
  refine qS ?_
  refine qS ?_
  refine qS ?_
  refine qS ?_
  refine qS ?_
  refine qS ?_
  refine qS ?_
  refine qS ?_
  refine qS ?_
  refine qV (bF) ?_
  refine qV (bF) ?_
  refine q_frame (a':={tmps:=#[.agg (cnCells c),pX w.heap.size 0,bF,pX w.heap.size 15,bF,bF,U,U,U,U,U,bF,bF,U,U,U,U,U,U,U,U,U,U,bF],defers:=[]}) (by kernel_rfl) ?_
  refine q_nil ?_
  intro qw1 qh2
  replace A:=A.since qh2
  replace G:=G.trans qh2
  have qh2_s:=qh2.size
  go_wp2_with (fail)
  go_ret
  exact ⟨by rw [show v=false from hv.out.trans (by unfold finI;rw [hf.out];rfl)];rfl,G⟩
 case inl=>
  cases bb
  case false=>
   refine wp_region_qs (wb:=x0) (by kernel_rfl) (by kernel_rfl) (Since.refl _) ?_
   refine qV (pX w.heap.size 15) ?_
   refine qC ⟨w.heap.size,15,none⟩ (bT) (fun y hy=>((A.since hy).cell 15).trans (by show some (.bool c.fin:Value)=some (bT:Value);rw [hf.out])) ?_
   refine qV (bT) ?_
   refine qV (pX w.heap.size 3) ?_
   refine qC ⟨w.heap.size,3,none⟩ (uJ c.nxt) (fun y hy=>(A.since hy).cell 3) ?_
   refine q_big cn_big (cn_size _) A (by kernel_rfl) _ rfl (by kernel_rfl) ?_
   refine q_call (by kernel_rfl) 153 #[.agg (cnCells c)] (.int .u32 (behindC c)) (fun x=>by kernel_rfl) (fun x hx=>hbh x) ?_
   refine q_val (by kernel_rfl) (.bool false) (fun x hx=>by rw [show false=(c.nxt == behindC c) from hb.out];kernel_rfl) ?_
   refine qV (bF) ?_
   refine qV (bF) ?_
   refine qS ?_
   refine qS ?_
   refine qS ?_
   refine qS ?_
   refine qS ?_
   refine qS ?_
   refine qS ?_
   refine qS ?_
   refine qS ?_
   refine qS ?_
   refine qV (bF) ?_
   refine qV (bF) ?_
   refine q_frame (a':={tmps:=#[.agg (cnCells c),pX w.heap.size 0,bF,pX w.heap.size 15,bT,bT,pX w.heap.size 3,uJ c.nxt,.agg (cnCells c),uJ (behindC c),bF,bF,bF,U,U,U,U,U,U,U,U,U,U,bF],defers:=[]}) (by kernel_rfl) ?_
   refine q_nil ?_
   intro qw1 qh2
   replace A:=A.since qh2
   replace G:=G.trans qh2
   have qh2_s:=qh2.size
   go_wp2_with (fail)
   go_ret
   exact ⟨by rw [show v=false from hv.out.trans (by unfold finI;rw [hf.out,decide_eq_false (by simpa using hb.out.symm)];rfl)];rfl,G⟩
  case true=>
   rcases Bool.eq_false_or_eq_true c.fsn with hs|hs
   all_goals replace hs:Hid _:=hs
   case inr=>
    refine wp_region_qs (wb:=x0) (by kernel_rfl) (by kernel_rfl) (Since.refl _) ?_
    refine qV (pX w.heap.size 15) ?_
    refine qC ⟨w.heap.size,15,none⟩ (bT) (fun y hy=>((A.since hy).cell 15).trans (by show some (.bool c.fin:Value)=some (bT:Value);rw [hf.out])) ?_
    refine qV (bT) ?_
    refine qV (pX w.heap.size 3) ?_
    refine qC ⟨w.heap.size,3,none⟩ (uJ c.nxt) (fun y hy=>(A.since hy).cell 3) ?_
    refine q_big cn_big (cn_size _) A (by kernel_rfl) _ rfl (by kernel_rfl) ?_
    refine q_call (by kernel_rfl) 153 #[.agg (cnCells c)] (.int .u32 (behindC c)) (fun x=>by kernel_rfl) (fun x hx=>hbh x) ?_
    refine q_val (by kernel_rfl) (.bool true) (fun x hx=>by rw [show true=(c.nxt == behindC c) from hb.out];kernel_rfl) ?_
    refine qV (bT) ?_
    refine qV (bT) ?_
    refine qV (pX w.heap.size 16) ?_
    refine qC ⟨w.heap.size,16,none⟩ (bF) (fun y hy=>((A.since hy).cell 16).trans (by show some (.bool c.fsn:Value)=some (bF:Value);rw [hs.out])) ?_
    refine qV (bT) ?_
    refine qV (bT) ?_
    refine qS ?_
    refine qS ?_
    refine qS ?_
    refine qS ?_
    refine qS ?_
    refine qV (bT) ?_
    refine qV (bT) ?_
    refine qV (bT) ?_
    refine q_frame (a':={tmps:=#[.agg (cnCells c),pX w.heap.size 0,bT,pX w.heap.size 15,bT,bT,pX w.heap.size 3,uJ c.nxt,.agg (cnCells c),uJ (behindC c),bT,bT,bT,pX w.heap.size 16,bF,bT,bT,U,U,U,U,U,bT,bT],defers:=[]}) (by kernel_rfl) ?_
    refine q_nil ?_
    intro qw1 qh2
    replace A:=A.since qh2
    replace G:=G.trans qh2
    have qh2_s:=qh2.size
    go_wp2_with (fail)
    go_ret
    exact ⟨by rw [show v=true from hv.out.trans (by unfold finI;rw [hf.out,decide_eq_true (by simpa using hb.out.symm),hs.out];rfl)];rfl,G⟩
   case inl=>
    cases bq
    case false=>
     refine wp_region_qs (wb:=x0) (by kernel_rfl) (by kernel_rfl) (Since.refl _) ?_
     refine qV (pX w.heap.size 15) ?_
     refine qC ⟨w.heap.size,15,none⟩ (bT) (fun y hy=>((A.since hy).cell 15).trans (by show some (.bool c.fin:Value)=some (bT:Value);rw [hf.out])) ?_
     refine qV (bT) ?_
     refine qV (pX w.heap.size 3) ?_
     refine qC ⟨w.heap.size,3,none⟩ (uJ c.nxt) (fun y hy=>(A.since hy).cell 3) ?_
     refine q_big cn_big (cn_size _) A (by kernel_rfl) _ rfl (by kernel_rfl) ?_
     refine q_call (by kernel_rfl) 153 #[.agg (cnCells c)] (.int .u32 (behindC c)) (fun x=>by kernel_rfl) (fun x hx=>hbh x) ?_
     refine q_val (by kernel_rfl) (.bool true) (fun x hx=>by rw [show true=(c.nxt == behindC c) from hb.out];kernel_rfl) ?_
     refine qV (bT) ?_
     refine qV (bT) ?_
     refine qV (pX w.heap.size 16) ?_
     refine qC ⟨w.heap.size,16,none⟩ (bT) (fun y hy=>((A.since hy).cell 16).trans (by show some (.bool c.fsn:Value)=some (bT:Value);rw [hs.out])) ?_
     refine qV (bF) ?_
     refine qV (bF) ?_
     refine qV (pX w.heap.size 3) ?_
     refine qC ⟨w.heap.size,3,none⟩ (uJ c.nxt) (fun y hy=>(A.since hy).cell 3) ?_
     refine qV (pX w.heap.size 17) ?_
     refine qC ⟨w.heap.size,17,none⟩ (uJ c.fsq) (fun y hy=>(A.since hy).cell 17) ?_
     refine q_val (by kernel_rfl) (.bool false) (fun x hx=>by rw [show false=(c.nxt == c.fsq) from hq.out];kernel_rfl) ?_
     refine qV (bF) ?_
     refine qV (bF) ?_
     refine qV (bF) ?_
     refine q_frame (a':={tmps:=#[.agg (cnCells c),pX w.heap.size 0,bF,pX w.heap.size 15,bT,bT,pX w.heap.size 3,uJ c.nxt,.agg (cnCells c),uJ (behindC c),bT,bT,bT,pX w.heap.size 16,bT,bF,bF,pX w.heap.size 3,uJ c.nxt,pX w.heap.size 17,uJ c.fsq,bF,bF,bF],defers:=[]}) (by kernel_rfl) ?_
     refine q_nil ?_
     intro qw1 qh2
     replace A:=A.since qh2
     replace G:=G.trans qh2
     have qh2_s:=qh2.size
     go_wp2_with (fail)
     go_ret
     exact ⟨by rw [show v=false from hv.out.trans (by unfold finI;rw [hf.out,decide_eq_true (by simpa using hb.out.symm),hs.out,decide_eq_false (by simpa using hq.out.symm)];rfl)];rfl,G⟩
    case true=>
     refine wp_region_qs (wb:=x0) (by kernel_rfl) (by kernel_rfl) (Since.refl _) ?_
     refine qV (pX w.heap.size 15) ?_
     refine qC ⟨w.heap.size,15,none⟩ (bT) (fun y hy=>((A.since hy).cell 15).trans (by show some (.bool c.fin:Value)=some (bT:Value);rw [hf.out])) ?_
     refine qV (bT) ?_
     refine qV (pX w.heap.size 3) ?_
     refine qC ⟨w.heap.size,3,none⟩ (uJ c.nxt) (fun y hy=>(A.since hy).cell 3) ?_
     refine q_big cn_big (cn_size _) A (by kernel_rfl) _ rfl (by kernel_rfl) ?_
     refine q_call (by kernel_rfl) 153 #[.agg (cnCells c)] (.int .u32 (behindC c)) (fun x=>by kernel_rfl) (fun x hx=>hbh x) ?_
     refine q_val (by kernel_rfl) (.bool true) (fun x hx=>by rw [show true=(c.nxt == behindC c) from hb.out];kernel_rfl) ?_
     refine qV (bT) ?_
     refine qV (bT) ?_
     refine qV (pX w.heap.size 16) ?_
     refine qC ⟨w.heap.size,16,none⟩ (bT) (fun y hy=>((A.since hy).cell 16).trans (by show some (.bool c.fsn:Value)=some (bT:Value);rw [hs.out])) ?_
     refine qV (bF) ?_
     refine qV (bF) ?_
     refine qV (pX w.heap.size 3) ?_
     refine qC ⟨w.heap.size,3,none⟩ (uJ c.nxt) (fun y hy=>(A.since hy).cell 3) ?_
     refine qV (pX w.heap.size 17) ?_
     refine qC ⟨w.heap.size,17,none⟩ (uJ c.fsq) (fun y hy=>(A.since hy).cell 17) ?_
     refine q_val (by kernel_rfl) (.bool true) (fun x hx=>by rw [show true=(c.nxt == c.fsq) from hq.out];kernel_rfl) ?_
     refine qV (bT) ?_
     refine qV (bT) ?_
     refine qV (bT) ?_
     refine q_frame (a':={tmps:=#[.agg (cnCells c),pX w.heap.size 0,bT,pX w.heap.size 15,bT,bT,pX w.heap.size 3,uJ c.nxt,.agg (cnCells c),uJ (behindC c),bT,bT,bT,pX w.heap.size 16,bT,bF,bF,pX w.heap.size 3,uJ c.nxt,pX w.heap.size 17,uJ c.fsq,bT,bT,bT],defers:=[]}) (by kernel_rfl) ?_
     refine q_nil ?_
     intro qw1 qh2
     replace A:=A.since qh2
     replace G:=G.trans qh2
     have qh2_s:=qh2.size
     go_wp2_with (fail)
     go_ret
     exact ⟨by rw [show v=true from hv.out.trans (by unfold finI;rw [hf.out,decide_eq_true (by simpa using hb.out.symm),hs.out,decide_eq_true (by simpa using hq.out.symm)];rfl)];rfl,G⟩
def finX (ps:List (Int×ByteArray)) (now:Int) (p:Cn×List Sg):Cn×List Sg:=if finI p.1 then (finC p.1 now,p.2++[finSg p.1 ps]) else p
theorem implSendFin (B g pg:Nat) (now:Int) (ps:List (Int×ByteArray)) (d:Cn) (gs n cap:Nat) (xs:List Sg) (h0:0≤now) (h1:now≤1000000000) (hn:n≤200000) (w_mx:IsWord d.mx) (gd:Good d.iN d.iD d.iR d.pn ps) (w:World) (a:Acts B g pg now ps d gs n cap xs w) :
  Calls Tryz.prog 82 #[.pointer (some ⟨g,0,none⟩)] w fun e w'=>e=.returned (.tuple #[])∧ActsX B g pg now ps ((finX ps now (d,xs)).1) ((finX ps now (d,xs)).2) w'∧Base B w w':=by
 obtain ⟨A,L,P,pa,lo,i,j,l⟩:=a
 have hA:=A.lt
 have hL:=L.lt
 have hLo:=L.low'
 have hP:=P.lt
 have hPo:=P.low'
 have G:Base B w w:=Base.refl (by omega)
 have hsf:=fun wx Rx=>implSegFrom d ps d.nxt gd wx Rx
 unfold fromSg at hsf
 obtain ⟨rm,hrm⟩:∃ q,Hid (q=inRoomN d.iN d.iD d.iR ps):=⟨_,rfl⟩
 rw [← hrm.out] at hsf
 have hps:Hid (finSg d ps=⟨0,0,d.nxt,d.iN,17,rm,0,ByteArray.empty⟩):=by
  show finSg d ps=_
  unfold finSg
  rw [hrm.out]
 have hfn:=fun wx=>implIsFinNext d wx
 obtain ⟨fi,hfi⟩:∃ q,Hid (q=finI d):=⟨_,rfl⟩
 rw [← hfi.out] at hfn
 have hmo:=fun (dd:Cn) gs' n' c' xs' wx ax (hm:IsWord dd.mx)=>implMoveOn B g pg now ps dd gs' n' c' xs' 1 hm h0 h1 wx ax
 have hX:Hid (finX ps now (d,xs)=if fi then (finC d now,xs++[finSg d ps]) else (d,xs)):=by
  show finX ps now (d,xs)=_
  unfold finX
  rw [hfi.out]
 go_enter Tryz.func82,Tryz.ntmps82
 go_upto_region 1 with (fail)
 cases fi
 case false=>
  rw [if_neg (by decide)] at hX
  refine vR ?_
  refine vV (pX g 0) ?_
  refine vV (pX g 0) ?_
  refine VL.mk (want_end A (by kernel_rfl) _ rfl (by kernel_rfl) (VL.out ?_))
  refine vK (hfn _) ?_
  intro qw1 qg2
  replace A:=A.since qg2
  replace L:=L.since qg2
  replace P:=P.since qg2
  replace G:=G.trans qg2
  have qg2_s:=qg2.size
  refine vV (bT) ?_
  refine vE #[pX g 0,U,pX g 0,U,pX g 0,pX g 0,pX g 0,pX g 0,pX g 0,.agg (cnCells d),bF,bT,U,U,U,U,U,U,U,U,U,U,U,U,U,U,U,U,U,U,U,U,U,U,U,U,U,U,U,U,U,U,U,U,U,U,U,U,U,U,U,U,U,U] ?_
  go_wp2_with (fail)
  refine bodyPost_ret (v:=.tuple #[]) (results_none rfl _ _ _) rfl ⟨rfl,?_,G⟩
  rw [hX.out]
  exact ⟨_,_,_,⟨A,L,P,pa,lo,(by omega),(by omega),(by omega)⟩⟩
 case true=>
  rw [if_pos rfl] at hX
  refine vR ?_
  refine vV (pX g 0) ?_
  refine vV (pX g 0) ?_
  refine VL.mk (want_end A (by kernel_rfl) _ rfl (by kernel_rfl) (VL.out ?_))
  refine vK (hfn _) ?_
  intro qw1 qg2
  replace A:=A.since qg2
  replace L:=L.since qg2
  replace P:=P.since qg2
  replace G:=G.trans qg2
  have qg2_s:=qg2.size
  refine vV (bF) ?_
  refine vE #[pX g 0,U,pX g 0,U,pX g 0,pX g 0,pX g 0,pX g 0,pX g 0,.agg (cnCells d),bT,bF,U,U,U,U,U,U,U,U,U,U,U,U,U,U,U,U,U,U,U,U,U,U,U,U,U,U,U,U,U,U,U,U,U,U,U,U,U,U,U,U,U,U] ?_
  go_upto_region 2 with (fail)
  refine wp_region_tail (wb:=qw1) 9 (fun i x v=>match i with
    | 0=>v=.pointer (some ⟨g,0,none⟩)
    | 1=>v=.pointer (some ⟨g,0,none⟩)
    | 2=>v=.agg (cnCells d)
    | 3=>v=.pointer (some ⟨g,0,none⟩)
    | 4=>v=.pointer (some ⟨g,0,none⟩)
    | 5=>v=.pointer (some ⟨g,3,none⟩)
    | 6=>v=.int .u32 d.nxt
    | 7=>v=.agg (sgCells ⟨0,0,d.nxt,d.iN,16,rm,0,ByteArray.empty⟩)
    | 8=>BoxB qw1.heap.size 8 x v
    | _=>True) (fun v=>{tmps:=#[pX g 0,U,pX g 0,v 8,pX g 0,pX g 0,pX g 0,pX g 0,pX g 0,.agg (cnCells d),bT,bF,v 0,v 1,v 2,v 3,v 4,v 5,v 6,v 7,U,U,U,U,U,U,U,U,U,U,U,U,U,U,U,U,U,U,U,U,U,U,U,U,U,U,U,U,U,U,U,U,U,U],defers:=[]}) (by kernel_rfl) (by kernel_rfl) (by kernel_rfl) (Since.refl _) ?_ (fun vals=>by kernel_rfl) ?_ ?_
  case refine_1=>
   intro j x x' v h1 h2
   match j,h2 with
   | 0,h2|1,h2|2,h2|3,h2|4,h2|5,h2|6,h2|7,h2=>exact h2
   | 8,h2=>exact h2.since h1
   | n+9,_=>trivial
  case refine_2=>
   repeat (first|exact eachDoes_nil|refine eachDoes_cons ?_ ?_)
   all_goals intro vals x hx hv
   all_goals simp [Region.binds] at hv
   ·simp [does,doesUpon,go_sem]
    exact ⟨(Since.refl _).alloc _,BoxB.new _ _ _ hx.size rfl⟩
   ·simp [does,doesUpon,go_sem,hv]
    refine (hsf _ ((rd_of pa P).since hx)).mono ?_
    rintro _ x' ⟨rfl,h1⟩
    simp [h1]
   ·have fl0:x.cell? ⟨g,3,none⟩=some (.int .u32 d.nxt):=(A.since hx).cell 3
    simp [does,doesUpon,go_sem,hv,fl0,Since.refl]
   ·simp [does,doesUpon,go_sem,hv,Since.refl]
   ·simp [does,doesUpon,go_sem,hv,Since.refl]
   ·simp [does,doesUpon,go_sem,Since.refl]
   ·exact does_end (A.since hx) _ rfl hv ⟨Since.refl _,rfl⟩
   ·simp [does,doesUpon,go_sem,hv,Since.refl]
   ·simp [does,doesUpon,go_sem,Since.refl]
  case refine_3=>
   intro qv6 qw4 qh5 hv
   have hv0:qv6 0=_:=hv 0 (by decide)
   have hv1:qv6 1=_:=hv 1 (by decide)
   have hv2:qv6 2=_:=hv 2 (by decide)
   have hv3:qv6 3=_:=hv 3 (by decide)
   have hv4:qv6 4=_:=hv 4 (by decide)
   have hv5:qv6 5=_:=hv 5 (by decide)
   have hv6:qv6 6=_:=hv 6 (by decide)
   have hv7:qv6 7=_:=hv 7 (by decide)
   obtain ⟨qx3,hv8,qx3_l,qx3_c,qx3_z,qx3_B⟩:=hv 8 (by decide)
   clear hv
   simp only [hv0,hv1,hv2,hv3,hv4,hv5,hv6,hv7,hv8,List.drop]
   clear hv0 hv1 hv2 hv3 hv4 hv5 hv6 hv7 hv8
   replace A:=A.since qh5
   replace L:=L.since qh5
   replace P:=P.since qh5
   replace G:=G.trans qh5
   have qh5_s:=qh5.size
   have qx3_m:=qx3_B.lt
   refine VL.out ?_
   refine sB (sgCells ⟨0,0,d.nxt,d.iN,16,rm,0,ByteArray.empty⟩) seg_big qx3_B rfl qx3_z (seg_one _ _ _ _ _ _ _ _) ?_
   intro qw7 qt8 qB9
   clear qx3_B
   replace A:=A.touch qt8 (by omega)
   replace L:=L.touch qt8 (by omega)
   replace P:=P.touch qt8 (by omega)
   replace G:=G.touch qt8 (by omega)
   have qt8_s:=qt8.size
   refine vE #[pX g 0,U,pX g 0,pX qx3 0,pX g 0,pX g 0,pX g 0,pX g 0,pX g 0,.agg (cnCells d),bT,bF,pX g 0,pX g 0,.agg (cnCells d),pX g 0,pX g 0,pX g 3,uJ d.nxt,.agg (sgCells ⟨0,0,d.nxt,d.iN,16,rm,0,ByteArray.empty⟩),U,U,U,U,U,U,U,U,U,U,U,U,U,U,U,U,U,U,U,U,U,U,U,U,U,U,U,U,U,U,U,U,U,U] ?_
   go_upto_region 3 with (fail)
   refine vR ?_
   refine vV (pX qx3 4) ?_
   refine vD (iJ 16) (qB9.cell 4) ?_
   refine vV (iJ 17) ?_
   refine vV (pX qx3 4) ?_
   refine sC (sgCells ⟨0,0,d.nxt,d.iN,17,rm,0,ByteArray.empty⟩) qB9 4 (.int .i64 17) rfl ?_
   intro qw10 qt11 qB12
   clear qB9
   replace A:=A.touch qt11 (by omega)
   replace L:=L.touch qt11 (by omega)
   replace P:=P.touch qt11 (by omega)
   replace G:=G.touch qt11 (by omega)
   have qt11_s:=qt11.size
   refine vE #[pX g 0,U,pX g 0,pX qx3 0,pX g 0,pX g 0,pX g 0,pX g 0,pX g 0,.agg (cnCells d),bT,bF,pX g 0,pX g 0,.agg (cnCells d),pX g 0,pX g 0,pX g 3,uJ d.nxt,.agg (sgCells ⟨0,0,d.nxt,d.iN,16,rm,0,ByteArray.empty⟩),pX qx3 4,iJ 16,iJ 17,pX qx3 4,U,U,U,U,U,U,U,U,U,U,U,U,U,U,U,U,U,U,U,U,U,U,U,U,U,U,U,U,U,U] ?_
   go_upto_region 4 with (fail)
   refine vR ?_
   refine vV (pX g 0) ?_
   refine vB seg_big qB12 rfl ?_
   refine vW (qw10.alloc (.cells (sgCells ⟨0,0,d.nxt,d.iN,17,rm,0,ByteArray.empty⟩) 41)) (.slice (some ⟨qw10.heap.size,0,none⟩) 1 1) ?_
   have qL14:=heldG1 qw10 (⟨0,0,d.nxt,d.iN,17,rm,0,ByteArray.empty⟩)
   have qg15:=(Since.refl qw10).alloc (.cells (sgCells ⟨0,0,d.nxt,d.iN,17,rm,0,ByteArray.empty⟩) 41)
   replace A:=A.since qg15
   replace qB12:=qB12.since qg15
   replace L:=L.since qg15
   replace P:=P.since qg15
   replace G:=G.trans qg15
   generalize qw10.alloc (.cells (sgCells ⟨0,0,d.nxt,d.iN,17,rm,0,ByteArray.empty⟩) 41)=qw13 at A qB12 L P G qL14 qg15 ⊢
   have qg15_s:=qg15.size
   have qL14_l:=qL14.lt
   refine vC (implSends _ _ _ _ _ _ _ _ _ _ ⟨0,0,d.nxt,d.iN,17,rm,0,ByteArray.empty⟩ _ hn _ ⟨A,L,P,pa,lo,(by omega),(by omega),(by omega)⟩ (qL14.raise (by omega)) (by omega)) ?_
   rintro _ qw16 ⟨rfl,⟨gsqk18,nqk18,cqk18,⟨Aqk18,Lqk18,Pqk18,paqk18,loqk18,iqk18,jqk18,lqk18⟩⟩,qh17⟩
   refine ⟨_,rfl,?_⟩
   clear A L P
   clear qB12
   replace G:=G.base qh17
   have qh17_s:=qh17.size
   have Aqk18_l:=Aqk18.lt
   have Lqk18_l:=Lqk18.lt
   have Lqk18_o:=Lqk18.low'
   have Pqk18_l:=Pqk18.lt
   refine vE #[pX g 0,U,pX g 0,pX qx3 0,pX g 0,pX g 0,pX g 0,pX g 0,pX g 0,.agg (cnCells d),bT,bF,pX g 0,pX g 0,.agg (cnCells d),pX g 0,pX g 0,pX g 3,uJ d.nxt,.agg (sgCells ⟨0,0,d.nxt,d.iN,16,rm,0,ByteArray.empty⟩),pX qx3 4,iJ 16,iJ 17,pX qx3 4,pX g 0,.agg (sgCells ⟨0,0,d.nxt,d.iN,17,rm,0,ByteArray.empty⟩),.slice (some ⟨qw10.heap.size,0,none⟩) 1 1,.tuple #[],U,U,U,U,U,U,U,U,U,U,U,U,U,U,U,U,U,U,U,U,U,U,U,U,U,U] ?_
   rw [← hps.out] at Lqk18
   go_upto_region 5 with (fail)
   refine vR ?_
   refine vV (pX g 0) ?_
   refine vV (pX g 0) ?_
   refine vV (pX g 0) ?_
   refine vV (pX g 0) ?_
   refine vV (pX g 3) ?_
   refine vD (uJ d.nxt) (Aqk18.cell 3) ?_
   refine vV (pX g 0) ?_
   refine vV (pX g 16) ?_
   refine sC (actCells {d with fsn:=true} now (.slice (some ⟨gsqk18,0,none⟩) nqk18 cqk18)) Aqk18 16 (.bool true) (act_size _ _ _) ?_
   intro qw19 qt20 qB21
   clear Aqk18
   replace Lqk18:=Lqk18.touch qt20 (by omega)
   replace Pqk18:=Pqk18.touch qt20 (by omega)
   replace G:=G.touch qt20 (by omega)
   have qt20_s:=qt20.size
   refine vV (pX g 0) ?_
   refine vV (pX g 17) ?_
   refine sC (actCells {d with fsn:=true,fsq:=d.nxt} now (.slice (some ⟨gsqk18,0,none⟩) nqk18 cqk18)) qB21 17 (.int .u32 d.nxt) (act_size _ _ _) ?_
   intro qw22 qt23 qB24
   clear qB21
   replace Lqk18:=Lqk18.touch qt23 (by omega)
   replace Pqk18:=Pqk18.touch qt23 (by omega)
   replace G:=G.touch qt23 (by omega)
   have qt23_s:=qt23.size
   refine vE #[pX g 0,U,pX g 0,pX qx3 0,pX g 0,pX g 0,pX g 0,pX g 0,pX g 0,.agg (cnCells d),bT,bF,pX g 0,pX g 0,.agg (cnCells d),pX g 0,pX g 0,pX g 3,uJ d.nxt,.agg (sgCells ⟨0,0,d.nxt,d.iN,16,rm,0,ByteArray.empty⟩),pX qx3 4,iJ 16,iJ 17,pX qx3 4,pX g 0,.agg (sgCells ⟨0,0,d.nxt,d.iN,17,rm,0,ByteArray.empty⟩),.slice (some ⟨qw10.heap.size,0,none⟩) 1 1,.tuple #[],pX g 0,pX g 0,pX g 0,pX g 0,pX g 3,uJ d.nxt,pX g 0,pX g 16,pX g 0,pX g 17,U,U,U,U,U,U,U,U,U,U,U,U,U,U,U,U] ?_
   go_upto_region 6 with (fail)
   refine vR ?_
   refine vV (pX g 0) ?_
   refine vC (hmo _ _ _ _ _ _ ⟨qB24,Lqk18,Pqk18,paqk18,loqk18,(by omega),(by omega),(by omega)⟩ w_mx) ?_
   rintro _ qw25 ⟨rfl,⟨gsqk27,nqk27,cqk27,⟨Aqk27,Lqk27,Pqk27,paqk27,loqk27,iqk27,jqk27,lqk27⟩⟩,qh26⟩
   refine ⟨_,rfl,?_⟩
   clear qB24 Lqk18 Pqk18
   replace G:=G.base qh26
   have qh26_s:=qh26.size
   have Aqk27_l:=Aqk27.lt
   have Lqk27_l:=Lqk27.lt
   have Lqk27_o:=Lqk27.low'
   have Pqk27_l:=Pqk27.lt
   refine vE #[pX g 0,U,pX g 0,pX qx3 0,pX g 0,pX g 0,pX g 0,pX g 0,pX g 0,.agg (cnCells d),bT,bF,pX g 0,pX g 0,.agg (cnCells d),pX g 0,pX g 0,pX g 3,uJ d.nxt,.agg (sgCells ⟨0,0,d.nxt,d.iN,16,rm,0,ByteArray.empty⟩),pX qx3 4,iJ 16,iJ 17,pX qx3 4,pX g 0,.agg (sgCells ⟨0,0,d.nxt,d.iN,17,rm,0,ByteArray.empty⟩),.slice (some ⟨qw10.heap.size,0,none⟩) 1 1,.tuple #[],pX g 0,pX g 0,pX g 0,pX g 0,pX g 3,uJ d.nxt,pX g 0,pX g 16,pX g 0,pX g 17,pX g 0,.tuple #[],U,U,U,U,U,U,U,U,U,U,U,U,U,U] ?_
   have f_st:qw25.cell? ⟨g,0,none⟩=some (.int .i64 d.st):=Aqk27.cell 0
   by_cases h3:d.st=3
   case pos=>
    have e:Hid (finC d now={finW d now with st:=4}):=if_pos h3
    rw [h3] at f_st
    clear h3
    go_upto_region 9 with (fail)
    refine vR ?_
    refine vV (pX g 0) ?_
    refine vV (pX g 0) ?_
    refine vV (pX g 0) ?_
    refine sC (actCells {(finW d now) with st:=4} now (.slice (some ⟨gsqk27,0,none⟩) nqk27 cqk27)) Aqk27 0 (.int .i64 4) (act_size _ _ _) ?_
    intro qw28 qt29 qB30
    clear Aqk27
    replace Lqk27:=Lqk27.touch qt29 (by omega)
    replace Pqk27:=Pqk27.touch qt29 (by omega)
    replace G:=G.touch qt29 (by omega)
    have qt29_s:=qt29.size
    refine vE #[pX g 0,U,pX g 0,pX qx3 0,pX g 0,pX g 0,pX g 0,pX g 0,pX g 0,.agg (cnCells d),bT,bF,pX g 0,pX g 0,.agg (cnCells d),pX g 0,pX g 0,pX g 3,uJ d.nxt,.agg (sgCells ⟨0,0,d.nxt,d.iN,16,rm,0,ByteArray.empty⟩),pX qx3 4,iJ 16,iJ 17,pX qx3 4,pX g 0,.agg (sgCells ⟨0,0,d.nxt,d.iN,17,rm,0,ByteArray.empty⟩),.slice (some ⟨qw10.heap.size,0,none⟩) 1 1,.tuple #[],pX g 0,pX g 0,pX g 0,pX g 0,pX g 3,uJ d.nxt,pX g 0,pX g 16,pX g 0,pX g 17,pX g 0,.tuple #[],pX g 0,pX g 0,pX g 0,iJ 3,bT,bT,pX g 0,pX g 0,pX g 0,U,U,U,U,U] ?_
    go_wp2_with (fail)
    refine bodyPost_end (v:=.tuple #[]) (results_none rfl _ _ _) rfl ⟨rfl,?_,G⟩
    rw [hX.out]
    show ActsX B g pg now ps (finC d now) (xs++[finSg d ps]) _
    rw [e.out]
    exact ⟨_,_,_,⟨qB30,Lqk27,Pqk27,paqk27,loqk27,(by omega),(by omega),(by omega)⟩⟩
   case neg=>
   by_cases h6:d.st=6
   case pos=>
    have e:Hid (finC d now={finW d now with st:=8}):=(if_neg h3).trans (if_pos h6)
    rw [h6] at f_st
    clear h3 h6
    go_upto_region 11 with (fail)
    refine vR ?_
    refine vV (pX g 0) ?_
    refine vV (pX g 0) ?_
    refine vV (pX g 0) ?_
    refine sC (actCells {(finW d now) with st:=8} now (.slice (some ⟨gsqk27,0,none⟩) nqk27 cqk27)) Aqk27 0 (.int .i64 8) (act_size _ _ _) ?_
    intro qw28 qt29 qB30
    clear Aqk27
    replace Lqk27:=Lqk27.touch qt29 (by omega)
    replace Pqk27:=Pqk27.touch qt29 (by omega)
    replace G:=G.touch qt29 (by omega)
    have qt29_s:=qt29.size
    refine vE #[pX g 0,U,pX g 0,pX qx3 0,pX g 0,pX g 0,pX g 0,pX g 0,pX g 0,.agg (cnCells d),bT,bF,pX g 0,pX g 0,.agg (cnCells d),pX g 0,pX g 0,pX g 3,uJ d.nxt,.agg (sgCells ⟨0,0,d.nxt,d.iN,16,rm,0,ByteArray.empty⟩),pX qx3 4,iJ 16,iJ 17,pX qx3 4,pX g 0,.agg (sgCells ⟨0,0,d.nxt,d.iN,17,rm,0,ByteArray.empty⟩),.slice (some ⟨qw10.heap.size,0,none⟩) 1 1,.tuple #[],pX g 0,pX g 0,pX g 0,pX g 0,pX g 3,uJ d.nxt,pX g 0,pX g 16,pX g 0,pX g 17,pX g 0,.tuple #[],pX g 0,pX g 0,pX g 0,iJ 6,bF,bF,U,U,U,bT,bT,pX g 0,pX g 0,pX g 0] ?_
    go_wp2_with (fail)
    refine bodyPost_end (v:=.tuple #[]) (results_none rfl _ _ _) rfl ⟨rfl,?_,G⟩
    rw [hX.out]
    show ActsX B g pg now ps (finC d now) (xs++[finSg d ps]) _
    rw [e.out]
    exact ⟨_,_,_,⟨qB30,Lqk27,Pqk27,paqk27,loqk27,(by omega),(by omega),(by omega)⟩⟩
   case neg=>
    have e:Hid (finC d now=finW d now):=(if_neg h3).trans (if_neg h6)
    have m3:(d.st == 3)=false:=by simpa using h3
    have m6:(d.st == 6)=false:=by simpa using h6
    clear h3 h6
    go_wp2_with (fail)
    refine bodyPost_end (v:=.tuple #[]) (results_none rfl _ _ _) rfl ⟨rfl,?_,G⟩
    rw [hX.out]
    show ActsX B g pg now ps (finC d now) (xs++[finSg d ps]) _
    rw [e.out]
    exact ⟨_,_,_,⟨Aqk27,Lqk27,Pqk27,paqk27,loqk27,(by omega),(by omega),(by omega)⟩⟩
def prbI (d:Cn) (lf:Int):Bool:=decide (d.wnd=0) && (decide (0<lf) && (decide (d.una=d.nxt) && decide (d.prb=0)))
def prbX (d:Cn) (now:Int):Cn:=if prbI d (leftC d) then {d with prb:=now+waitOf d.rA d.rS d.rV d.rD} else d
theorem implPlanProbe (B g pg:Nat) (now:Int) (ps:List (Int×ByteArray)) (d:Cn) (gs n cap:Nat) (xs:List Sg) (h0:0≤now) (h1:now≤1000000000) (w_nxt:IsWord d.nxt) (w:World) (a:Acts B g pg now ps d gs n cap xs w) :
  Calls Tryz.prog 83 #[.pointer (some ⟨g,0,none⟩)] w fun e w'=>e=.returned (.tuple #[])∧ActsX B g pg now ps (prbX d now) (xs) w'∧Base B w w':=by
 obtain ⟨A,L,P,pa,lo,i,j,l⟩:=a
 have hA:=A.lt
 have hL:=L.lt
 have hLo:=L.low'
 have hP:=P.lt
 have hPo:=P.low'
 have G:Base B w w:=Base.refl (by omega)
 have hlf:=fun wx=>implLeft d w_nxt wx
 have hX:prbX d now=if prbI d (leftC d) then {d with prb:=now+waitOf d.rA d.rS d.rV d.rD} else d:=rfl
 generalize leftC d=lf at hlf hX
 replace hX:Hid _:=hX
 have hfn:=fun (dd:Cn) wx Ax=>implFromNow g now dd (.slice (some ⟨gs,0,none⟩) n cap) h0 h1 wx Ax
 obtain ⟨b1,hb1⟩:∃ q,Hid (q=(d.wnd == 0)):=⟨_,rfl⟩
 obtain ⟨b2,hb2⟩:∃ q,Hid (q=decide (0<lf)):=⟨_,rfl⟩
 obtain ⟨b3,hb3⟩:∃ q,Hid (q=(d.una == d.nxt)):=⟨_,rfl⟩
 obtain ⟨b4,hb4⟩:∃ q,Hid (q=(d.prb == 0)):=⟨_,rfl⟩
 go_enter Tryz.func83,Tryz.ntmps83
 go_upto_region 1 with (fail)
 cases b1
 case false=>
  skip
  have e:Hid (prbX d now=d):=hX.out.trans (by unfold prbI;rw [decide_eq_false (show ¬ d.wnd=0 by simpa using hb1.out.symm)];rfl)
  refine wp_region_qs (wb:=w) (by kernel_rfl) (by kernel_rfl) (Since.refl _) ?_
  refine qV (pX g 0) ?_
  refine qV (pX g 0) ?_
  refine qV (pX g 5) ?_
  refine qC ⟨g,5,none⟩ (iJ d.wnd) (fun y hy=>(A.since hy).cell 5) ?_
  refine q_val (by kernel_rfl) (.bool false) (fun x hx=>by rw [show false=(d.wnd == 0) from hb1.out];kernel_rfl) ?_
  refine qV (bF) ?_
  refine qS ?_
  refine qS ?_
  refine qS ?_
  refine qS ?_
  refine qS ?_
  refine qV (bF) ?_
  refine qV (bF) ?_
  refine qS ?_
  refine qS ?_
  refine qS ?_
  refine qS ?_
  refine qS ?_
  refine qS ?_
  refine qS ?_
  refine qS ?_
  refine qS ?_
  refine qV (bF) ?_
  refine qV (bF) ?_
  refine qS ?_
  refine qS ?_
  refine qS ?_
  refine qS ?_
  refine qS ?_
  refine qV (bF) ?_
  refine q_frame (a':={tmps:=#[pX g 0,U,pX g 0,pX g 0,pX g 0,pX g 0,pX g 0,pX g 0,pX g 5,iJ d.wnd,bF,bF,U,U,U,U,U,bF,bF,U,U,U,U,U,U,U,U,U,bF,bF,U,U,U,U,U,bF,U,U,U,U,U],defers:=[]}) (by kernel_rfl) ?_
  refine q_nil ?_
  intro qw1 qh2
  replace A:=A.since qh2
  replace L:=L.since qh2
  replace P:=P.since qh2
  replace G:=G.trans qh2
  have qh2_s:=qh2.size
  go_wp2_with (fail)
  refine bodyPost_end (v:=.tuple #[]) (results_none rfl _ _ _) rfl ⟨rfl,?_,G⟩
  rw [e.out]
  exact ⟨_,_,_,⟨A,L,P,pa,lo,(by omega),(by omega),(by omega)⟩⟩
 case true=>
 cases b2
 case false=>
  skip
  have e:Hid (prbX d now=d):=hX.out.trans (by unfold prbI;rw [decide_eq_true (show d.wnd=0 by simpa using hb1.out.symm),show decide (0<lf)=false from hb2.out.symm];rfl)
  refine wp_region_qs (wb:=w) (by kernel_rfl) (by kernel_rfl) (Since.refl _) ?_
  refine qV (pX g 0) ?_
  refine qV (pX g 0) ?_
  refine qV (pX g 5) ?_
  refine qC ⟨g,5,none⟩ (iJ d.wnd) (fun y hy=>(A.since hy).cell 5) ?_
  refine q_val (by kernel_rfl) (.bool true) (fun x hx=>by rw [show true=(d.wnd == 0) from hb1.out];kernel_rfl) ?_
  refine qV (bT) ?_
  refine qV (pX g 0) ?_
  refine qV (pX g 0) ?_
  refine q_end A (by kernel_rfl) _ rfl (by kernel_rfl) ?_
  refine q_call (by kernel_rfl) 122 #[.agg (cnCells d)] (.int .i64 lf) (fun x=>by kernel_rfl) (fun x hx=>hlf x) ?_
  refine q_val (by kernel_rfl) (.bool false) (fun x hx=>by rw [show false=decide (0<lf) from hb2.out];kernel_rfl) ?_
  refine qV (bF) ?_
  refine qV (bF) ?_
  refine qS ?_
  refine qS ?_
  refine qS ?_
  refine qS ?_
  refine qS ?_
  refine qS ?_
  refine qS ?_
  refine qS ?_
  refine qS ?_
  refine qV (bF) ?_
  refine qV (bF) ?_
  refine qS ?_
  refine qS ?_
  refine qS ?_
  refine qS ?_
  refine qS ?_
  refine qV (bF) ?_
  refine q_frame (a':={tmps:=#[pX g 0,U,pX g 0,pX g 0,pX g 0,pX g 0,pX g 0,pX g 0,pX g 5,iJ d.wnd,bT,bT,pX g 0,pX g 0,.agg (cnCells d),iJ lf,bF,bF,bF,U,U,U,U,U,U,U,U,U,bF,bF,U,U,U,U,U,bF,U,U,U,U,U],defers:=[]}) (by kernel_rfl) ?_
  refine q_nil ?_
  intro qw1 qh2
  replace A:=A.since qh2
  replace L:=L.since qh2
  replace P:=P.since qh2
  replace G:=G.trans qh2
  have qh2_s:=qh2.size
  go_wp2_with (fail)
  refine bodyPost_end (v:=.tuple #[]) (results_none rfl _ _ _) rfl ⟨rfl,?_,G⟩
  rw [e.out]
  exact ⟨_,_,_,⟨A,L,P,pa,lo,(by omega),(by omega),(by omega)⟩⟩
 case true=>
 cases b3
 case false=>
  skip
  have e:Hid (prbX d now=d):=hX.out.trans (by unfold prbI;rw [decide_eq_true (show d.wnd=0 by simpa using hb1.out.symm),show decide (0<lf)=true from hb2.out.symm,decide_eq_false (show ¬ d.una=d.nxt by simpa using hb3.out.symm)];rfl)
  refine wp_region_qs (wb:=w) (by kernel_rfl) (by kernel_rfl) (Since.refl _) ?_
  refine qV (pX g 0) ?_
  refine qV (pX g 0) ?_
  refine qV (pX g 5) ?_
  refine qC ⟨g,5,none⟩ (iJ d.wnd) (fun y hy=>(A.since hy).cell 5) ?_
  refine q_val (by kernel_rfl) (.bool true) (fun x hx=>by rw [show true=(d.wnd == 0) from hb1.out];kernel_rfl) ?_
  refine qV (bT) ?_
  refine qV (pX g 0) ?_
  refine qV (pX g 0) ?_
  refine q_end A (by kernel_rfl) _ rfl (by kernel_rfl) ?_
  refine q_call (by kernel_rfl) 122 #[.agg (cnCells d)] (.int .i64 lf) (fun x=>by kernel_rfl) (fun x hx=>hlf x) ?_
  refine q_val (by kernel_rfl) (.bool true) (fun x hx=>by rw [show true=decide (0<lf) from hb2.out];kernel_rfl) ?_
  refine qV (bT) ?_
  refine qV (bT) ?_
  refine qV (pX g 0) ?_
  refine qV (pX g 0) ?_
  refine qV (pX g 2) ?_
  refine qC ⟨g,2,none⟩ (uJ d.una) (fun y hy=>(A.since hy).cell 2) ?_
  refine qV (pX g 0) ?_
  refine qV (pX g 0) ?_
  refine qV (pX g 3) ?_
  refine qC ⟨g,3,none⟩ (uJ d.nxt) (fun y hy=>(A.since hy).cell 3) ?_
  refine q_val (by kernel_rfl) (.bool false) (fun x hx=>by rw [show false=(d.una == d.nxt) from hb3.out];kernel_rfl) ?_
  refine qV (bF) ?_
  refine qV (bF) ?_
  refine qS ?_
  refine qS ?_
  refine qS ?_
  refine qS ?_
  refine qS ?_
  refine qV (bF) ?_
  refine q_frame (a':={tmps:=#[pX g 0,U,pX g 0,pX g 0,pX g 0,pX g 0,pX g 0,pX g 0,pX g 5,iJ d.wnd,bT,bT,pX g 0,pX g 0,.agg (cnCells d),iJ lf,bT,bT,bT,pX g 0,pX g 0,pX g 2,uJ d.una,pX g 0,pX g 0,pX g 3,uJ d.nxt,bF,bF,bF,U,U,U,U,U,bF,U,U,U,U,U],defers:=[]}) (by kernel_rfl) ?_
  refine q_nil ?_
  intro qw1 qh2
  replace A:=A.since qh2
  replace L:=L.since qh2
  replace P:=P.since qh2
  replace G:=G.trans qh2
  have qh2_s:=qh2.size
  go_wp2_with (fail)
  refine bodyPost_end (v:=.tuple #[]) (results_none rfl _ _ _) rfl ⟨rfl,?_,G⟩
  rw [e.out]
  exact ⟨_,_,_,⟨A,L,P,pa,lo,(by omega),(by omega),(by omega)⟩⟩
 case true=>
 cases b4
 case false=>
  skip
  have e:Hid (prbX d now=d):=hX.out.trans (by unfold prbI;rw [decide_eq_true (show d.wnd=0 by simpa using hb1.out.symm),show decide (0<lf)=true from hb2.out.symm,decide_eq_true (show d.una=d.nxt by simpa using hb3.out.symm),decide_eq_false (show ¬ d.prb=0 by simpa using hb4.out.symm)];rfl)
  refine wp_region_qs (wb:=w) (by kernel_rfl) (by kernel_rfl) (Since.refl _) ?_
  refine qV (pX g 0) ?_
  refine qV (pX g 0) ?_
  refine qV (pX g 5) ?_
  refine qC ⟨g,5,none⟩ (iJ d.wnd) (fun y hy=>(A.since hy).cell 5) ?_
  refine q_val (by kernel_rfl) (.bool true) (fun x hx=>by rw [show true=(d.wnd == 0) from hb1.out];kernel_rfl) ?_
  refine qV (bT) ?_
  refine qV (pX g 0) ?_
  refine qV (pX g 0) ?_
  refine q_end A (by kernel_rfl) _ rfl (by kernel_rfl) ?_
  refine q_call (by kernel_rfl) 122 #[.agg (cnCells d)] (.int .i64 lf) (fun x=>by kernel_rfl) (fun x hx=>hlf x) ?_
  refine q_val (by kernel_rfl) (.bool true) (fun x hx=>by rw [show true=decide (0<lf) from hb2.out];kernel_rfl) ?_
  refine qV (bT) ?_
  refine qV (bT) ?_
  refine qV (pX g 0) ?_
  refine qV (pX g 0) ?_
  refine qV (pX g 2) ?_
  refine qC ⟨g,2,none⟩ (uJ d.una) (fun y hy=>(A.since hy).cell 2) ?_
  refine qV (pX g 0) ?_
  refine qV (pX g 0) ?_
  refine qV (pX g 3) ?_
  refine qC ⟨g,3,none⟩ (uJ d.nxt) (fun y hy=>(A.since hy).cell 3) ?_
  refine q_val (by kernel_rfl) (.bool true) (fun x hx=>by rw [show true=(d.una == d.nxt) from hb3.out];kernel_rfl) ?_
  refine qV (bT) ?_
  refine qV (bT) ?_
  refine qV (pX g 0) ?_
  refine qV (pX g 0) ?_
  refine qV (pX g 32) ?_
  refine qC ⟨g,32,none⟩ (iJ d.prb) (fun y hy=>(A.since hy).cell 32) ?_
  refine q_val (by kernel_rfl) (.bool false) (fun x hx=>by rw [show false=(d.prb == 0) from hb4.out];kernel_rfl) ?_
  refine qV (bF) ?_
  refine q_frame (a':={tmps:=#[pX g 0,U,pX g 0,pX g 0,pX g 0,pX g 0,pX g 0,pX g 0,pX g 5,iJ d.wnd,bT,bT,pX g 0,pX g 0,.agg (cnCells d),iJ lf,bT,bT,bT,pX g 0,pX g 0,pX g 2,uJ d.una,pX g 0,pX g 0,pX g 3,uJ d.nxt,bT,bT,bT,pX g 0,pX g 0,pX g 32,iJ d.prb,bF,bF,U,U,U,U,U],defers:=[]}) (by kernel_rfl) ?_
  refine q_nil ?_
  intro qw1 qh2
  replace A:=A.since qh2
  replace L:=L.since qh2
  replace P:=P.since qh2
  replace G:=G.trans qh2
  have qh2_s:=qh2.size
  go_wp2_with (fail)
  refine bodyPost_end (v:=.tuple #[]) (results_none rfl _ _ _) rfl ⟨rfl,?_,G⟩
  rw [e.out]
  exact ⟨_,_,_,⟨A,L,P,pa,lo,(by omega),(by omega),(by omega)⟩⟩
 case true=>
 skip
 have e:Hid (prbX d now={d with prb:=now+waitOf d.rA d.rS d.rV d.rD}):=hX.out.trans (by unfold prbI;rw [decide_eq_true (show d.wnd=0 by simpa using hb1.out.symm),show decide (0<lf)=true from hb2.out.symm,decide_eq_true (show d.una=d.nxt by simpa using hb3.out.symm),decide_eq_true (show d.prb=0 by simpa using hb4.out.symm)];rfl)
 refine wp_region_qs (wb:=w) (by kernel_rfl) (by kernel_rfl) (Since.refl _) ?_
 refine qV (pX g 0) ?_
 refine qV (pX g 0) ?_
 refine qV (pX g 5) ?_
 refine qC ⟨g,5,none⟩ (iJ d.wnd) (fun y hy=>(A.since hy).cell 5) ?_
 refine q_val (by kernel_rfl) (.bool true) (fun x hx=>by rw [show true=(d.wnd == 0) from hb1.out];kernel_rfl) ?_
 refine qV (bT) ?_
 refine qV (pX g 0) ?_
 refine qV (pX g 0) ?_
 refine q_end A (by kernel_rfl) _ rfl (by kernel_rfl) ?_
 refine q_call (by kernel_rfl) 122 #[.agg (cnCells d)] (.int .i64 lf) (fun x=>by kernel_rfl) (fun x hx=>hlf x) ?_
 refine q_val (by kernel_rfl) (.bool true) (fun x hx=>by rw [show true=decide (0<lf) from hb2.out];kernel_rfl) ?_
 refine qV (bT) ?_
 refine qV (bT) ?_
 refine qV (pX g 0) ?_
 refine qV (pX g 0) ?_
 refine qV (pX g 2) ?_
 refine qC ⟨g,2,none⟩ (uJ d.una) (fun y hy=>(A.since hy).cell 2) ?_
 refine qV (pX g 0) ?_
 refine qV (pX g 0) ?_
 refine qV (pX g 3) ?_
 refine qC ⟨g,3,none⟩ (uJ d.nxt) (fun y hy=>(A.since hy).cell 3) ?_
 refine q_val (by kernel_rfl) (.bool true) (fun x hx=>by rw [show true=(d.una == d.nxt) from hb3.out];kernel_rfl) ?_
 refine qV (bT) ?_
 refine qV (bT) ?_
 refine qV (pX g 0) ?_
 refine qV (pX g 0) ?_
 refine qV (pX g 32) ?_
 refine qC ⟨g,32,none⟩ (iJ d.prb) (fun y hy=>(A.since hy).cell 32) ?_
 refine q_val (by kernel_rfl) (.bool true) (fun x hx=>by rw [show true=(d.prb == 0) from hb4.out];kernel_rfl) ?_
 refine qV (bT) ?_
 refine q_frame (a':={tmps:=#[pX g 0,U,pX g 0,pX g 0,pX g 0,pX g 0,pX g 0,pX g 0,pX g 5,iJ d.wnd,bT,bT,pX g 0,pX g 0,.agg (cnCells d),iJ lf,bT,bT,bT,pX g 0,pX g 0,pX g 2,uJ d.una,pX g 0,pX g 0,pX g 3,uJ d.nxt,bT,bT,bT,pX g 0,pX g 0,pX g 32,iJ d.prb,bT,bT,U,U,U,U,U],defers:=[]}) (by kernel_rfl) ?_
 refine q_nil ?_
 intro qw1 qh2
 replace A:=A.since qh2
 replace L:=L.since qh2
 replace P:=P.since qh2
 replace G:=G.trans qh2
 have qh2_s:=qh2.size
 go_upto_region 2 with (fail)
 refine vR ?_
 refine vV (pX g 0) ?_
 refine vV (pX g 0) ?_
 refine vK (hfn _ _ A) ?_
 intro qw3 qg4
 replace A:=A.since qg4
 replace L:=L.since qg4
 replace P:=P.since qg4
 replace G:=G.trans qg4
 have qg4_s:=qg4.size
 refine vV (pX g 0) ?_
 refine vV (pX g 32) ?_
 refine sC (actCells {d with prb:=(now+waitOf d.rA d.rS d.rV d.rD)} now (.slice (some ⟨gs,0,none⟩) n cap)) A 32 (.int .i64 (now+waitOf d.rA d.rS d.rV d.rD)) (act_size _ _ _) ?_
 intro qw5 qt6 qB7
 clear A
 replace L:=L.touch qt6 (by omega)
 replace P:=P.touch qt6 (by omega)
 replace G:=G.touch qt6 (by omega)
 have qt6_s:=qt6.size
 refine vE #[pX g 0,U,pX g 0,pX g 0,pX g 0,pX g 0,pX g 0,pX g 0,pX g 5,iJ d.wnd,bT,bT,pX g 0,pX g 0,.agg (cnCells d),iJ lf,bT,bT,bT,pX g 0,pX g 0,pX g 2,uJ d.una,pX g 0,pX g 0,pX g 3,uJ d.nxt,bT,bT,bT,pX g 0,pX g 0,pX g 32,iJ d.prb,bT,bT,pX g 0,pX g 0,iJ (now+waitOf d.rA d.rS d.rV d.rD),pX g 0,pX g 32] ?_
 go_wp2_with (fail)
 refine bodyPost_end (v:=.tuple #[]) (results_none rfl _ _ _) rfl ⟨rfl,?_,G⟩
 rw [e.out]
 exact ⟨_,_,_,⟨qB7,L,P,pa,lo,(by omega),(by omega),(by omega)⟩⟩
def oweX (ps:List (Int×ByteArray)) (p:Cn×List Sg):Cn×List Sg:=if p.1.owe then ({p.1 with owe:=false},p.2++[ackSg p.1 ps]) else p
theorem implConfirm (B g pg:Nat) (now:Int) (ps:List (Int×ByteArray)) (d:Cn) (gs n cap:Nat) (xs:List Sg) (hn:n≤200000) (gd:Good d.iN d.iD d.iR d.pn ps) (w:World) (a:Acts B g pg now ps d gs n cap xs w) :
  Calls Tryz.prog 84 #[.pointer (some ⟨g,0,none⟩)] w fun e w'=>e=.returned (.tuple #[])∧ActsX B g pg now ps ((oweX ps (d,xs)).1) ((oweX ps (d,xs)).2) w'∧Base B w w':=by
 obtain ⟨A,L,P,pa,lo,i,j,l⟩:=a
 have hA:=A.lt
 have hL:=L.lt
 have hLo:=L.low'
 have hP:=P.lt
 have hPo:=P.low'
 have G:Base B w w:=Base.refl (by omega)
 have hsf:=fun wx Rx=>implSegFrom d ps d.mx gd wx Rx
 unfold fromSg at hsf
 obtain ⟨rm,hrm⟩:∃ q,Hid (q=inRoomN d.iN d.iD d.iR ps):=⟨_,rfl⟩
 rw [← hrm.out] at hsf
 have hps:Hid (ackSg d ps=⟨0,0,d.mx,d.iN,16,rm,0,ByteArray.empty⟩):=by
  show ackSg d ps=_
  unfold ackSg
  rw [hrm.out]
 go_enter Tryz.func84,Tryz.ntmps84
 go_upto_region 1 with (fail)
 rcases Bool.eq_false_or_eq_true d.owe with ho|ho
 all_goals replace ho:Hid _:=ho
 case inr=>
  have e:Hid (oweX ps (d,xs)=(d,xs)):=if_neg (by rw [ho.out];decide)
  refine vR ?_
  refine vV (pX g 0) ?_
  refine vV (pX g 0) ?_
  refine vV (pX g 36) ?_
  refine vD (bF) ((A.cell 36).trans (by show some (.bool d.owe:Value)=some (bF:Value);rw [ho.out])) ?_
  refine vE #[pX g 0,U,pX g 0,pX g 0,pX g 0,pX g 0,pX g 0,pX g 0,pX g 36,bF,U,U,U,U,U,U,U,U,U,U,U,U,U,U] ?_
  go_wp2_with (fail)
  refine bodyPost_end (v:=.tuple #[]) (results_none rfl _ _ _) rfl ⟨rfl,?_,G⟩
  rw [e.out]
  exact ⟨_,_,_,⟨A,L,P,pa,lo,(by omega),(by omega),(by omega)⟩⟩
 case inl=>
  have e:Hid (oweX ps (d,xs)=({d with owe:=false},xs++[ackSg d ps])):=if_pos ho.out
  refine vR ?_
  refine vV (pX g 0) ?_
  refine vV (pX g 0) ?_
  refine vV (pX g 36) ?_
  refine vD (bT) ((A.cell 36).trans (by show some (.bool d.owe:Value)=some (bT:Value);rw [ho.out])) ?_
  refine vE #[pX g 0,U,pX g 0,pX g 0,pX g 0,pX g 0,pX g 0,pX g 0,pX g 36,bT,U,U,U,U,U,U,U,U,U,U,U,U,U,U] ?_
  go_upto_region 2 with (fail)
  refine wp_region_tail (wb:=w) 10 (fun i x v=>match i with
    | 0=>v=.pointer (some ⟨g,0,none⟩)
    | 1=>v=.pointer (some ⟨g,0,none⟩)
    | 2=>v=.pointer (some ⟨g,0,none⟩)
    | 3=>v=.agg (cnCells d)
    | 4=>v=.pointer (some ⟨g,0,none⟩)
    | 5=>v=.pointer (some ⟨g,0,none⟩)
    | 6=>v=.pointer (some ⟨g,4,none⟩)
    | 7=>v=.int .u32 d.mx
    | 8=>v=.agg (sgCells ⟨0,0,d.mx,d.iN,16,rm,0,ByteArray.empty⟩)
    | 9=>∃ gy,v=.slice (some ⟨gy,0,none⟩) 1 1∧Held shG x w.heap.size gy 1 1 [⟨0,0,d.mx,d.iN,16,rm,0,ByteArray.empty⟩]
    | _=>True) (fun v=>{tmps:=#[pX g 0,U,pX g 0,pX g 0,pX g 0,pX g 0,pX g 0,pX g 0,pX g 36,bT,v 0,v 1,v 2,v 3,v 4,v 5,v 6,v 7,v 8,v 9,U,U,U,U],defers:=[]}) (by kernel_rfl) (by kernel_rfl) (by kernel_rfl) (Since.refl _) ?_ (fun vals=>by kernel_rfl) ?_ ?_
  case refine_1=>
   intro j x x' v h1 h2
   match j,h2 with
   | 0,h2|1,h2|2,h2|3,h2|4,h2|5,h2|6,h2|7,h2|8,h2=>exact h2
   | 9,⟨gy,e,H⟩=>exact ⟨gy,e,H.since h1⟩
   | n+10,_=>trivial
  case refine_2=>
   repeat (first|exact eachDoes_nil|refine eachDoes_cons ?_ ?_)
   all_goals intro vals x hx hv
   all_goals simp [Region.binds] at hv
   ·exact does_build1 (⟨0,0,d.mx,d.iN,16,rm,0,ByteArray.empty⟩) _ rfl hv ⟨(Since.refl _).alloc _,_,rfl,(heldG1 x (⟨0,0,d.mx,d.iN,16,rm,0,ByteArray.empty⟩)).raise hx.size⟩
   ·simp [does,doesUpon,go_sem,hv]
    refine (hsf _ ((rd_of pa P).since hx)).mono ?_
    rintro _ x' ⟨rfl,h1⟩
    simp [h1]
   ·have fl0:x.cell? ⟨g,4,none⟩=some (.int .u32 d.mx):=(A.since hx).cell 4
    simp [does,doesUpon,go_sem,hv,fl0,Since.refl]
   ·simp [does,doesUpon,go_sem,hv,Since.refl]
   ·simp [does,doesUpon,go_sem,hv,Since.refl]
   ·simp [does,doesUpon,go_sem,Since.refl]
   ·exact does_end (A.since hx) _ rfl hv ⟨Since.refl _,rfl⟩
   ·simp [does,doesUpon,go_sem,hv,Since.refl]
   ·simp [does,doesUpon,go_sem,Since.refl]
   ·simp [does,doesUpon,go_sem,Since.refl]
  case refine_3=>
   intro qv4 qw2 qh3 hv
   have hv0:qv4 0=_:=hv 0 (by decide)
   have hv1:qv4 1=_:=hv 1 (by decide)
   have hv2:qv4 2=_:=hv 2 (by decide)
   have hv3:qv4 3=_:=hv 3 (by decide)
   have hv4:qv4 4=_:=hv 4 (by decide)
   have hv5:qv4 5=_:=hv 5 (by decide)
   have hv6:qv4 6=_:=hv 6 (by decide)
   have hv7:qv4 7=_:=hv 7 (by decide)
   have hv8:qv4 8=_:=hv 8 (by decide)
   obtain ⟨qx1,hv9,qx1_H⟩:=hv 9 (by decide)
   clear hv
   simp only [hv0,hv1,hv2,hv3,hv4,hv5,hv6,hv7,hv8,hv9,List.drop]
   clear hv0 hv1 hv2 hv3 hv4 hv5 hv6 hv7 hv8 hv9
   replace A:=A.since qh3
   replace L:=L.since qh3
   replace P:=P.since qh3
   replace G:=G.trans qh3
   have qh3_s:=qh3.size
   have qx1_m:=qx1_H.lt
   have qx1_o:=qx1_H.low'
   refine VL.out ?_
   refine vC (implSends _ _ _ _ _ _ _ _ _ _ _ _ hn _ ⟨A,L,P,pa,lo,(by omega),(by omega),(by omega)⟩ (qx1_H.raise (by omega)) (by omega)) ?_
   rintro _ qw5 ⟨rfl,⟨gsqk7,nqk7,cqk7,⟨Aqk7,Lqk7,Pqk7,paqk7,loqk7,iqk7,jqk7,lqk7⟩⟩,qh6⟩
   refine ⟨_,rfl,?_⟩
   clear A L P
   replace G:=G.base qh6
   have qh6_s:=qh6.size
   have Aqk7_l:=Aqk7.lt
   have Lqk7_l:=Lqk7.lt
   have Lqk7_o:=Lqk7.low'
   have Pqk7_l:=Pqk7.lt
   refine vE #[pX g 0,U,pX g 0,pX g 0,pX g 0,pX g 0,pX g 0,pX g 0,pX g 36,bT,pX g 0,pX g 0,pX g 0,.agg (cnCells d),pX g 0,pX g 0,pX g 4,uJ d.mx,.agg (sgCells ⟨0,0,d.mx,d.iN,16,rm,0,ByteArray.empty⟩),.slice (some ⟨qx1,0,none⟩) 1 1,.tuple #[],U,U,U] ?_
   rw [← hps.out] at Lqk7
   go_upto_region 3 with (fail)
   refine vR ?_
   refine vV (pX g 0) ?_
   refine vV (pX g 0) ?_
   refine vV (pX g 36) ?_
   refine sC (actCells {d with owe:=false} now (.slice (some ⟨gsqk7,0,none⟩) nqk7 cqk7)) Aqk7 36 (.bool false) (act_size _ _ _) ?_
   intro qw8 qt9 qB10
   clear Aqk7
   replace Lqk7:=Lqk7.touch qt9 (by omega)
   replace Pqk7:=Pqk7.touch qt9 (by omega)
   replace G:=G.touch qt9 (by omega)
   have qt9_s:=qt9.size
   refine vE #[pX g 0,U,pX g 0,pX g 0,pX g 0,pX g 0,pX g 0,pX g 0,pX g 36,bT,pX g 0,pX g 0,pX g 0,.agg (cnCells d),pX g 0,pX g 0,pX g 4,uJ d.mx,.agg (sgCells ⟨0,0,d.mx,d.iN,16,rm,0,ByteArray.empty⟩),.slice (some ⟨qx1,0,none⟩) 1 1,.tuple #[],pX g 0,pX g 0,pX g 36] ?_
   go_wp2_with (fail)
   refine bodyPost_end (v:=.tuple #[]) (results_none rfl _ _ _) rfl ⟨rfl,?_,G⟩
   rw [e.out]
   exact ⟨_,_,_,⟨qB10,Lqk7,Pqk7,paqk7,loqk7,(by omega),(by omega),(by omega)⟩⟩
end Go.Proofs.YtmigalhmlofbkaaGreatDoor
