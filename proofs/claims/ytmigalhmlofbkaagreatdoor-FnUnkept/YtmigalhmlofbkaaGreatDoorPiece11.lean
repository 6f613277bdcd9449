/- A part of the proof. -/
import Derived.Test.YtmigalhmlofbkaaGreatDoorMV
import Derived.Test.YtmigalhmlofbkaaGreatDoorM22
set_option linter.unusedVariables false
set_option maxRecDepth 20000
set_option maxHeartbeats 8000000
namespace Go.Proofs.YtmigalhmlofbkaaGreatDoor
open Go.ChangeShapes Go.WideShapes Go.ChangeAt Go.RowKit
theorem implSendPiece (B g pg:Nat) (now:Int) (ps:List (Int×ByteArray)) (d:Cn) (gs n cap:Nat) (xs:List Sg) (k:Int) (h0:0≤now) (h1:now≤1000000000) (hk:k=sizeN d) (hki:IsInt k) (hn:n≤200000) (w_nxt:IsWord d.nxt) (w_mx:IsWord d.mx) (w_oF:IsWord d.oF) (hod:d.oD.size≤1048576) (gd:Good d.iN d.iD d.iR d.pn ps) (w:World) (a:Acts B g pg now ps d gs n cap xs w) :
  Calls Tryz.prog 117 #[.pointer (some ⟨g,0,none⟩),.int .i64 k] w fun e w'=>e=.returned (.tuple #[])∧ActsX B g pg now ps (oneC d now) (xs++[pieceSg d ps]) w'∧Base B w w':=by
 obtain ⟨A,L,P,pa,lo,i,j,l⟩:=a
 have hA:=A.lt
 have hL:=L.lt
 have hLo:=L.low'
 have hP:=P.lt
 have hPo:=P.low'
 have G:Base B w w:=Base.refl (by omega)
 have hsf:=fun wx Rx=>implSegFrom d ps d.nxt gd wx Rx
 unfold fromSg at hsf
 obtain ⟨rm,hrm⟩:∃ q,Hid (q=inRoomN d.iN d.iD d.iR ps):=⟨_,rfl⟩
 rw [← hrm.out] at hsf
 obtain ⟨tk,htke⟩:∃ q,Hid (q=takeT d.oF d.oD d.oR d.nxt k (distI d.oF d.nxt)):=⟨_,rfl⟩
 have htk:=fun wx=>implOutTake d.oF d.oD d.oR d.nxt k (distI d.oF d.nxt) w_oF w_nxt (distI_is _ _) hod hki wx
 rw [← htke.out] at htk
 unfold outVal at htk
 have hlf:=fun wx=>implLeft d w_nxt wx
 obtain ⟨lf,hlfe⟩:∃ q,Hid (q=leftC d):=⟨_,rfl⟩
 rw [← hlfe.out] at hlf
 obtain ⟨b4,hb4⟩:∃ q,Hid (q=(k == lf)):=⟨_,rfl⟩
 obtain ⟨fl,hfl⟩:∃ q:Int,Hid (q=if k=lf then 24 else 16):=⟨_,rfl⟩
 have hps:Hid (pieceSg d ps=⟨0,0,d.nxt,d.iN,fl,rm,0,tk⟩):=by
  show pieceSg d ps=_
  unfold pieceSg
  rw [hfl.out,hrm.out,htke.out,hlfe.out,hk]
 obtain ⟨b6,hb6⟩:∃ q,Hid (q=(d.nxt == d.mx)):=⟨_,rfl⟩
 have hmo:=fun (dd:Cn) gs' n' c' xs' wx ax (hm:IsWord dd.mx)=>implMoveOn B g pg now ps dd gs' n' c' xs' k hm h0 h1 wx ax
 have hone:Hid (oneC d now=wentC (timesC d now) k now):=by
  show oneC d now=_
  unfold oneC
  rw [hk]
 replace hk:Hid _:=hk
 go_enter Tryz.func117,Tryz.ntmps117
 go_upto_region 1 with (fail)
 refine wp_region_tail (wb:=w) 9 (fun i x v=>match i with
   | 0=>v=.pointer (some ⟨g,0,none⟩)
   | 1=>v=.pointer (some ⟨g,0,none⟩)
   | 2=>v=.agg (cnCells d)
   | 3=>v=.pointer (some ⟨g,0,none⟩)
   | 4=>v=.pointer (some ⟨g,0,none⟩)
   | 5=>v=.pointer (some ⟨g,3,none⟩)
   | 6=>v=.int .u32 d.nxt
   | 7=>v=.agg (sgCells ⟨0,0,d.nxt,d.iN,16,rm,0,ByteArray.empty⟩)
   | 8=>BoxB w.heap.size 8 x v
   | _=>True) (fun v=>{tmps:=#[pX g 0,iJ k,U,U,pX g 0,v 8,pX g 0,pX g 0,pX g 0,v 0,v 1,v 2,v 3,v 4,v 5,v 6,v 7,U,U,U,U,U,U,U,U,U,U,U,U,U,U,U,U,U,U,U,U,U,U,U,U,U,U,U,U,U,U,U,U,U,U,U,U,U,U,U,U,U,U,U,U,U,U,U,U,U,U,U,U,U,U,U,U,U,U,U,U,U],defers:=[]}) (by kernel_rfl) (by kernel_rfl) (by kernel_rfl) (Since.refl _) ?_ (fun vals=>by kernel_rfl) ?_ ?_
 case refine_1=>
  intro j x x' v h1 h2
  match j,h2 with
  | 0,h2|1,h2|2,h2|3,h2|4,h2|5,h2|6,h2|7,h2=>exact h2
  | 8,h2=>exact h2.since h1
  | n+9,_=>trivial
 case refine_2=>
  repeat (first|exact eachDoes_nil|refine eachDoes_cons ?_ ?_)
  all_goals intro vals x hx hv
  all_goals simp [Region.binds] at hv
  ·simp [does,doesUpon,go_sem]
   exact ⟨(Since.refl _).alloc _,BoxB.new _ _ _ hx.size rfl⟩
  ·simp [does,doesUpon,go_sem,hv]
   refine (hsf _ ((rd_of pa P).since hx)).mono ?_
   rintro _ x' ⟨rfl,h1⟩
   simp [h1]
  ·have fl0:x.cell? ⟨g,3,none⟩=some (.int .u32 d.nxt):=(A.since hx).cell 3
   simp [does,doesUpon,go_sem,hv,fl0,Since.refl]
  ·simp [does,doesUpon,go_sem,hv,Since.refl]
  ·simp [does,doesUpon,go_sem,hv,Since.refl]
  ·simp [does,doesUpon,go_sem,Since.refl]
  ·exact does_end (A.since hx) _ rfl hv ⟨Since.refl _,rfl⟩
  ·simp [does,doesUpon,go_sem,hv,Since.refl]
  ·simp [does,doesUpon,go_sem,Since.refl]
 case refine_3=>
  intro qv4 qw2 qh3 hv
  have hv0:qv4 0=_:=hv 0 (by decide)
  have hv1:qv4 1=_:=hv 1 (by decide)
  have hv2:qv4 2=_:=hv 2 (by decide)
  have hv3:qv4 3=_:=hv 3 (by decide)
  have hv4:qv4 4=_:=hv 4 (by decide)
  have hv5:qv4 5=_:=hv 5 (by decide)
  have hv6:qv4 6=_:=hv 6 (by decide)
  have hv7:qv4 7=_:=hv 7 (by decide)
  obtain ⟨qx1,hv8,qx1_l,qx1_c,qx1_z,qx1_B⟩:=hv 8 (by decide)
  clear hv
  simp only [hv0,hv1,hv2,hv3,hv4,hv5,hv6,hv7,hv8,List.drop]
  clear hv0 hv1 hv2 hv3 hv4 hv5 hv6 hv7 hv8
  replace A:=A.since qh3
  replace L:=L.since qh3
  replace P:=P.since qh3
  replace G:=G.trans qh3
  have qh3_s:=qh3.size
  have qx1_m:=qx1_B.lt
  refine VL.out ?_
  refine sB (sgCells ⟨0,0,d.nxt,d.iN,16,rm,0,ByteArray.empty⟩) seg_big qx1_B rfl qx1_z (seg_one _ _ _ _ _ _ _ _) ?_
  intro qw5 qt6 qB7
  clear qx1_B
  replace A:=A.touch qt6 (by omega)
  replace L:=L.touch qt6 (by omega)
  replace P:=P.touch qt6 (by omega)
  replace G:=G.touch qt6 (by omega)
  have qt6_s:=qt6.size
  refine vE #[pX g 0,iJ k,U,U,pX g 0,pX qx1 0,pX g 0,pX g 0,pX g 0,pX g 0,pX g 0,.agg (cnCells d),pX g 0,pX g 0,pX g 3,uJ d.nxt,.agg (sgCells ⟨0,0,d.nxt,d.iN,16,rm,0,ByteArray.empty⟩),U,U,U,U,U,U,U,U,U,U,U,U,U,U,U,U,U,U,U,U,U,U,U,U,U,U,U,U,U,U,U,U,U,U,U,U,U,U,U,U,U,U,U,U,U,U,U,U,U,U,U,U,U,U,U,U,U,U,U,U,U] ?_
  go_upto_region 2 with (fail)
  refine wp_region_tail (wb:=qw5) 11 (fun i x v=>match i with
    | 0=>v=.pointer (some ⟨g,0,none⟩)
    | 1=>v=.pointer (some ⟨g,0,none⟩)
    | 2=>v=.pointer (some ⟨g,8,none⟩)
    | 3=>v=.agg #[.int .u32 d.oF,.string d.oD,.int .i64 d.oR]
    | 4=>v=.pointer (some ⟨g,0,none⟩)
    | 5=>v=.pointer (some ⟨g,0,none⟩)
    | 6=>v=.pointer (some ⟨g,3,none⟩)
    | 7=>v=.int .u32 d.nxt
    | 8=>v=.int .i64 k
    | 9=>v=.string tk
    | 10=>v=.pointer (some ⟨qx1,7,none⟩)
    | _=>True) (fun v=>{tmps:=#[pX g 0,iJ k,U,U,pX g 0,pX qx1 0,pX g 0,pX g 0,pX g 0,pX g 0,pX g 0,.agg (cnCells d),pX g 0,pX g 0,pX g 3,uJ d.nxt,.agg (sgCells ⟨0,0,d.nxt,d.iN,16,rm,0,ByteArray.empty⟩),v 0,v 1,v 2,v 3,v 4,v 5,v 6,v 7,v 8,v 9,v 10,U,U,U,U,U,U,U,U,U,U,U,U,U,U,U,U,U,U,U,U,U,U,U,U,U,U,U,U,U,U,U,U,U,U,U,U,U,U,U,U,U,U,U,U,U,U,U,U,U,U],defers:=[]}) (by kernel_rfl) (by kernel_rfl) (by kernel_rfl) (Since.refl _) ?_ (fun vals=>by kernel_rfl) ?_ ?_
  case refine_1=>
   intro j x x' v h1 h2
   match j,h2 with
   | 0,h2|1,h2|2,h2|3,h2|4,h2|5,h2|6,h2|7,h2|8,h2|9,h2|10,h2=>exact h2
   | n+11,_=>trivial
  case refine_2=>
   repeat (first|exact eachDoes_nil|refine eachDoes_cons ?_ ?_)
   all_goals intro vals x hx hv
   all_goals simp [Region.binds] at hv
   ·simp [does,doesUpon,go_sem,Since.refl]
   ·simp [does,doesUpon,go_sem,hv]
    refine (htk _).mono ?_
    rintro _ x' ⟨rfl,h1⟩
    simp [h1]
   ·simp [does,doesUpon,go_sem,Since.refl]
   ·have fl0:x.cell? ⟨g,3,none⟩=some (.int .u32 d.nxt):=(A.since hx).cell 3
    simp [does,doesUpon,go_sem,hv,fl0,Since.refl]
   ·simp [does,doesUpon,go_sem,hv,Since.refl]
   ·simp [does,doesUpon,go_sem,hv,Since.refl]
   ·simp [does,doesUpon,go_sem,Since.refl]
   ·exact does_part_load (A.since hx) pOut_big _ rfl 8 hv [.int .u32 d.oF,.string d.oD,.int .i64 d.oR] rfl (fun j v hj=>by match j,hj with|0,h=>exact h|1,h=>exact h|2,h=>exact h|n+3,h=>exact absurd h (by simp)) ⟨Since.refl _,rfl⟩
   ·simp [does,doesUpon,go_sem,hv,Since.refl]
   ·simp [does,doesUpon,go_sem,hv,Since.refl]
   ·simp [does,doesUpon,go_sem,Since.refl]
  case refine_3=>
   intro qv10 qw8 qh9 hv
   have hv0:qv10 0=_:=hv 0 (by decide)
   have hv1:qv10 1=_:=hv 1 (by decide)
   have hv2:qv10 2=_:=hv 2 (by decide)
   have hv3:qv10 3=_:=hv 3 (by decide)
   have hv4:qv10 4=_:=hv 4 (by decide)
   have hv5:qv10 5=_:=hv 5 (by decide)
   have hv6:qv10 6=_:=hv 6 (by decide)
   have hv7:qv10 7=_:=hv 7 (by decide)
   have hv8:qv10 8=_:=hv 8 (by decide)
   have hv9:qv10 9=_:=hv 9 (by decide)
   have hv10:qv10 10=_:=hv 10 (by decide)
   clear hv
   simp only [hv0,hv1,hv2,hv3,hv4,hv5,hv6,hv7,hv8,hv9,hv10,List.drop]
   clear hv0 hv1 hv2 hv3 hv4 hv5 hv6 hv7 hv8 hv9 hv10
   replace A:=A.since qh9
   replace qB7:=qB7.since qh9
   replace L:=L.since qh9
   replace P:=P.since qh9
   replace G:=G.trans qh9
   have qh9_s:=qh9.size
   refine VL.out ?_
   refine sC (sgCells ⟨0,0,d.nxt,d.iN,16,rm,0,tk⟩) qB7 7 (.string tk) rfl ?_
   intro qw11 qt12 qB13
   clear qB7
   replace A:=A.touch qt12 (by omega)
   replace L:=L.touch qt12 (by omega)
   replace P:=P.touch qt12 (by omega)
   replace G:=G.touch qt12 (by omega)
   have qt12_s:=qt12.size
   refine vE #[pX g 0,iJ k,U,U,pX g 0,pX qx1 0,pX g 0,pX g 0,pX g 0,pX g 0,pX g 0,.agg (cnCells d),pX g 0,pX g 0,pX g 3,uJ d.nxt,.agg (sgCells ⟨0,0,d.nxt,d.iN,16,rm,0,ByteArray.empty⟩),pX g 0,pX g 0,pX g 8,.agg #[uJ d.oF,.string d.oD,iJ d.oR],pX g 0,pX g 0,pX g 3,uJ d.nxt,iJ k,.string tk,pX qx1 7,U,U,U,U,U,U,U,U,U,U,U,U,U,U,U,U,U,U,U,U,U,U,U,U,U,U,U,U,U,U,U,U,U,U,U,U,U,U,U,U,U,U,U,U,U,U,U,U,U,U] ?_
   go_upto_region 3 with (fail)
   refine vR ?_
   refine vV (iJ k) ?_
   refine vV (pX g 0) ?_
   refine vV (pX g 0) ?_
   refine VL.mk (want_end A (by kernel_rfl) _ rfl (by kernel_rfl) (VL.out ?_))
   refine vK (hlf _) ?_
   intro qw14 qg15
   replace A:=A.since qg15
   replace qB13:=qB13.since qg15
   replace L:=L.since qg15
   replace P:=P.since qg15
   replace G:=G.trans qg15
   have qg15_s:=qg15.size
   refine vV (.bool b4) ?_ (hrun:=by rw [hb4.out];kernel_rfl)
   refine vE #[pX g 0,iJ k,U,U,pX g 0,pX qx1 0,pX g 0,pX g 0,pX g 0,pX g 0,pX g 0,.agg (cnCells d),pX g 0,pX g 0,pX g 3,uJ d.nxt,.agg (sgCells ⟨0,0,d.nxt,d.iN,16,rm,0,ByteArray.empty⟩),pX g 0,pX g 0,pX g 8,.agg #[uJ d.oF,.string d.oD,iJ d.oR],pX g 0,pX g 0,pX g 3,uJ d.nxt,iJ k,.string tk,pX qx1 7,iJ k,pX g 0,pX g 0,.agg (cnCells d),iJ lf,.bool b4,U,U,U,U,U,U,U,U,U,U,U,U,U,U,U,U,U,U,U,U,U,U,U,U,U,U,U,U,U,U,U,U,U,U,U,U,U,U,U,U,U,U,U,U] ?_
   cases b4
   case false=>
    have hfe:Hid (pieceSg d ps=⟨0,0,d.nxt,d.iN,16,rm,0,tk⟩):=by
     show _=_
     have:=hb4.out
     rw [hps.out,hfl.out,if_neg (by simpa using this.symm)]
    go_upto_region 5 with (fail)
    refine vR ?_
    refine vV (pX g 0) ?_
    refine vB seg_big qB13 rfl ?_
    refine vW (qw14.alloc (.cells (sgCells ⟨0,0,d.nxt,d.iN,16,rm,0,tk⟩) 41)) (.slice (some ⟨qw14.heap.size,0,none⟩) 1 1) ?_
    have qL17:=heldG1 qw14 (⟨0,0,d.nxt,d.iN,16,rm,0,tk⟩)
    have qg18:=(Since.refl qw14).alloc (.cells (sgCells ⟨0,0,d.nxt,d.iN,16,rm,0,tk⟩) 41)
    replace A:=A.since qg18
    replace qB13:=qB13.since qg18
    replace L:=L.since qg18
    replace P:=P.since qg18
    replace G:=G.trans qg18
    generalize qw14.alloc (.cells (sgCells ⟨0,0,d.nxt,d.iN,16,rm,0,tk⟩) 41)=qw16 at A qB13 L P G qL17 qg18 ⊢
    have qg18_s:=qg18.size
    have qL17_l:=qL17.lt
    refine vC (implSends _ _ _ _ _ _ _ _ _ _ ⟨0,0,d.nxt,d.iN,16,rm,0,tk⟩ _ hn _ ⟨A,L,P,pa,lo,(by omega),(by omega),(by omega)⟩ (qL17.raise (by omega)) (by omega)) ?_
    rintro _ qw19 ⟨rfl,⟨gsqk21,nqk21,cqk21,⟨Aqk21,Lqk21,Pqk21,paqk21,loqk21,iqk21,jqk21,lqk21⟩⟩,qh20⟩
    refine ⟨_,rfl,?_⟩
    clear A L P
    clear qB13
    replace G:=G.base qh20
    have qh20_s:=qh20.size
    have Aqk21_l:=Aqk21.lt
    have Lqk21_l:=Lqk21.lt
    have Lqk21_o:=Lqk21.low'
    have Pqk21_l:=Pqk21.lt
    refine vE #[pX g 0,iJ k,U,U,pX g 0,pX qx1 0,pX g 0,pX g 0,pX g 0,pX g 0,pX g 0,.agg (cnCells d),pX g 0,pX g 0,pX g 3,uJ d.nxt,.agg (sgCells ⟨0,0,d.nxt,d.iN,16,rm,0,ByteArray.empty⟩),pX g 0,pX g 0,pX g 8,.agg #[uJ d.oF,.string d.oD,iJ d.oR],pX g 0,pX g 0,pX g 3,uJ d.nxt,iJ k,.string tk,pX qx1 7,iJ k,pX g 0,pX g 0,.agg (cnCells d),iJ lf,bF,U,U,U,U,pX g 0,.agg (sgCells ⟨0,0,d.nxt,d.iN,16,rm,0,tk⟩),.slice (some ⟨qw14.heap.size,0,none⟩) 1 1,.tuple #[],U,U,U,U,U,U,U,U,U,U,U,U,U,U,U,U,U,U,U,U,U,U,U,U,U,U,U,U,U,U,U,U,U,U,U,U] ?_
    rw [← hfe.out] at Lqk21
    clear hfe
    go_upto_region 6 with (fail)
    rcases Bool.eq_false_or_eq_true d.tmg with htm|htm
    all_goals replace htm:Hid _:=htm
    case inl=>
     refine wp_region_qs (wb:=qw19) (by kernel_rfl) (by kernel_rfl) (Since.refl _) ?_
     refine qV (pX g 0) ?_
     refine qV (pX g 0) ?_
     refine qV (pX g 28) ?_
     refine qC ⟨g,28,none⟩ (bT) (fun y hy=>((Aqk21.since hy).cell 28).trans (by show some (.bool d.tmg:Value)=some (bT:Value);rw [htm.out])) ?_
     refine qV (bF) ?_
     refine qV (bF) ?_
     refine qS ?_
     refine qS ?_
     refine qS ?_
     refine qS ?_
     refine qS ?_
     refine qS ?_
     refine qS ?_
     refine qS ?_
     refine qS ?_
     refine qV (bF) ?_
     refine q_frame (a':={tmps:=#[pX g 0,iJ k,U,U,pX g 0,pX qx1 0,pX g 0,pX g 0,pX g 0,pX g 0,pX g 0,.agg (cnCells d),pX g 0,pX g 0,pX g 3,uJ d.nxt,.agg (sgCells ⟨0,0,d.nxt,d.iN,16,rm,0,ByteArray.empty⟩),pX g 0,pX g 0,pX g 8,.agg #[uJ d.oF,.string d.oD,iJ d.oR],pX g 0,pX g 0,pX g 3,uJ d.nxt,iJ k,.string tk,pX qx1 7,iJ k,pX g 0,pX g 0,.agg (cnCells d),iJ lf,bF,U,U,U,U,pX g 0,.agg (sgCells ⟨0,0,d.nxt,d.iN,16,rm,0,tk⟩),.slice (some ⟨qw14.heap.size,0,none⟩) 1 1,.tuple #[],pX g 0,pX g 0,pX g 28,bT,bF,bF,U,U,U,U,U,U,U,U,U,bF,U,U,U,U,U,U,U,U,U,U,U,U,U,U,U,U,U,U,U,U],defers:=[]}) (by kernel_rfl) ?_
     refine q_nil ?_
     intro qw22 qh23
     replace Aqk21:=Aqk21.since qh23
     replace Lqk21:=Lqk21.since qh23
     replace Pqk21:=Pqk21.since qh23
     replace G:=G.trans qh23
     have qh23_s:=qh23.size
     have ht:Hid (timesC d now=d):=by
      show timesC d now=_
      unfold timesC timesB
      rw [htm.out];rfl
     go_upto_region 8 with (fail)
     refine vR ?_
     refine vV (pX g 0) ?_
     refine vV (iJ k) ?_
     refine vC (hmo _ _ _ _ _ _ ⟨Aqk21,Lqk21,Pqk21,paqk21,loqk21,(by omega),(by omega),(by omega)⟩ w_mx) ?_
     rintro _ qw24 ⟨rfl,⟨gsqk26,nqk26,cqk26,⟨Aqk26,Lqk26,Pqk26,paqk26,loqk26,iqk26,jqk26,lqk26⟩⟩,qh25⟩
     refine ⟨_,rfl,?_⟩
     clear Aqk21 Lqk21 Pqk21
     replace G:=G.base qh25
     have qh25_s:=qh25.size
     have Aqk26_l:=Aqk26.lt
     have Lqk26_l:=Lqk26.lt
     have Lqk26_o:=Lqk26.low'
     have Pqk26_l:=Pqk26.lt
     refine vE #[pX g 0,iJ k,U,U,pX g 0,pX qx1 0,pX g 0,pX g 0,pX g 0,pX g 0,pX g 0,.agg (cnCells d),pX g 0,pX g 0,pX g 3,uJ d.nxt,.agg (sgCells ⟨0,0,d.nxt,d.iN,16,rm,0,ByteArray.empty⟩),pX g 0,pX g 0,pX g 8,.agg #[uJ d.oF,.string d.oD,iJ d.oR],pX g 0,pX g 0,pX g 3,uJ d.nxt,iJ k,.string tk,pX qx1 7,iJ k,pX g 0,pX g 0,.agg (cnCells d),iJ lf,bF,U,U,U,U,pX g 0,.agg (sgCells ⟨0,0,d.nxt,d.iN,16,rm,0,tk⟩),.slice (some ⟨qw14.heap.size,0,none⟩) 1 1,.tuple #[],pX g 0,pX g 0,pX g 28,bT,bF,bF,U,U,U,U,U,U,U,U,U,bF,U,U,U,U,U,U,U,U,U,U,U,U,U,U,U,U,U,pX g 0,iJ k,.tuple #[]] ?_
     go_wp2_with (fail)
     refine bodyPost_end (v:=.tuple #[]) (results_none rfl _ _ _) rfl ⟨rfl,?_,G⟩
     rw [hone.out,ht.out]
     exact ⟨_,_,_,⟨Aqk26,Lqk26,Pqk26,paqk26,loqk26,(by omega),(by omega),(by omega)⟩⟩
    case inr=>
     cases b6
     case false=>
      refine wp_region_qs (wb:=qw19) (by kernel_rfl) (by kernel_rfl) (Since.refl _) ?_
      refine qV (pX g 0) ?_
      refine qV (pX g 0) ?_
      refine qV (pX g 28) ?_
      refine qC ⟨g,28,none⟩ (bF) (fun y hy=>((Aqk21.since hy).cell 28).trans (by show some (.bool d.tmg:Value)=some (bF:Value);rw [htm.out])) ?_
      refine qV (bT) ?_
      refine qV (bT) ?_
      refine qV (pX g 0) ?_
      refine qV (pX g 0) ?_
      refine qV (pX g 3) ?_
      refine qC ⟨g,3,none⟩ (uJ d.nxt) (fun y hy=>(Aqk21.since hy).cell 3) ?_
      refine qV (pX g 0) ?_
      refine qV (pX g 0) ?_
      refine qV (pX g 4) ?_
      refine qC ⟨g,4,none⟩ (uJ d.mx) (fun y hy=>(Aqk21.since hy).cell 4) ?_
      refine q_val (by kernel_rfl) (.bool false) (fun x hx=>by rw [show false=(d.nxt == d.mx) from hb6.out];kernel_rfl) ?_
      refine qV (bF) ?_
      refine q_frame (a':={tmps:=#[pX g 0,iJ k,U,U,pX g 0,pX qx1 0,pX g 0,pX g 0,pX g 0,pX g 0,pX g 0,.agg (cnCells d),pX g 0,pX g 0,pX g 3,uJ d.nxt,.agg (sgCells ⟨0,0,d.nxt,d.iN,16,rm,0,ByteArray.empty⟩),pX g 0,pX g 0,pX g 8,.agg #[uJ d.oF,.string d.oD,iJ d.oR],pX g 0,pX g 0,pX g 3,uJ d.nxt,iJ k,.string tk,pX qx1 7,iJ k,pX g 0,pX g 0,.agg (cnCells d),iJ lf,bF,U,U,U,U,pX g 0,.agg (sgCells ⟨0,0,d.nxt,d.iN,16,rm,0,tk⟩),.slice (some ⟨qw14.heap.size,0,none⟩) 1 1,.tuple #[],pX g 0,pX g 0,pX g 28,bF,bT,bT,pX g 0,pX g 0,pX g 3,uJ d.nxt,pX g 0,pX g 0,pX g 4,uJ d.mx,bF,bF,U,U,U,U,U,U,U,U,U,U,U,U,U,U,U,U,U,U,U,U],defers:=[]}) (by kernel_rfl) ?_
      refine q_nil ?_
      intro qw22 qh23
      replace Aqk21:=Aqk21.since qh23
      replace Lqk21:=Lqk21.since qh23
      replace Pqk21:=Pqk21.since qh23
      replace G:=G.trans qh23
      have qh23_s:=qh23.size
      have ht:Hid (timesC d now=d):=by
       show timesC d now=_
       unfold timesC timesB
       have:=hb6.out;rw [htm.out,if_neg];intro h;simp at h;simp [h] at this
      go_upto_region 8 with (fail)
      refine vR ?_
      refine vV (pX g 0) ?_
      refine vV (iJ k) ?_
      refine vC (hmo _ _ _ _ _ _ ⟨Aqk21,Lqk21,Pqk21,paqk21,loqk21,(by omega),(by omega),(by omega)⟩ w_mx) ?_
      rintro _ qw24 ⟨rfl,⟨gsqk26,nqk26,cqk26,⟨Aqk26,Lqk26,Pqk26,paqk26,loqk26,iqk26,jqk26,lqk26⟩⟩,qh25⟩
      refine ⟨_,rfl,?_⟩
      clear Aqk21 Lqk21 Pqk21
      replace G:=G.base qh25
      have qh25_s:=qh25.size
      have Aqk26_l:=Aqk26.lt
      have Lqk26_l:=Lqk26.lt
      have Lqk26_o:=Lqk26.low'
      have Pqk26_l:=Pqk26.lt
      refine vE #[pX g 0,iJ k,U,U,pX g 0,pX qx1 0,pX g 0,pX g 0,pX g 0,pX g 0,pX g 0,.agg (cnCells d),pX g 0,pX g 0,pX g 3,uJ d.nxt,.agg (sgCells ⟨0,0,d.nxt,d.iN,16,rm,0,ByteArray.empty⟩),pX g 0,pX g 0,pX g 8,.agg #[uJ d.oF,.string d.oD,iJ d.oR],pX g 0,pX g 0,pX g 3,uJ d.nxt,iJ k,.string tk,pX qx1 7,iJ k,pX g 0,pX g 0,.agg (cnCells d),iJ lf,bF,U,U,U,U,pX g 0,.agg (sgCells ⟨0,0,d.nxt,d.iN,16,rm,0,tk⟩),.slice (some ⟨qw14.heap.size,0,none⟩) 1 1,.tuple #[],pX g 0,pX g 0,pX g 28,bF,bT,bT,pX g 0,pX g 0,pX g 3,uJ d.nxt,pX g 0,pX g 0,pX g 4,uJ d.mx,bF,bF,U,U,U,U,U,U,U,U,U,U,U,U,U,U,U,U,U,pX g 0,iJ k,.tuple #[]] ?_
      go_wp2_with (fail)
      refine bodyPost_end (v:=.tuple #[]) (results_none rfl _ _ _) rfl ⟨rfl,?_,G⟩
      rw [hone.out,ht.out]
      exact ⟨_,_,_,⟨Aqk26,Lqk26,Pqk26,paqk26,loqk26,(by omega),(by omega),(by omega)⟩⟩
     case true=>
      refine wp_region_qs (wb:=qw19) (by kernel_rfl) (by kernel_rfl) (Since.refl _) ?_
      refine qV (pX g 0) ?_
      refine qV (pX g 0) ?_
      refine qV (pX g 28) ?_
      refine qC ⟨g,28,none⟩ (bF) (fun y hy=>((Aqk21.since hy).cell 28).trans (by show some (.bool d.tmg:Value)=some (bF:Value);rw [htm.out])) ?_
      refine qV (bT) ?_
      refine qV (bT) ?_
      refine qV (pX g 0) ?_
      refine qV (pX g 0) ?_
      refine qV (pX g 3) ?_
      refine qC ⟨g,3,none⟩ (uJ d.nxt) (fun y hy=>(Aqk21.since hy).cell 3) ?_
      refine qV (pX g 0) ?_
      refine qV (pX g 0) ?_
      refine qV (pX g 4) ?_
      refine qC ⟨g,4,none⟩ (uJ d.mx) (fun y hy=>(Aqk21.since hy).cell 4) ?_
      refine q_val (by kernel_rfl) (.bool true) (fun x hx=>by rw [show true=(d.nxt == d.mx) from hb6.out];kernel_rfl) ?_
      refine qV (bT) ?_
      refine q_frame (a':={tmps:=#[pX g 0,iJ k,U,U,pX g 0,pX qx1 0,pX g 0,pX g 0,pX g 0,pX g 0,pX g 0,.agg (cnCells d),pX g 0,pX g 0,pX g 3,uJ d.nxt,.agg (sgCells ⟨0,0,d.nxt,d.iN,16,rm,0,ByteArray.empty⟩),pX g 0,pX g 0,pX g 8,.agg #[uJ d.oF,.string d.oD,iJ d.oR],pX g 0,pX g 0,pX g 3,uJ d.nxt,iJ k,.string tk,pX qx1 7,iJ k,pX g 0,pX g 0,.agg (cnCells d),iJ lf,bF,U,U,U,U,pX g 0,.agg (sgCells ⟨0,0,d.nxt,d.iN,16,rm,0,tk⟩),.slice (some ⟨qw14.heap.size,0,none⟩) 1 1,.tuple #[],pX g 0,pX g 0,pX g 28,bF,bT,bT,pX g 0,pX g 0,pX g 3,uJ d.nxt,pX g 0,pX g 0,pX g 4,uJ d.mx,bT,bT,U,U,U,U,U,U,U,U,U,U,U,U,U,U,U,U,U,U,U,U],defers:=[]}) (by kernel_rfl) ?_
      refine q_nil ?_
      intro qw22 qh23
      replace Aqk21:=Aqk21.since qh23
      replace Lqk21:=Lqk21.since qh23
      replace Pqk21:=Pqk21.since qh23
      replace G:=G.trans qh23
      have qh23_s:=qh23.size
      go_upto_region 7 with (fail)
      have hJ0:TimJ g d now (.slice (some ⟨gsqk21,0,none⟩) nqk21 cqk21) qw22:=⟨d.tmg,d.tsq,d.tat,Aqk21⟩
      refine wp_region_keepF (wb:=qw22) g (TimJ g d now (.slice (some ⟨gsqk21,0,none⟩) nqk21 cqk21)) (TimI g d now (.slice (some ⟨gsqk21,0,none⟩) nqk21 cqk21)) TimJ.since TimI.since (fun i x v=>match i with
        | 0=>v=.pointer (some ⟨g,0,none⟩)
        | 1=>v=.pointer (some ⟨g,0,none⟩)
        | 2=>v=.pointer (some ⟨g,0,none⟩)
        | 3=>v=.pointer (some ⟨g,0,none⟩)
        | 4=>v=.pointer (some ⟨g,0,none⟩)
        | 5=>v=.pointer (some ⟨g,3,none⟩)
        | 6=>v=.int .u32 d.nxt
        | 7=>v=.pointer (some ⟨g,0,none⟩)
        | 8=>v=.pointer (some ⟨g,0,none⟩)
        | 9=>v=.pointer (some ⟨g,37,none⟩)
        | 10=>v=.int .i64 now
        | 11=>v=.pointer (some ⟨g,0,none⟩)
        | 12=>v=.pointer (some ⟨g,28,none⟩)
        | 14=>v=.pointer (some ⟨g,0,none⟩)
        | 15=>v=.pointer (some ⟨g,29,none⟩)
        | 17=>v=.pointer (some ⟨g,0,none⟩)
        | 18=>v=.pointer (some ⟨g,30,none⟩)
        | 13=>TimI g d now (.slice (some ⟨gsqk21,0,none⟩) nqk21 cqk21) 0 x
        | 16=>TimI g d now (.slice (some ⟨gsqk21,0,none⟩) nqk21 cqk21) 1 x
        | 19=>TimI g d now (.slice (some ⟨gsqk21,0,none⟩) nqk21 cqk21) 2 x
        | _=>True) (fun v=>{tmps:=#[pX g 0,iJ k,U,U,pX g 0,pX qx1 0,pX g 0,pX g 0,pX g 0,pX g 0,pX g 0,.agg (cnCells d),pX g 0,pX g 0,pX g 3,uJ d.nxt,.agg (sgCells ⟨0,0,d.nxt,d.iN,16,rm,0,ByteArray.empty⟩),pX g 0,pX g 0,pX g 8,.agg #[uJ d.oF,.string d.oD,iJ d.oR],pX g 0,pX g 0,pX g 3,uJ d.nxt,iJ k,.string tk,pX qx1 7,iJ k,pX g 0,pX g 0,.agg (cnCells d),iJ lf,bF,U,U,U,U,pX g 0,.agg (sgCells ⟨0,0,d.nxt,d.iN,16,rm,0,tk⟩),.slice (some ⟨qw14.heap.size,0,none⟩) 1 1,.tuple #[],pX g 0,pX g 0,pX g 28,bF,bT,bT,pX g 0,pX g 0,pX g 3,uJ d.nxt,pX g 0,pX g 0,pX g 4,uJ d.mx,bT,bT,v 0,v 1,v 2,v 3,v 4,v 5,v 6,v 7,v 8,v 9,v 10,v 11,v 12,v 14,v 15,v 17,v 18,U,U,U],defers:=[]}) (by kernel_rfl) (by kernel_rfl) (by kernel_rfl) (KeepF.refl _ _ _ _) ?_ (fun vals=>by kernel_rfl) ?_ ?_
      case refine_1=>
       intro j x y v h1 h2
       match j,h2 with
       | 13,h2|16,h2|19,h2=>exact h1.i _ h2
       | 0,h2|1,h2|2,h2|3,h2|4,h2|5,h2|6,h2|7,h2|8,h2|9,h2|10,h2|11,h2|12,h2|14,h2|15,h2|17,h2|18,h2=>exact h2
       | n+20,_=>trivial
      case refine_2=>
       repeat (first|exact eachDoesR_nil|refine eachDoesR_cons ?_ ?_)
       all_goals intro vals x hx hv
       all_goals simp [Region.binds] at hv
       ·obtain ⟨t,q,s,B0⟩:=hx.j hJ0
        have ea:vals 18=.pointer (some ⟨g,30,none⟩):=by simp_all
        have es:vals 10=.int .i64 now:=by simp_all
        refine does_cell_store (cs':=actCells (timC d t q now) now (.slice (some ⟨gsqk21,0,none⟩) nqk21 cqk21)) B0 _ _ _ rfl 30 ea (.int .i64 now) es rfl (by kernel_rfl) (by rw [act_size];decide) rfl ?_
        intro z tz Bz
        refine ⟨⟨tz,fun _=>⟨_,_,_,Bz⟩,?_⟩,⟨_,_,_,Bz,by intros;first|rfl|omega,by intros;first|rfl|omega,by intros;first|rfl|omega⟩⟩
        rintro m ⟨t',q',s',B1,c0,c1,c2⟩
        obtain ⟨rfl,rfl,rfl⟩:=tim_inj B0 B1
        exact ⟨_,_,_,Bz,by first|exact c0|(intros;rfl),by first|exact c1|(intros;rfl),by first|exact c2|(intros;rfl)⟩
       ·simp [does,doesUpon,go_sem,hv,KeepF.refl]
       ·simp [does,doesUpon,go_sem,hv,KeepF.refl]
       ·obtain ⟨t,q,s,B0⟩:=hx.j hJ0
        have ea:vals 15=.pointer (some ⟨g,29,none⟩):=by simp_all
        have es:vals 6=.int .u32 d.nxt:=by simp_all
        refine does_cell_store (cs':=actCells (timC d t d.nxt s) now (.slice (some ⟨gsqk21,0,none⟩) nqk21 cqk21)) B0 _ _ _ rfl 29 ea (.int .u32 d.nxt) es rfl (by kernel_rfl) (by rw [act_size];decide) rfl ?_
        intro z tz Bz
        refine ⟨⟨tz,fun _=>⟨_,_,_,Bz⟩,?_⟩,⟨_,_,_,Bz,by intros;first|rfl|omega,by intros;first|rfl|omega,by intros;first|rfl|omega⟩⟩
        rintro m ⟨t',q',s',B1,c0,c1,c2⟩
        obtain ⟨rfl,rfl,rfl⟩:=tim_inj B0 B1
        exact ⟨_,_,_,Bz,by first|exact c0|(intros;rfl),by first|exact c1|(intros;rfl),by first|exact c2|(intros;rfl)⟩
       ·simp [does,doesUpon,go_sem,hv,KeepF.refl]
       ·simp [does,doesUpon,go_sem,hv,KeepF.refl]
       ·obtain ⟨t,q,s,B0⟩:=hx.j hJ0
        have ea:vals 12=.pointer (some ⟨g,28,none⟩):=by simp_all
        refine does_cell_store (cs':=actCells (timC d true q s) now (.slice (some ⟨gsqk21,0,none⟩) nqk21 cqk21)) B0 _ _ _ rfl 28 ea (.bool true) rfl rfl (by kernel_rfl) (by rw [act_size];decide) rfl ?_
        intro z tz Bz
        refine ⟨⟨tz,fun _=>⟨_,_,_,Bz⟩,?_⟩,⟨_,_,_,Bz,by intros;first|rfl|omega,by intros;first|rfl|omega,by intros;first|rfl|omega⟩⟩
        rintro m ⟨t',q',s',B1,c0,c1,c2⟩
        obtain ⟨rfl,rfl,rfl⟩:=tim_inj B0 B1
        exact ⟨_,_,_,Bz,by first|exact c0|(intros;rfl),by first|exact c1|(intros;rfl),by first|exact c2|(intros;rfl)⟩
       ·simp [does,doesUpon,go_sem,hv,KeepF.refl]
       ·simp [does,doesUpon,go_sem,hv,KeepF.refl]
       ·obtain ⟨t,q,s,B0⟩:=hx.j hJ0
        have fl0:x.cell? ⟨g,37,none⟩=some (.int .i64 now):=B0.cell 37
        simp [does,doesUpon,go_sem,hv,fl0,KeepF.refl]
       ·simp [does,doesUpon,go_sem,hv,KeepF.refl]
       ·simp [does,doesUpon,go_sem,hv,KeepF.refl]
       ·simp [does,doesUpon,go_sem,KeepF.refl]
       ·obtain ⟨t,q,s,B0⟩:=hx.j hJ0
        have fl0:x.cell? ⟨g,3,none⟩=some (.int .u32 d.nxt):=B0.cell 3
        simp [does,doesUpon,go_sem,hv,fl0,KeepF.refl]
       ·simp [does,doesUpon,go_sem,hv,KeepF.refl]
       ·simp [does,doesUpon,go_sem,hv,KeepF.refl]
       ·simp [does,doesUpon,go_sem,KeepF.refl]
       ·simp [does,doesUpon,go_sem,KeepF.refl]
       ·simp [does,doesUpon,go_sem,KeepF.refl]
       ·simp [does,doesUpon,go_sem,KeepF.refl]
      case refine_3=>
       intro qv26 qw24 qh25 hv
       obtain ⟨t,q,s,B0,c0,-,-⟩:=hv 13 (by decide)
       obtain ⟨t',q',s',B1,-,c1,-⟩:=hv 16 (by decide)
       obtain ⟨t2,q2,s2,B2,-,-,c2⟩:=hv 19 (by decide)
       obtain ⟨rfl,rfl,rfl⟩:=tim_inj B0 B1
       obtain ⟨rfl,rfl,rfl⟩:=tim_inj B0 B2
       obtain rfl:=c0 rfl
       have e1:=c1 rfl
       have e2:=c2 rfl
       rw [e1,e2] at B0
       clear B1 B2 c1 c2 e1 e2 c0
       have hv0:qv26 0=_:=hv 0 (by decide)
       have hv1:qv26 1=_:=hv 1 (by decide)
       have hv2:qv26 2=_:=hv 2 (by decide)
       have hv3:qv26 3=_:=hv 3 (by decide)
       have hv4:qv26 4=_:=hv 4 (by decide)
       have hv5:qv26 5=_:=hv 5 (by decide)
       have hv6:qv26 6=_:=hv 6 (by decide)
       have hv7:qv26 7=_:=hv 7 (by decide)
       have hv8:qv26 8=_:=hv 8 (by decide)
       have hv9:qv26 9=_:=hv 9 (by decide)
       have hv10:qv26 10=_:=hv 10 (by decide)
       have hv11:qv26 11=_:=hv 11 (by decide)
       have hv12:qv26 12=_:=hv 12 (by decide)
       have hv14:qv26 14=_:=hv 14 (by decide)
       have hv15:qv26 15=_:=hv 15 (by decide)
       have hv17:qv26 17=_:=hv 17 (by decide)
       have hv18:qv26 18=_:=hv 18 (by decide)
       clear hv
       simp only [hv0,hv1,hv2,hv3,hv4,hv5,hv6,hv7,hv8,hv9,hv10,hv11,hv12,hv14,hv15,hv17,hv18]
       clear hv0 hv1 hv2 hv3 hv4 hv5 hv6 hv7 hv8 hv9 hv10 hv11 hv12 hv14 hv15 hv17 hv18
       have hT:=qh25.touch
       clear Aqk21
       replace Lqk21:=Lqk21.touch hT (by omega)
       replace Pqk21:=Pqk21.touch hT (by omega)
       replace G:=G.touch hT (by omega)
       have hT_s:=hT.size
       have ht:Hid (timesC d now={d with tmg:=true,tsq:=d.nxt,tat:=now}):=by
        show timesC d now=_
        unfold timesC timesB
        have:=hb6.out;rw [htm.out,if_pos];simpa using this.symm
       go_upto_region 8 with (fail)
       refine vR ?_
       refine vV (pX g 0) ?_
       refine vV (iJ k) ?_
       refine vC (hmo _ _ _ _ _ _ ⟨B0,Lqk21,Pqk21,paqk21,loqk21,(by omega),(by omega),(by omega)⟩ w_mx) ?_
       rintro _ qw27 ⟨rfl,⟨gsqk29,nqk29,cqk29,⟨Aqk29,Lqk29,Pqk29,paqk29,loqk29,iqk29,jqk29,lqk29⟩⟩,qh28⟩
       refine ⟨_,rfl,?_⟩
       clear B0 Lqk21 Pqk21
       replace G:=G.base qh28
       have qh28_s:=qh28.size
       have Aqk29_l:=Aqk29.lt
       have Lqk29_l:=Lqk29.lt
       have Lqk29_o:=Lqk29.low'
       have Pqk29_l:=Pqk29.lt
       refine vE #[pX g 0,iJ k,U,U,pX g 0,pX qx1 0,pX g 0,pX g 0,pX g 0,pX g 0,pX g 0,.agg (cnCells d),pX g 0,pX g 0,pX g 3,uJ d.nxt,.agg (sgCells ⟨0,0,d.nxt,d.iN,16,rm,0,ByteArray.empty⟩),pX g 0,pX g 0,pX g 8,.agg #[uJ d.oF,.string d.oD,iJ d.oR],pX g 0,pX g 0,pX g 3,uJ d.nxt,iJ k,.string tk,pX qx1 7,iJ k,pX g 0,pX g 0,.agg (cnCells d),iJ lf,bF,U,U,U,U,pX g 0,.agg (sgCells ⟨0,0,d.nxt,d.iN,16,rm,0,tk⟩),.slice (some ⟨qw14.heap.size,0,none⟩) 1 1,.tuple #[],pX g 0,pX g 0,pX g 28,bF,bT,bT,pX g 0,pX g 0,pX g 3,uJ d.nxt,pX g 0,pX g 0,pX g 4,uJ d.mx,bT,bT,pX g 0,pX g 0,pX g 0,pX g 0,pX g 0,pX g 3,uJ d.nxt,pX g 0,pX g 0,pX g 37,iJ now,pX g 0,pX g 28,pX g 0,pX g 29,pX g 0,pX g 30,pX g 0,iJ k,.tuple #[]] ?_
       go_wp2_with (fail)
       refine bodyPost_end (v:=.tuple #[]) (results_none rfl _ _ _) rfl ⟨rfl,?_,G⟩
       rw [hone.out,ht.out]
       exact ⟨_,_,_,⟨Aqk29,Lqk29,Pqk29,paqk29,loqk29,(by omega),(by omega),(by omega)⟩⟩
   case true=>
    go_upto_region 4 with (fail)
    refine vR ?_
    refine vV (pX qx1 4) ?_
    refine vD (iJ 16) (qB13.cell 4) ?_
    refine vV (iJ 24) ?_
    refine vV (pX qx1 4) ?_
    refine sC (sgCells ⟨0,0,d.nxt,d.iN,24,rm,0,tk⟩) qB13 4 (.int .i64 24) rfl ?_
    intro qw16 qt17 qB18
    clear qB13
    replace A:=A.touch qt17 (by omega)
    replace L:=L.touch qt17 (by omega)
    replace P:=P.touch qt17 (by omega)
    replace G:=G.touch qt17 (by omega)
    have qt17_s:=qt17.size
    refine vE #[pX g 0,iJ k,U,U,pX g 0,pX qx1 0,pX g 0,pX g 0,pX g 0,pX g 0,pX g 0,.agg (cnCells d),pX g 0,pX g 0,pX g 3,uJ d.nxt,.agg (sgCells ⟨0,0,d.nxt,d.iN,16,rm,0,ByteArray.empty⟩),pX g 0,pX g 0,pX g 8,.agg #[uJ d.oF,.string d.oD,iJ d.oR],pX g 0,pX g 0,pX g 3,uJ d.nxt,iJ k,.string tk,pX qx1 7,iJ k,pX g 0,pX g 0,.agg (cnCells d),iJ lf,bT,pX qx1 4,iJ 16,iJ 24,pX qx1 4,U,U,U,U,U,U,U,U,U,U,U,U,U,U,U,U,U,U,U,U,U,U,U,U,U,U,U,U,U,U,U,U,U,U,U,U,U,U,U,U] ?_
    have hfe:Hid (pieceSg d ps=⟨0,0,d.nxt,d.iN,24,rm,0,tk⟩):=by
     show _=_
     have:=hb4.out
     rw [hps.out,hfl.out,if_pos (by simpa using this.symm)]
    go_upto_region 5 with (fail)
    refine vR ?_
    refine vV (pX g 0) ?_
    refine vB seg_big qB18 rfl ?_
    refine vW (qw16.alloc (.cells (sgCells ⟨0,0,d.nxt,d.iN,24,rm,0,tk⟩) 41)) (.slice (some ⟨qw16.heap.size,0,none⟩) 1 1) ?_
    have qL20:=heldG1 qw16 (⟨0,0,d.nxt,d.iN,24,rm,0,tk⟩)
    have qg21:=(Since.refl qw16).alloc (.cells (sgCells ⟨0,0,d.nxt,d.iN,24,rm,0,tk⟩) 41)
    replace A:=A.since qg21
    replace qB18:=qB18.since qg21
    replace L:=L.since qg21
    replace P:=P.since qg21
    replace G:=G.trans qg21
    generalize qw16.alloc (.cells (sgCells ⟨0,0,d.nxt,d.iN,24,rm,0,tk⟩) 41)=qw19 at A qB18 L P G qL20 qg21 ⊢
    have qg21_s:=qg21.size
    have qL20_l:=qL20.lt
    refine vC (implSends _ _ _ _ _ _ _ _ _ _ ⟨0,0,d.nxt,d.iN,24,rm,0,tk⟩ _ hn _ ⟨A,L,P,pa,lo,(by omega),(by omega),(by omega)⟩ (qL20.raise (by omega)) (by omega)) ?_
    rintro _ qw22 ⟨rfl,⟨gsqk24,nqk24,cqk24,⟨Aqk24,Lqk24,Pqk24,paqk24,loqk24,iqk24,jqk24,lqk24⟩⟩,qh23⟩
    refine ⟨_,rfl,?_⟩
    clear A L P
    clear qB18
    replace G:=G.base qh23
    have qh23_s:=qh23.size
    have Aqk24_l:=Aqk24.lt
    have Lqk24_l:=Lqk24.lt
    have Lqk24_o:=Lqk24.low'
    have Pqk24_l:=Pqk24.lt
    refine vE #[pX g 0,iJ k,U,U,pX g 0,pX qx1 0,pX g 0,pX g 0,pX g 0,pX g 0,pX g 0,.agg (cnCells d),pX g 0,pX g 0,pX g 3,uJ d.nxt,.agg (sgCells ⟨0,0,d.nxt,d.iN,16,rm,0,ByteArray.empty⟩),pX g 0,pX g 0,pX g 8,.agg #[uJ d.oF,.string d.oD,iJ d.oR],pX g 0,pX g 0,pX g 3,uJ d.nxt,iJ k,.string tk,pX qx1 7,iJ k,pX g 0,pX g 0,.agg (cnCells d),iJ lf,bT,pX qx1 4,iJ 16,iJ 24,pX qx1 4,pX g 0,.agg (sgCells ⟨0,0,d.nxt,d.iN,24,rm,0,tk⟩),.slice (some ⟨qw16.heap.size,0,none⟩) 1 1,.tuple #[],U,U,U,U,U,U,U,U,U,U,U,U,U,U,U,U,U,U,U,U,U,U,U,U,U,U,U,U,U,U,U,U,U,U,U,U] ?_
    rw [← hfe.out] at Lqk24
    clear hfe
    go_upto_region 6 with (fail)
    rcases Bool.eq_false_or_eq_true d.tmg with htm|htm
    all_goals replace htm:Hid _:=htm
    case inl=>
     refine wp_region_qs (wb:=qw22) (by kernel_rfl) (by kernel_rfl) (Since.refl _) ?_
     refine qV (pX g 0) ?_
     refine qV (pX g 0) ?_
     refine qV (pX g 28) ?_
     refine qC ⟨g,28,none⟩ (bT) (fun y hy=>((Aqk24.since hy).cell 28).trans (by show some (.bool d.tmg:Value)=some (bT:Value);rw [htm.out])) ?_
     refine qV (bF) ?_
     refine qV (bF) ?_
     refine qS ?_
     refine qS ?_
     refine qS ?_
     refine qS ?_
     refine qS ?_
     refine qS ?_
     refine qS ?_
     refine qS ?_
     refine qS ?_
     refine qV (bF) ?_
     refine q_frame (a':={tmps:=#[pX g 0,iJ k,U,U,pX g 0,pX qx1 0,pX g 0,pX g 0,pX g 0,pX g 0,pX g 0,.agg (cnCells d),pX g 0,pX g 0,pX g 3,uJ d.nxt,.agg (sgCells ⟨0,0,d.nxt,d.iN,16,rm,0,ByteArray.empty⟩),pX g 0,pX g 0,pX g 8,.agg #[uJ d.oF,.string d.oD,iJ d.oR],pX g 0,pX g 0,pX g 3,uJ d.nxt,iJ k,.string tk,pX qx1 7,iJ k,pX g 0,pX g 0,.agg (cnCells d),iJ lf,bT,pX qx1 4,iJ 16,iJ 24,pX qx1 4,pX g 0,.agg (sgCells ⟨0,0,d.nxt,d.iN,24,rm,0,tk⟩),.slice (some ⟨qw16.heap.size,0,none⟩) 1 1,.tuple #[],pX g 0,pX g 0,pX g 28,bT,bF,bF,U,U,U,U,U,U,U,U,U,bF,U,U,U,U,U,U,U,U,U,U,U,U,U,U,U,U,U,U,U,U],defers:=[]}) (by kernel_rfl) ?_
     refine q_nil ?_
     intro qw25 qh26
     replace Aqk24:=Aqk24.since qh26
     replace Lqk24:=Lqk24.since qh26
     replace Pqk24:=Pqk24.since qh26
     replace G:=G.trans qh26
     have qh26_s:=qh26.size
     have ht:Hid (timesC d now=d):=by
      show timesC d now=_
      unfold timesC timesB
      rw [htm.out];rfl
     go_upto_region 8 with (fail)
     refine vR ?_
     refine vV (pX g 0) ?_
     refine vV (iJ k) ?_
     refine vC (hmo _ _ _ _ _ _ ⟨Aqk24,Lqk24,Pqk24,paqk24,loqk24,(by omega),(by omega),(by omega)⟩ w_mx) ?_
     rintro _ qw27 ⟨rfl,⟨gsqk29,nqk29,cqk29,⟨Aqk29,Lqk29,Pqk29,paqk29,loqk29,iqk29,jqk29,lqk29⟩⟩,qh28⟩
     refine ⟨_,rfl,?_⟩
     clear Aqk24 Lqk24 Pqk24
     replace G:=G.base qh28
     have qh28_s:=qh28.size
     have Aqk29_l:=Aqk29.lt
     have Lqk29_l:=Lqk29.lt
     have Lqk29_o:=Lqk29.low'
     have Pqk29_l:=Pqk29.lt
     refine vE #[pX g 0,iJ k,U,U,pX g 0,pX qx1 0,pX g 0,pX g 0,pX g 0,pX g 0,pX g 0,.agg (cnCells d),pX g 0,pX g 0,pX g 3,uJ d.nxt,.agg (sgCells ⟨0,0,d.nxt,d.iN,16,rm,0,ByteArray.empty⟩),pX g 0,pX g 0,pX g 8,.agg #[uJ d.oF,.string d.oD,iJ d.oR],pX g 0,pX g 0,pX g 3,uJ d.nxt,iJ k,.string tk,pX qx1 7,iJ k,pX g 0,pX g 0,.agg (cnCells d),iJ lf,bT,pX qx1 4,iJ 16,iJ 24,pX qx1 4,pX g 0,.agg (sgCells ⟨0,0,d.nxt,d.iN,24,rm,0,tk⟩),.slice (some ⟨qw16.heap.size,0,none⟩) 1 1,.tuple #[],pX g 0,pX g 0,pX g 28,bT,bF,bF,U,U,U,U,U,U,U,U,U,bF,U,U,U,U,U,U,U,U,U,U,U,U,U,U,U,U,U,pX g 0,iJ k,.tuple #[]] ?_
     go_wp2_with (fail)
     refine bodyPost_end (v:=.tuple #[]) (results_none rfl _ _ _) rfl ⟨rfl,?_,G⟩
     rw [hone.out,ht.out]
     exact ⟨_,_,_,⟨Aqk29,Lqk29,Pqk29,paqk29,loqk29,(by omega),(by omega),(by omega)⟩⟩
    case inr=>
     cases b6
     case false=>
      refine wp_region_qs (wb:=qw22) (by kernel_rfl) (by kernel_rfl) (Since.refl _) ?_
      refine qV (pX g 0) ?_
      refine qV (pX g 0) ?_
      refine qV (pX g 28) ?_
      refine qC ⟨g,28,none⟩ (bF) (fun y hy=>((Aqk24.since hy).cell 28).trans (by show some (.bool d.tmg:Value)=some (bF:Value);rw [htm.out])) ?_
      refine qV (bT) ?_
      refine qV (bT) ?_
      refine qV (pX g 0) ?_
      refine qV (pX g 0) ?_
      refine qV (pX g 3) ?_
      refine qC ⟨g,3,none⟩ (uJ d.nxt) (fun y hy=>(Aqk24.since hy).cell 3) ?_
      refine qV (pX g 0) ?_
      refine qV (pX g 0) ?_
      refine qV (pX g 4) ?_
      refine qC ⟨g,4,none⟩ (uJ d.mx) (fun y hy=>(Aqk24.since hy).cell 4) ?_
      refine q_val (by kernel_rfl) (.bool false) (fun x hx=>by rw [show false=(d.nxt == d.mx) from hb6.out];kernel_rfl) ?_
      refine qV (bF) ?_
      refine q_frame (a':={tmps:=#[pX g 0,iJ k,U,U,pX g 0,pX qx1 0,pX g 0,pX g 0,pX g 0,pX g 0,pX g 0,.agg (cnCells d),pX g 0,pX g 0,pX g 3,uJ d.nxt,.agg (sgCells ⟨0,0,d.nxt,d.iN,16,rm,0,ByteArray.empty⟩),pX g 0,pX g 0,pX g 8,.agg #[uJ d.oF,.string d.oD,iJ d.oR],pX g 0,pX g 0,pX g 3,uJ d.nxt,iJ k,.string tk,pX qx1 7,iJ k,pX g 0,pX g 0,.agg (cnCells d),iJ lf,bT,pX qx1 4,iJ 16,iJ 24,pX qx1 4,pX g 0,.agg (sgCells ⟨0,0,d.nxt,d.iN,24,rm,0,tk⟩),.slice (some ⟨qw16.heap.size,0,none⟩) 1 1,.tuple #[],pX g 0,pX g 0,pX g 28,bF,bT,bT,pX g 0,pX g 0,pX g 3,uJ d.nxt,pX g 0,pX g 0,pX g 4,uJ d.mx,bF,bF,U,U,U,U,U,U,U,U,U,U,U,U,U,U,U,U,U,U,U,U],defers:=[]}) (by kernel_rfl) ?_
      refine q_nil ?_
      intro qw25 qh26
      replace Aqk24:=Aqk24.since qh26
      replace Lqk24:=Lqk24.since qh26
      replace Pqk24:=Pqk24.since qh26
      replace G:=G.trans qh26
      have qh26_s:=qh26.size
      have ht:Hid (timesC d now=d):=by
       show timesC d now=_
       unfold timesC timesB
       have:=hb6.out;rw [htm.out,if_neg];intro h;simp at h;simp [h] at this
      go_upto_region 8 with (fail)
      refine vR ?_
      refine vV (pX g 0) ?_
      refine vV (iJ k) ?_
      refine vC (hmo _ _ _ _ _ _ ⟨Aqk24,Lqk24,Pqk24,paqk24,loqk24,(by omega),(by omega),(by omega)⟩ w_mx) ?_
      rintro _ qw27 ⟨rfl,⟨gsqk29,nqk29,cqk29,⟨Aqk29,Lqk29,Pqk29,paqk29,loqk29,iqk29,jqk29,lqk29⟩⟩,qh28⟩
      refine ⟨_,rfl,?_⟩
      clear Aqk24 Lqk24 Pqk24
      replace G:=G.base qh28
      have qh28_s:=qh28.size
      have Aqk29_l:=Aqk29.lt
      have Lqk29_l:=Lqk29.lt
      have Lqk29_o:=Lqk29.low'
      have Pqk29_l:=Pqk29.lt
      refine vE #[pX g 0,iJ k,U,U,pX g 0,pX qx1 0,pX g 0,pX g 0,pX g 0,pX g 0,pX g 0,.agg (cnCells d),pX g 0,pX g 0,pX g 3,uJ d.nxt,.agg (sgCells ⟨0,0,d.nxt,d.iN,16,rm,0,ByteArray.empty⟩),pX g 0,pX g 0,pX g 8,.agg #[uJ d.oF,.string d.oD,iJ d.oR],pX g 0,pX g 0,pX g 3,uJ d.nxt,iJ k,.string tk,pX qx1 7,iJ k,pX g 0,pX g 0,.agg (cnCells d),iJ lf,bT,pX qx1 4,iJ 16,iJ 24,pX qx1 4,pX g 0,.agg (sgCells ⟨0,0,d.nxt,d.iN,24,rm,0,tk⟩),.slice (some ⟨qw16.heap.size,0,none⟩) 1 1,.tuple #[],pX g 0,pX g 0,pX g 28,bF,bT,bT,pX g 0,pX g 0,pX g 3,uJ d.nxt,pX g 0,pX g 0,pX g 4,uJ d.mx,bF,bF,U,U,U,U,U,U,U,U,U,U,U,U,U,U,U,U,U,pX g 0,iJ k,.tuple #[]] ?_
      go_wp2_with (fail)
      refine bodyPost_end (v:=.tuple #[]) (results_none rfl _ _ _) rfl ⟨rfl,?_,G⟩
      rw [hone.out,ht.out]
      exact ⟨_,_,_,⟨Aqk29,Lqk29,Pqk29,paqk29,loqk29,(by omega),(by omega),(by omega)⟩⟩
     case true=>
      refine wp_region_qs (wb:=qw22) (by kernel_rfl) (by kernel_rfl) (Since.refl _) ?_
      refine qV (pX g 0) ?_
      refine qV (pX g 0) ?_
      refine qV (pX g 28) ?_
      refine qC ⟨g,28,none⟩ (bF) (fun y hy=>((Aqk24.since hy).cell 28).trans (by show some (.bool d.tmg:Value)=some (bF:Value);rw [htm.out])) ?_
      refine qV (bT) ?_
      refine qV (bT) ?_
      refine qV (pX g 0) ?_
      refine qV (pX g 0) ?_
      refine qV (pX g 3) ?_
      refine qC ⟨g,3,none⟩ (uJ d.nxt) (fun y hy=>(Aqk24.since hy).cell 3) ?_
      refine qV (pX g 0) ?_
      refine qV (pX g 0) ?_
      refine qV (pX g 4) ?_
      refine qC ⟨g,4,none⟩ (uJ d.mx) (fun y hy=>(Aqk24.since hy).cell 4) ?_
      refine q_val (by kernel_rfl) (.bool true) (fun x hx=>by rw [show true=(d.nxt == d.mx) from hb6.out];kernel_rfl) ?_
      refine qV (bT) ?_
      refine q_frame (a':={tmps:=#[pX g 0,iJ k,U,U,pX g 0,pX qx1 0,pX g 0,pX g 0,pX g 0,pX g 0,pX g 0,.agg (cnCells d),pX g 0,pX g 0,pX g 3,uJ d.nxt,.agg (sgCells ⟨0,0,d.nxt,d.iN,16,rm,0,ByteArray.empty⟩),pX g 0,pX g 0,pX g 8,.agg #[uJ d.oF,.string d.oD,iJ d.oR],pX g 0,pX g 0,pX g 3,uJ d.nxt,iJ k,.string tk,pX qx1 7,iJ k,pX g 0,pX g 0,.agg (cnCells d),iJ lf,bT,pX qx1 4,iJ 16,iJ 24,pX qx1 4,pX g 0,.agg (sgCells ⟨0,0,d.nxt,d.iN,24,rm,0,tk⟩),.slice (some ⟨qw16.heap.size,0,none⟩) 1 1,.tuple #[],pX g 0,pX g 0,pX g 28,bF,bT,bT,pX g 0,pX g 0,pX g 3,uJ d.nxt,pX g 0,pX g 0,pX g 4,uJ d.mx,bT,bT,U,U,U,U,U,U,U,U,U,U,U,U,U,U,U,U,U,U,U,U],defers:=[]}) (by kernel_rfl) ?_
      refine q_nil ?_
      intro qw25 qh26
      replace Aqk24:=Aqk24.since qh26
      replace Lqk24:=Lqk24.since qh26
      replace Pqk24:=Pqk24.since qh26
      replace G:=G.trans qh26
      have qh26_s:=qh26.size
      go_upto_region 7 with (fail)
      have hJ0:TimJ g d now (.slice (some ⟨gsqk24,0,none⟩) nqk24 cqk24) qw25:=⟨d.tmg,d.tsq,d.tat,Aqk24⟩
      refine wp_region_keepF (wb:=qw25) g (TimJ g d now (.slice (some ⟨gsqk24,0,none⟩) nqk24 cqk24)) (TimI g d now (.slice (some ⟨gsqk24,0,none⟩) nqk24 cqk24)) TimJ.since TimI.since (fun i x v=>match i with
        | 0=>v=.pointer (some ⟨g,0,none⟩)
        | 1=>v=.pointer (some ⟨g,0,none⟩)
        | 2=>v=.pointer (some ⟨g,0,none⟩)
        | 3=>v=.pointer (some ⟨g,0,none⟩)
        | 4=>v=.pointer (some ⟨g,0,none⟩)
        | 5=>v=.pointer (some ⟨g,3,none⟩)
        | 6=>v=.int .u32 d.nxt
        | 7=>v=.pointer (some ⟨g,0,none⟩)
        | 8=>v=.pointer (some ⟨g,0,none⟩)
        | 9=>v=.pointer (some ⟨g,37,none⟩)
        | 10=>v=.int .i64 now
        | 11=>v=.pointer (some ⟨g,0,none⟩)
        | 12=>v=.pointer (some ⟨g,28,none⟩)
        | 14=>v=.pointer (some ⟨g,0,none⟩)
        | 15=>v=.pointer (some ⟨g,29,none⟩)
        | 17=>v=.pointer (some ⟨g,0,none⟩)
        | 18=>v=.pointer (some ⟨g,30,none⟩)
        | 13=>TimI g d now (.slice (some ⟨gsqk24,0,none⟩) nqk24 cqk24) 0 x
        | 16=>TimI g d now (.slice (some ⟨gsqk24,0,none⟩) nqk24 cqk24) 1 x
        | 19=>TimI g d now (.slice (some ⟨gsqk24,0,none⟩) nqk24 cqk24) 2 x
        | _=>True) (fun v=>{tmps:=#[pX g 0,iJ k,U,U,pX g 0,pX qx1 0,pX g 0,pX g 0,pX g 0,pX g 0,pX g 0,.agg (cnCells d),pX g 0,pX g 0,pX g 3,uJ d.nxt,.agg (sgCells ⟨0,0,d.nxt,d.iN,16,rm,0,ByteArray.empty⟩),pX g 0,pX g 0,pX g 8,.agg #[uJ d.oF,.string d.oD,iJ d.oR],pX g 0,pX g 0,pX g 3,uJ d.nxt,iJ k,.string tk,pX qx1 7,iJ k,pX g 0,pX g 0,.agg (cnCells d),iJ lf,bT,pX qx1 4,iJ 16,iJ 24,pX qx1 4,pX g 0,.agg (sgCells ⟨0,0,d.nxt,d.iN,24,rm,0,tk⟩),.slice (some ⟨qw16.heap.size,0,none⟩) 1 1,.tuple #[],pX g 0,pX g 0,pX g 28,bF,bT,bT,pX g 0,pX g 0,pX g 3,uJ d.nxt,pX g 0,pX g 0,pX g 4,uJ d.mx,bT,bT,v 0,v 1,v 2,v 3,v 4,v 5,v 6,v 7,v 8,v 9,v 10,v 11,v 12,v 14,v 15,v 17,v 18,U,U,U],defers:=[]}) (by kernel_rfl) (by kernel_rfl) (by kernel_rfl) (KeepF.refl _ _ _ _) ?_ (fun vals=>by kernel_rfl) ?_ ?_
      case refine_1=>
       intro j x y v h1 h2
       match j,h2 with
       | 13,h2|16,h2|19,h2=>exact h1.i _ h2
       | 0,h2|1,h2|2,h2|3,h2|4,h2|5,h2|6,h2|7,h2|8,h2|9,h2|10,h2|11,h2|12,h2|14,h2|15,h2|17,h2|18,h2=>exact h2
       | n+20,_=>trivial
      case refine_2=>
       repeat (first|exact eachDoesR_nil|refine eachDoesR_cons ?_ ?_)
       all_goals intro vals x hx hv
       all_goals simp [Region.binds] at hv
       ·obtain ⟨t,q,s,B0⟩:=hx.j hJ0
        have ea:vals 18=.pointer (some ⟨g,30,none⟩):=by simp_all
        have es:vals 10=.int .i64 now:=by simp_all
        refine does_cell_store (cs':=actCells (timC d t q now) now (.slice (some ⟨gsqk24,0,none⟩) nqk24 cqk24)) B0 _ _ _ rfl 30 ea (.int .i64 now) es rfl (by kernel_rfl) (by rw [act_size];decide) rfl ?_
        intro z tz Bz
        refine ⟨⟨tz,fun _=>⟨_,_,_,Bz⟩,?_⟩,⟨_,_,_,Bz,by intros;first|rfl|omega,by intros;first|rfl|omega,by intros;first|rfl|omega⟩⟩
        rintro m ⟨t',q',s',B1,c0,c1,c2⟩
        obtain ⟨rfl,rfl,rfl⟩:=tim_inj B0 B1
        exact ⟨_,_,_,Bz,by first|exact c0|(intros;rfl),by first|exact c1|(intros;rfl),by first|exact c2|(intros;rfl)⟩
       ·simp [does,doesUpon,go_sem,hv,KeepF.refl]
       ·simp [does,doesUpon,go_sem,hv,KeepF.refl]
       ·obtain ⟨t,q,s,B0⟩:=hx.j hJ0
        have ea:vals 15=.pointer (some ⟨g,29,none⟩):=by simp_all
        have es:vals 6=.int .u32 d.nxt:=by simp_all
        refine does_cell_store (cs':=actCells (timC d t d.nxt s) now (.slice (some ⟨gsqk24,0,none⟩) nqk24 cqk24)) B0 _ _ _ rfl 29 ea (.int .u32 d.nxt) es rfl (by kernel_rfl) (by rw [act_size];decide) rfl ?_
        intro z tz Bz
        refine ⟨⟨tz,fun _=>⟨_,_,_,Bz⟩,?_⟩,⟨_,_,_,Bz,by intros;first|rfl|omega,by intros;first|rfl|omega,by intros;first|rfl|omega⟩⟩
        rintro m ⟨t',q',s',B1,c0,c1,c2⟩
        obtain ⟨rfl,rfl,rfl⟩:=tim_inj B0 B1
        exact ⟨_,_,_,Bz,by first|exact c0|(intros;rfl),by first|exact c1|(intros;rfl),by first|exact c2|(intros;rfl)⟩
       ·simp [does,doesUpon,go_sem,hv,KeepF.refl]
       ·simp [does,doesUpon,go_sem,hv,KeepF.refl]
       ·obtain ⟨t,q,s,B0⟩:=hx.j hJ0
        have ea:vals 12=.pointer (some ⟨g,28,none⟩):=by simp_all
        refine does_cell_store (cs':=actCells (timC d true q s) now (.slice (some ⟨gsqk24,0,none⟩) nqk24 cqk24)) B0 _ _ _ rfl 28 ea (.bool true) rfl rfl (by kernel_rfl) (by rw [act_size];decide) rfl ?_
        intro z tz Bz
        refine ⟨⟨tz,fun _=>⟨_,_,_,Bz⟩,?_⟩,⟨_,_,_,Bz,by intros;first|rfl|omega,by intros;first|rfl|omega,by intros;first|rfl|omega⟩⟩
        rintro m ⟨t',q',s',B1,c0,c1,c2⟩
        obtain ⟨rfl,rfl,rfl⟩:=tim_inj B0 B1
        exact ⟨_,_,_,Bz,by first|exact c0|(intros;rfl),by first|exact c1|(intros;rfl),by first|exact c2|(intros;rfl)⟩
       ·simp [does,doesUpon,go_sem,hv,KeepF.refl]
       ·simp [does,doesUpon,go_sem,hv,KeepF.refl]
       ·obtain ⟨t,q,s,B0⟩:=hx.j hJ0
        have fl0:x.cell? ⟨g,37,none⟩=some (.int .i64 now):=B0.cell 37
        simp [does,doesUpon,go_sem,hv,fl0,KeepF.refl]
       ·simp [does,doesUpon,go_sem,hv,KeepF.refl]
       ·simp [does,doesUpon,go_sem,hv,KeepF.refl]
       ·simp [does,doesUpon,go_sem,KeepF.refl]
       ·obtain ⟨t,q,s,B0⟩:=hx.j hJ0
        have fl0:x.cell? ⟨g,3,none⟩=some (.int .u32 d.nxt):=B0.cell 3
        simp [does,doesUpon,go_sem,hv,fl0,KeepF.refl]
       ·simp [does,doesUpon,go_sem,hv,KeepF.refl]
       ·simp [does,doesUpon,go_sem,hv,KeepF.refl]
       ·simp [does,doesUpon,go_sem,KeepF.refl]
       ·simp [does,doesUpon,go_sem,KeepF.refl]
       ·simp [does,doesUpon,go_sem,KeepF.refl]
       ·simp [does,doesUpon,go_sem,KeepF.refl]
      case refine_3=>
       intro qv29 qw27 qh28 hv
       obtain ⟨t,q,s,B0,c0,-,-⟩:=hv 13 (by decide)
       obtain ⟨t',q',s',B1,-,c1,-⟩:=hv 16 (by decide)
       obtain ⟨t2,q2,s2,B2,-,-,c2⟩:=hv 19 (by decide)
       obtain ⟨rfl,rfl,rfl⟩:=tim_inj B0 B1
       obtain ⟨rfl,rfl,rfl⟩:=tim_inj B0 B2
       obtain rfl:=c0 rfl
       have e1:=c1 rfl
       have e2:=c2 rfl
       rw [e1,e2] at B0
       clear B1 B2 c1 c2 e1 e2 c0
       have hv0:qv29 0=_:=hv 0 (by decide)
       have hv1:qv29 1=_:=hv 1 (by decide)
       have hv2:qv29 2=_:=hv 2 (by decide)
       have hv3:qv29 3=_:=hv 3 (by decide)
       have hv4:qv29 4=_:=hv 4 (by decide)
       have hv5:qv29 5=_:=hv 5 (by decide)
       have hv6:qv29 6=_:=hv 6 (by decide)
       have hv7:qv29 7=_:=hv 7 (by decide)
       have hv8:qv29 8=_:=hv 8 (by decide)
       have hv9:qv29 9=_:=hv 9 (by decide)
       have hv10:qv29 10=_:=hv 10 (by decide)
       have hv11:qv29 11=_:=hv 11 (by decide)
       have hv12:qv29 12=_:=hv 12 (by decide)
       have hv14:qv29 14=_:=hv 14 (by decide)
       have hv15:qv29 15=_:=hv 15 (by decide)
       have hv17:qv29 17=_:=hv 17 (by decide)
       have hv18:qv29 18=_:=hv 18 (by decide)
       clear hv
       simp only [hv0,hv1,hv2,hv3,hv4,hv5,hv6,hv7,hv8,hv9,hv10,hv11,hv12,hv14,hv15,hv17,hv18]
       clear hv0 hv1 hv2 hv3 hv4 hv5 hv6 hv7 hv8 hv9 hv10 hv11 hv12 hv14 hv15 hv17 hv18
       have hT:=qh28.touch
       clear Aqk24
       replace Lqk24:=Lqk24.touch hT (by omega)
       replace Pqk24:=Pqk24.touch hT (by omega)
       replace G:=G.touch hT (by omega)
       have hT_s:=hT.size
       have ht:Hid (timesC d now={d with tmg:=true,tsq:=d.nxt,tat:=now}):=by
        show timesC d now=_
        unfold timesC timesB
        have:=hb6.out;rw [htm.out,if_pos];simpa using this.symm
       go_upto_region 8 with (fail)
       refine vR ?_
       refine vV (pX g 0) ?_
       refine vV (iJ k) ?_
       refine vC (hmo _ _ _ _ _ _ ⟨B0,Lqk24,Pqk24,paqk24,loqk24,(by omega),(by omega),(by omega)⟩ w_mx) ?_
       rintro _ qw30 ⟨rfl,⟨gsqk32,nqk32,cqk32,⟨Aqk32,Lqk32,Pqk32,paqk32,loqk32,iqk32,jqk32,lqk32⟩⟩,qh31⟩
       refine ⟨_,rfl,?_⟩
       clear B0 Lqk24 Pqk24
       replace G:=G.base qh31
       have qh31_s:=qh31.size
       have Aqk32_l:=Aqk32.lt
       have Lqk32_l:=Lqk32.lt
       have Lqk32_o:=Lqk32.low'
       have Pqk32_l:=Pqk32.lt
       refine vE #[pX g 0,iJ k,U,U,pX g 0,pX qx1 0,pX g 0,pX g 0,pX g 0,pX g 0,pX g 0,.agg (cnCells d),pX g 0,pX g 0,pX g 3,uJ d.nxt,.agg (sgCells ⟨0,0,d.nxt,d.iN,16,rm,0,ByteArray.empty⟩),pX g 0,pX g 0,pX g 8,.agg #[uJ d.oF,.string d.oD,iJ d.oR],pX g 0,pX g 0,pX g 3,uJ d.nxt,iJ k,.string tk,pX qx1 7,iJ k,pX g 0,pX g 0,.agg (cnCells d),iJ lf,bT,pX qx1 4,iJ 16,iJ 24,pX qx1 4,pX g 0,.agg (sgCells ⟨0,0,d.nxt,d.iN,24,rm,0,tk⟩),.slice (some ⟨qw16.heap.size,0,none⟩) 1 1,.tuple #[],pX g 0,pX g 0,pX g 28,bF,bT,bT,pX g 0,pX g 0,pX g 3,uJ d.nxt,pX g 0,pX g 0,pX g 4,uJ d.mx,bT,bT,pX g 0,pX g 0,pX g 0,pX g 0,pX g 0,pX g 3,uJ d.nxt,pX g 0,pX g 0,pX g 37,iJ now,pX g 0,pX g 28,pX g 0,pX g 29,pX g 0,pX g 30,pX g 0,iJ k,.tuple #[]] ?_
       go_wp2_with (fail)
       refine bodyPost_end (v:=.tuple #[]) (results_none rfl _ _ _) rfl ⟨rfl,?_,G⟩
       rw [hone.out,ht.out]
       exact ⟨_,_,_,⟨Aqk32,Lqk32,Pqk32,paqk32,loqk32,(by omega),(by omega),(by omega)⟩⟩
end Go.Proofs.YtmigalhmlofbkaaGreatDoor
