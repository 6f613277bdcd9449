/- A part of the proof. -/
import Derived.Test.YtmigalhmlofbkaaGreatDoorSend11B
import Derived.Test.YtmigalhmlofbkaaGreatDoorM37
set_option linter.unusedVariables false
set_option maxRecDepth 20000
set_option maxHeartbeats 8000000
namespace Go.Proofs.YtmigalhmlofbkaaGreatDoor
open Go.ChangeShapes Go.WideShapes Go.ChangeAt Go.RowKit
theorem isTickS (x:Int) (w:World) :
  Calls Tryz.prog 22 #[.int .i64 x] w fun e w'=>e=.returned (.bool (decide (0≤x∧x≤1000000000)))∧w=w':=by
 by_cases h1:0≤x
 ·have e1:decide (0≤x∧x≤1000000000)=decide (x≤1000000000):=by simp [h1]
  rw [e1]
  clear e1
  go_enter Tryz.func22,Tryz.ntmps22
  go_wp2
  go_ret
  exact ⟨rfl,rfl⟩
 ·have e1:decide (0≤x∧x≤1000000000)=false:=by simp [h1]
  rw [e1]
  clear e1
  go_enter Tryz.func22,Tryz.ntmps22
  go_wp2
  go_ret
  exact ⟨rfl,rfl⟩
theorem finX_stay {c:Cn} {ps:List (Int×ByteArray)} {now:Int} {p:Cn×List Sg} (h:Stay c p.1):Stay c (finX ps now p).1:=by
 unfold finX
 split
 ·exact h.fin now
 ·exact h
theorem finX_len {ps:List (Int×ByteArray)} {now:Int} {p:Cn×List Sg}:(finX ps now p).2.length≤p.2.length+1:=by
 unfold finX
 split
 ·simp
 ·omega
theorem finC_sends {d:Cn} {now:Int} (h:sendsB d.st=true):sendsB (finC d now).st=true:=by
 unfold finC
 split
 ·rfl
 ·split
  ·rfl
  ·exact h
theorem prbX_stay {c d:Cn} {now:Int} (h:Stay c d):Stay c (prbX d now):=by
 unfold prbX
 split
 ·exact ⟨h.una,h.wnd,h.oF,h.oD,h.iN,h.iD,h.iR,h.pa,h.pn,h.pc,h.w_nxt,h.w_mx⟩
 ·exact h
theorem prbX_st (d:Cn) (now:Int):(prbX d now).st=d.st:=by
 unfold prbX
 split<;>rfl
theorem prbX_is {d:Cn} {now:Int} (h:sendsB d.st=true):prbC d now=prbX d now:=by
 unfold prbC prbX prbB prbI
 rw [h]
 rfl
theorem owe_is {ps:List (Int×ByteArray)} {p:Cn×List Sg} (h:p.1.st≠0∧p.1.st≠1):owe2 ps p=oweX ps p:=by
 unfold owe2 oweX oweB
 rw [decide_eq_true h.1,decide_eq_true h.2]
 simp
theorem sends_st {x:Int} (h:sendsB x=true):x≠0∧x≠1:=by
 unfold sendsB at h
 simp at h
 omega
theorem sendX_is {d:Cn} {ps:List (Int×ByteArray)} {now:Int} {xs:List Sg} (hs:sendsB d.st=true) (w1:IsWord d.nxt) (w2:IsWord d.mx) :
  sendX d ps now xs=oweX ps (prbX (finX ps now (piecesC ps now (leftC d).toNat d xs)).1 now,(finX ps now (piecesC ps now (leftC d).toNat d xs)).2):=by
 have s1:Sent d (piecesC ps now (leftC d).toNat d xs).1:=pieces_sent _ _ _ (Sent.refl w1 w2)
 unfold sendX
 generalize piecesC ps now (leftC d).toNat d xs=p at s1 ⊢
 have hp:sendsB p.1.st=true:=by rw [s1.st];exact hs
 have e1:fin2 ps now p=finX ps now p:=by
  unfold fin2 finX
  rw [fin_is s1.w_nxt hp]
 have hq:sendsB (finX ps now p).1.st=true:=by
  unfold finX
  split
  ·exact finC_sends hp
  ·exact hp
 rw [e1,prbX_is hq]
 refine owe_is ?_
 show (prbX (finX ps now p).1 now).st≠0∧(prbX (finX ps now p).1 now).st≠1
 rw [prbX_st]
 exact sends_st hq
theorem implSend (B g pg:Nat) (now:Int) (ps:List (Int×ByteArray)) (d:Cn) (gs n cap:Nat) (xs:List Sg) (h0:0≤now) (h1:now≤1000000000) (ms:MayS d ps) (hx:xs.length≤40000) (w:World) (a:Acts B g pg now ps d gs n cap xs w) :
  Calls Tryz.prog 36 #[.pointer (some ⟨g,0,none⟩)] w fun e w'=>e=.returned (.tuple #[])∧ActsX B g pg now ps ((sendX d ps now xs).1) ((sendX d ps now xs).2) w'∧Base B w w':=by
 obtain ⟨A,L,P,pa,lo,i,j,l⟩:=a
 have hA:=A.lt
 have hL:=L.lt
 have hLo:=L.low'
 have hP:=P.lt
 have hPo:=P.low'
 have G:Base B w w:=Base.refl (by omega)
 have hlen:=L.len
 have f_st:w.cell? ⟨g,0,none⟩=some (.int .i64 d.st):=A.cell 0
 have ms_st:=ms.st
 go_enter Tryz.func36,Tryz.ntmps36
 go_upto_region 0 with (fail)
 rcases (show d.st=0∨d.st=1∨d.st=2∨d.st=3∨d.st=4∨d.st=5∨d.st=6∨d.st=7∨d.st=8∨d.st=9 by omega) with hs|hs|hs|hs|hs|hs|hs|hs|hs|hs
 ·skip
  have eX:Hid (sendX d ps now xs=(d,xs)):=(sendX_none (by rw [hs];rfl)).trans (if_neg (by unfold oweB;simp [hs]))
  rw [hs] at f_st
  clear hs
  go_wp2_with (fail)
  refine bodyPost_end (v:=.tuple #[]) (results_none rfl _ _ _) rfl ⟨rfl,?_,G⟩
  rw [eX.out]
  exact ⟨_,_,_,⟨A,L,P,pa,lo,(by omega),(by omega),(by omega)⟩⟩
 ·skip
  have eX:Hid (sendX d ps now xs=(d,xs)):=(sendX_none (by rw [hs];rfl)).trans (if_neg (by unfold oweB;simp [hs]))
  rw [hs] at f_st
  clear hs
  go_wp2_with (fail)
  refine bodyPost_end (v:=.tuple #[]) (results_none rfl _ _ _) rfl ⟨rfl,?_,G⟩
  rw [eX.out]
  exact ⟨_,_,_,⟨A,L,P,pa,lo,(by omega),(by omega),(by omega)⟩⟩
 ·skip
  have eX:Hid (sendX d ps now xs=oweX ps (d,xs)):=(sendX_none (by rw [hs];rfl)).trans (owe_is ⟨by show d.st≠0;omega,by show d.st≠1;omega⟩)
  rw [hs] at f_st
  clear hs
  go_upto_region 12 with (fail)
  refine vR ?_
  refine vV (pX g 0) ?_
  refine vC (implConfirm _ _ _ _ _ _ _ _ _ _ (by omega) ms.gd _ ⟨A,L,P,pa,lo,(by omega),(by omega),(by omega)⟩) ?_
  rintro _ qw1 ⟨rfl,⟨gsqk3,nqk3,cqk3,⟨Aqk3,Lqk3,Pqk3,paqk3,loqk3,iqk3,jqk3,lqk3⟩⟩,qh2⟩
  refine ⟨_,rfl,?_⟩
  clear A L P
  replace G:=G.base qh2
  have qh2_s:=qh2.size
  have Aqk3_l:=Aqk3.lt
  have Lqk3_l:=Lqk3.lt
  have Lqk3_o:=Lqk3.low'
  have Pqk3_l:=Pqk3.lt
  refine vE #[pX g 0,U,pX g 0,pX g 0,pX g 0,pX g 0,iJ 2,bF,bF,bF,bF,bF,bF,bT,bT,U,U,U,U,U,U,U,U,pX g 0,.tuple #[]] ?_
  go_wp2_with (fail)
  refine bodyPost_end (v:=.tuple #[]) (results_none rfl _ _ _) rfl ⟨rfl,?_,G⟩
  rw [eX.out]
  exact ⟨_,_,_,⟨Aqk3,Lqk3,Pqk3,paqk3,loqk3,(by omega),(by omega),(by omega)⟩⟩
 ·skip
  rw [hs] at f_st
  have hsb:sendsB d.st=true:=by rw [hs];rfl
  have eX:Hid (sendX d ps now xs=_):=sendX_is hsb ms.w_nxt ms.w_mx
  clear hs
  go_upto_region 9 with (fail)
  refine vR ?_
  refine vV (pX g 0) ?_
  refine vC (implSendPieces _ _ _ _ _ _ _ _ _ _ h0 h1 ms hsb (by omega) _ ⟨A,L,P,pa,lo,(by omega),(by omega),(by omega)⟩) ?_
  rintro _ qw1 ⟨rfl,⟨gsqk3,nqk3,cqk3,⟨Aqk3,Lqk3,Pqk3,paqk3,loqk3,iqk3,jqk3,lqk3⟩⟩,qh2⟩
  refine ⟨_,rfl,?_⟩
  clear A L P
  replace G:=G.base qh2
  have qh2_s:=qh2.size
  have Aqk3_l:=Aqk3.lt
  have Lqk3_l:=Lqk3.lt
  have Lqk3_o:=Lqk3.low'
  have Pqk3_l:=Pqk3.lt
  refine vE #[pX g 0,U,pX g 0,pX g 0,pX g 0,pX g 0,iJ 3,bT,bT,U,U,U,U,U,U,U,U,pX g 0,.tuple #[],U,U,U,U,U,U] ?_
  have hq1:Sent d (piecesC ps now (leftC d).toNat d xs).1:=pieces_sent _ _ _ (Sent.refl ms.w_nxt ms.w_mx)
  have hq2:=pieces_len (ps:=ps) (now:=now) (leftC d).toNat d xs
  have hq3:=ms.left
  obtain ⟨p,hp⟩:∃ zz,Hid (zz=piecesC ps now (leftC d).toNat d xs):=⟨_,rfl⟩
  rw [← hp.out] at Aqk3 Lqk3 Pqk3 paqk3
  have hp_n:=Lqk3.len
  rw [← hp.out] at hq1 hq2
  have eX1:=eX.out
  rw [← hp.out] at eX1
  have st1:=hq1.stay
  have gd1:Good p.1.iN p.1.iD p.1.iR p.1.pn ps:=by rw [st1.iN,st1.iD,st1.iR,st1.pn];exact ms.gd
  clear eX hq1
  go_upto_region 10 with (fail)
  refine vR ?_
  refine vV (pX g 0) ?_
  refine vC (implSendFin _ _ _ _ _ _ _ _ _ _ h0 h1 (by omega) st1.w_mx gd1 _ ⟨Aqk3,Lqk3,Pqk3,paqk3,loqk3,(by omega),(by omega),(by omega)⟩) ?_
  rintro _ qw4 ⟨rfl,⟨gsqk6,nqk6,cqk6,⟨Aqk6,Lqk6,Pqk6,paqk6,loqk6,iqk6,jqk6,lqk6⟩⟩,qh5⟩
  refine ⟨_,rfl,?_⟩
  clear Aqk3 Lqk3 Pqk3
  replace G:=G.base qh5
  have qh5_s:=qh5.size
  have Aqk6_l:=Aqk6.lt
  have Lqk6_l:=Lqk6.lt
  have Lqk6_o:=Lqk6.low'
  have Pqk6_l:=Pqk6.lt
  refine vE #[pX g 0,U,pX g 0,pX g 0,pX g 0,pX g 0,iJ 3,bT,bT,U,U,U,U,U,U,U,U,pX g 0,.tuple #[],pX g 0,.tuple #[],U,U,U,U] ?_
  have st2:Stay d (finX ps now (p.1,p.2)).1:=finX_stay st1
  have hq4:=finX_len (ps:=ps) (now:=now) (p:=(p.1,p.2))
  obtain ⟨q,hq⟩:∃ zz,Hid (zz=finX ps now (p.1,p.2)):=⟨_,rfl⟩
  rw [← hq.out] at Aqk6 Lqk6 Pqk6 paqk6
  have hq_n:=Lqk6.len
  rw [← hq.out] at st2 hq4
  replace eX1:sendX d ps now xs=oweX ps (prbX q.1 now,q.2):=by rw [eX1,hq.out]
  replace hq4:q.2.length≤p.2.length+1:=hq4
  go_upto_region 11 with (fail)
  refine vR ?_
  refine vV (pX g 0) ?_
  refine vC (implPlanProbe _ _ _ _ _ _ _ _ _ _ h0 h1 st2.w_nxt _ ⟨Aqk6,Lqk6,Pqk6,paqk6,loqk6,(by omega),(by omega),(by omega)⟩) ?_
  rintro _ qw7 ⟨rfl,⟨gsqk9,nqk9,cqk9,⟨Aqk9,Lqk9,Pqk9,paqk9,loqk9,iqk9,jqk9,lqk9⟩⟩,qh8⟩
  refine ⟨_,rfl,?_⟩
  clear Aqk6 Lqk6 Pqk6
  replace G:=G.base qh8
  have qh8_s:=qh8.size
  have Aqk9_l:=Aqk9.lt
  have Lqk9_l:=Lqk9.lt
  have Lqk9_o:=Lqk9.low'
  have Pqk9_l:=Pqk9.lt
  refine vE #[pX g 0,U,pX g 0,pX g 0,pX g 0,pX g 0,iJ 3,bT,bT,U,U,U,U,U,U,U,U,pX g 0,.tuple #[],pX g 0,.tuple #[],pX g 0,.tuple #[],U,U] ?_
  have st3:Stay d (prbX q.1 now):=prbX_stay st2
  obtain ⟨r,hr⟩:∃ zz,Hid (zz=prbX q.1 now):=⟨_,rfl⟩
  rw [← hr.out] at Aqk9 Pqk9 paqk9
  have hr_n:=Lqk9.len
  rw [← hr.out] at st3 eX1
  have gd3:Good r.iN r.iD r.iR r.pn ps:=by rw [st3.iN,st3.iD,st3.iR,st3.pn];exact ms.gd
  replace eX1:Hid _:=eX1
  go_upto_region 12 with (fail)
  refine vR ?_
  refine vV (pX g 0) ?_
  refine vC (implConfirm _ _ _ _ _ _ _ _ _ _ (by omega) gd3 _ ⟨Aqk9,Lqk9,Pqk9,paqk9,loqk9,(by omega),(by omega),(by omega)⟩) ?_
  rintro _ qw10 ⟨rfl,⟨gsqk12,nqk12,cqk12,⟨Aqk12,Lqk12,Pqk12,paqk12,loqk12,iqk12,jqk12,lqk12⟩⟩,qh11⟩
  refine ⟨_,rfl,?_⟩
  clear Aqk9 Lqk9 Pqk9
  replace G:=G.base qh11
  have qh11_s:=qh11.size
  have Aqk12_l:=Aqk12.lt
  have Lqk12_l:=Lqk12.lt
  have Lqk12_o:=Lqk12.low'
  have Pqk12_l:=Pqk12.lt
  refine vE #[pX g 0,U,pX g 0,pX g 0,pX g 0,pX g 0,iJ 3,bT,bT,U,U,U,U,U,U,U,U,pX g 0,.tuple #[],pX g 0,.tuple #[],pX g 0,.tuple #[],pX g 0,.tuple #[]] ?_
  go_wp2_with (fail)
  refine bodyPost_end (v:=.tuple #[]) (results_none rfl _ _ _) rfl ⟨rfl,?_,G⟩
  rw [eX1.out]
  exact ⟨_,_,_,⟨Aqk12,Lqk12,Pqk12,paqk12,loqk12,(by omega),(by omega),(by omega)⟩⟩
 ·skip
  rw [hs] at f_st
  have hsb:sendsB d.st=true:=by rw [hs];rfl
  have eX:Hid (sendX d ps now xs=_):=sendX_is hsb ms.w_nxt ms.w_mx
  clear hs
  go_upto_region 9 with (fail)
  refine vR ?_
  refine vV (pX g 0) ?_
  refine vC (implSendPieces _ _ _ _ _ _ _ _ _ _ h0 h1 ms hsb (by omega) _ ⟨A,L,P,pa,lo,(by omega),(by omega),(by omega)⟩) ?_
  rintro _ qw1 ⟨rfl,⟨gsqk3,nqk3,cqk3,⟨Aqk3,Lqk3,Pqk3,paqk3,loqk3,iqk3,jqk3,lqk3⟩⟩,qh2⟩
  refine ⟨_,rfl,?_⟩
  clear A L P
  replace G:=G.base qh2
  have qh2_s:=qh2.size
  have Aqk3_l:=Aqk3.lt
  have Lqk3_l:=Lqk3.lt
  have Lqk3_o:=Lqk3.low'
  have Pqk3_l:=Pqk3.lt
  refine vE #[pX g 0,U,pX g 0,pX g 0,pX g 0,pX g 0,iJ 4,bT,bF,bT,U,U,U,U,U,U,U,pX g 0,.tuple #[],U,U,U,U,U,U] ?_
  have hq1:Sent d (piecesC ps now (leftC d).toNat d xs).1:=pieces_sent _ _ _ (Sent.refl ms.w_nxt ms.w_mx)
  have hq2:=pieces_len (ps:=ps) (now:=now) (leftC d).toNat d xs
  have hq3:=ms.left
  obtain ⟨p,hp⟩:∃ zz,Hid (zz=piecesC ps now (leftC d).toNat d xs):=⟨_,rfl⟩
  rw [← hp.out] at Aqk3 Lqk3 Pqk3 paqk3
  have hp_n:=Lqk3.len
  rw [← hp.out] at hq1 hq2
  have eX1:=eX.out
  rw [← hp.out] at eX1
  have st1:=hq1.stay
  have gd1:Good p.1.iN p.1.iD p.1.iR p.1.pn ps:=by rw [st1.iN,st1.iD,st1.iR,st1.pn];exact ms.gd
  clear eX hq1
  go_upto_region 10 with (fail)
  refine vR ?_
  refine vV (pX g 0) ?_
  refine vC (implSendFin _ _ _ _ _ _ _ _ _ _ h0 h1 (by omega) st1.w_mx gd1 _ ⟨Aqk3,Lqk3,Pqk3,paqk3,loqk3,(by omega),(by omega),(by omega)⟩) ?_
  rintro _ qw4 ⟨rfl,⟨gsqk6,nqk6,cqk6,⟨Aqk6,Lqk6,Pqk6,paqk6,loqk6,iqk6,jqk6,lqk6⟩⟩,qh5⟩
  refine ⟨_,rfl,?_⟩
  clear Aqk3 Lqk3 Pqk3
  replace G:=G.base qh5
  have qh5_s:=qh5.size
  have Aqk6_l:=Aqk6.lt
  have Lqk6_l:=Lqk6.lt
  have Lqk6_o:=Lqk6.low'
  have Pqk6_l:=Pqk6.lt
  refine vE #[pX g 0,U,pX g 0,pX g 0,pX g 0,pX g 0,iJ 4,bT,bF,bT,U,U,U,U,U,U,U,pX g 0,.tuple #[],pX g 0,.tuple #[],U,U,U,U] ?_
  have st2:Stay d (finX ps now (p.1,p.2)).1:=finX_stay st1
  have hq4:=finX_len (ps:=ps) (now:=now) (p:=(p.1,p.2))
  obtain ⟨q,hq⟩:∃ zz,Hid (zz=finX ps now (p.1,p.2)):=⟨_,rfl⟩
  rw [← hq.out] at Aqk6 Lqk6 Pqk6 paqk6
  have hq_n:=Lqk6.len
  rw [← hq.out] at st2 hq4
  replace eX1:sendX d ps now xs=oweX ps (prbX q.1 now,q.2):=by rw [eX1,hq.out]
  replace hq4:q.2.length≤p.2.length+1:=hq4
  go_upto_region 11 with (fail)
  refine vR ?_
  refine vV (pX g 0) ?_
  refine vC (implPlanProbe _ _ _ _ _ _ _ _ _ _ h0 h1 st2.w_nxt _ ⟨Aqk6,Lqk6,Pqk6,paqk6,loqk6,(by omega),(by omega),(by omega)⟩) ?_
  rintro _ qw7 ⟨rfl,⟨gsqk9,nqk9,cqk9,⟨Aqk9,Lqk9,Pqk9,paqk9,loqk9,iqk9,jqk9,lqk9⟩⟩,qh8⟩
  refine ⟨_,rfl,?_⟩
  clear Aqk6 Lqk6 Pqk6
  replace G:=G.base qh8
  have qh8_s:=qh8.size
  have Aqk9_l:=Aqk9.lt
  have Lqk9_l:=Lqk9.lt
  have Lqk9_o:=Lqk9.low'
  have Pqk9_l:=Pqk9.lt
  refine vE #[pX g 0,U,pX g 0,pX g 0,pX g 0,pX g 0,iJ 4,bT,bF,bT,U,U,U,U,U,U,U,pX g 0,.tuple #[],pX g 0,.tuple #[],pX g 0,.tuple #[],U,U] ?_
  have st3:Stay d (prbX q.1 now):=prbX_stay st2
  obtain ⟨r,hr⟩:∃ zz,Hid (zz=prbX q.1 now):=⟨_,rfl⟩
  rw [← hr.out] at Aqk9 Pqk9 paqk9
  have hr_n:=Lqk9.len
  rw [← hr.out] at st3 eX1
  have gd3:Good r.iN r.iD r.iR r.pn ps:=by rw [st3.iN,st3.iD,st3.iR,st3.pn];exact ms.gd
  replace eX1:Hid _:=eX1
  go_upto_region 12 with (fail)
  refine vR ?_
  refine vV (pX g 0) ?_
  refine vC (implConfirm _ _ _ _ _ _ _ _ _ _ (by omega) gd3 _ ⟨Aqk9,Lqk9,Pqk9,paqk9,loqk9,(by omega),(by omega),(by omega)⟩) ?_
  rintro _ qw10 ⟨rfl,⟨gsqk12,nqk12,cqk12,⟨Aqk12,Lqk12,Pqk12,paqk12,loqk12,iqk12,jqk12,lqk12⟩⟩,qh11⟩
  refine ⟨_,rfl,?_⟩
  clear Aqk9 Lqk9 Pqk9
  replace G:=G.base qh11
  have qh11_s:=qh11.size
  have Aqk12_l:=Aqk12.lt
  have Lqk12_l:=Lqk12.lt
  have Lqk12_o:=Lqk12.low'
  have Pqk12_l:=Pqk12.lt
  refine vE #[pX g 0,U,pX g 0,pX g 0,pX g 0,pX g 0,iJ 4,bT,bF,bT,U,U,U,U,U,U,U,pX g 0,.tuple #[],pX g 0,.tuple #[],pX g 0,.tuple #[],pX g 0,.tuple #[]] ?_
  go_wp2_with (fail)
  refine bodyPost_end (v:=.tuple #[]) (results_none rfl _ _ _) rfl ⟨rfl,?_,G⟩
  rw [eX1.out]
  exact ⟨_,_,_,⟨Aqk12,Lqk12,Pqk12,paqk12,loqk12,(by omega),(by omega),(by omega)⟩⟩
 ·skip
  have eX:Hid (sendX d ps now xs=oweX ps (d,xs)):=(sendX_none (by rw [hs];rfl)).trans (owe_is ⟨by show d.st≠0;omega,by show d.st≠1;omega⟩)
  rw [hs] at f_st
  clear hs
  go_upto_region 12 with (fail)
  refine vR ?_
  refine vV (pX g 0) ?_
  refine vC (implConfirm _ _ _ _ _ _ _ _ _ _ (by omega) ms.gd _ ⟨A,L,P,pa,lo,(by omega),(by omega),(by omega)⟩) ?_
  rintro _ qw1 ⟨rfl,⟨gsqk3,nqk3,cqk3,⟨Aqk3,Lqk3,Pqk3,paqk3,loqk3,iqk3,jqk3,lqk3⟩⟩,qh2⟩
  refine ⟨_,rfl,?_⟩
  clear A L P
  replace G:=G.base qh2
  have qh2_s:=qh2.size
  have Aqk3_l:=Aqk3.lt
  have Lqk3_l:=Lqk3.lt
  have Lqk3_o:=Lqk3.low'
  have Pqk3_l:=Pqk3.lt
  refine vE #[pX g 0,U,pX g 0,pX g 0,pX g 0,pX g 0,iJ 5,bF,bF,bF,bF,bF,bF,bT,bF,bT,U,U,U,U,U,U,U,pX g 0,.tuple #[]] ?_
  go_wp2_with (fail)
  refine bodyPost_end (v:=.tuple #[]) (results_none rfl _ _ _) rfl ⟨rfl,?_,G⟩
  rw [eX.out]
  exact ⟨_,_,_,⟨Aqk3,Lqk3,Pqk3,paqk3,loqk3,(by omega),(by omega),(by omega)⟩⟩
 ·skip
  rw [hs] at f_st
  have hsb:sendsB d.st=true:=by rw [hs];rfl
  have eX:Hid (sendX d ps now xs=_):=sendX_is hsb ms.w_nxt ms.w_mx
  clear hs
  go_upto_region 9 with (fail)
  refine vR ?_
  refine vV (pX g 0) ?_
  refine vC (implSendPieces _ _ _ _ _ _ _ _ _ _ h0 h1 ms hsb (by omega) _ ⟨A,L,P,pa,lo,(by omega),(by omega),(by omega)⟩) ?_
  rintro _ qw1 ⟨rfl,⟨gsqk3,nqk3,cqk3,⟨Aqk3,Lqk3,Pqk3,paqk3,loqk3,iqk3,jqk3,lqk3⟩⟩,qh2⟩
  refine ⟨_,rfl,?_⟩
  clear A L P
  replace G:=G.base qh2
  have qh2_s:=qh2.size
  have Aqk3_l:=Aqk3.lt
  have Lqk3_l:=Lqk3.lt
  have Lqk3_o:=Lqk3.low'
  have Pqk3_l:=Pqk3.lt
  refine vE #[pX g 0,U,pX g 0,pX g 0,pX g 0,pX g 0,iJ 6,bT,bF,bF,bT,U,U,U,U,U,U,pX g 0,.tuple #[],U,U,U,U,U,U] ?_
  have hq1:Sent d (piecesC ps now (leftC d).toNat d xs).1:=pieces_sent _ _ _ (Sent.refl ms.w_nxt ms.w_mx)
  have hq2:=pieces_len (ps:=ps) (now:=now) (leftC d).toNat d xs
  have hq3:=ms.left
  obtain ⟨p,hp⟩:∃ zz,Hid (zz=piecesC ps now (leftC d).toNat d xs):=⟨_,rfl⟩
  rw [← hp.out] at Aqk3 Lqk3 Pqk3 paqk3
  have hp_n:=Lqk3.len
  rw [← hp.out] at hq1 hq2
  have eX1:=eX.out
  rw [← hp.out] at eX1
  have st1:=hq1.stay
  have gd1:Good p.1.iN p.1.iD p.1.iR p.1.pn ps:=by rw [st1.iN,st1.iD,st1.iR,st1.pn];exact ms.gd
  clear eX hq1
  go_upto_region 10 with (fail)
  refine vR ?_
  refine vV (pX g 0) ?_
  refine vC (implSendFin _ _ _ _ _ _ _ _ _ _ h0 h1 (by omega) st1.w_mx gd1 _ ⟨Aqk3,Lqk3,Pqk3,paqk3,loqk3,(by omega),(by omega),(by omega)⟩) ?_
  rintro _ qw4 ⟨rfl,⟨gsqk6,nqk6,cqk6,⟨Aqk6,Lqk6,Pqk6,paqk6,loqk6,iqk6,jqk6,lqk6⟩⟩,qh5⟩
  refine ⟨_,rfl,?_⟩
  clear Aqk3 Lqk3 Pqk3
  replace G:=G.base qh5
  have qh5_s:=qh5.size
  have Aqk6_l:=Aqk6.lt
  have Lqk6_l:=Lqk6.lt
  have Lqk6_o:=Lqk6.low'
  have Pqk6_l:=Pqk6.lt
  refine vE #[pX g 0,U,pX g 0,pX g 0,pX g 0,pX g 0,iJ 6,bT,bF,bF,bT,U,U,U,U,U,U,pX g 0,.tuple #[],pX g 0,.tuple #[],U,U,U,U] ?_
  have st2:Stay d (finX ps now (p.1,p.2)).1:=finX_stay st1
  have hq4:=finX_len (ps:=ps) (now:=now) (p:=(p.1,p.2))
  obtain ⟨q,hq⟩:∃ zz,Hid (zz=finX ps now (p.1,p.2)):=⟨_,rfl⟩
  rw [← hq.out] at Aqk6 Lqk6 Pqk6 paqk6
  have hq_n:=Lqk6.len
  rw [← hq.out] at st2 hq4
  replace eX1:sendX d ps now xs=oweX ps (prbX q.1 now,q.2):=by rw [eX1,hq.out]
  replace hq4:q.2.length≤p.2.length+1:=hq4
  go_upto_region 11 with (fail)
  refine vR ?_
  refine vV (pX g 0) ?_
  refine vC (implPlanProbe _ _ _ _ _ _ _ _ _ _ h0 h1 st2.w_nxt _ ⟨Aqk6,Lqk6,Pqk6,paqk6,loqk6,(by omega),(by omega),(by omega)⟩) ?_
  rintro _ qw7 ⟨rfl,⟨gsqk9,nqk9,cqk9,⟨Aqk9,Lqk9,Pqk9,paqk9,loqk9,iqk9,jqk9,lqk9⟩⟩,qh8⟩
  refine ⟨_,rfl,?_⟩
  clear Aqk6 Lqk6 Pqk6
  replace G:=G.base qh8
  have qh8_s:=qh8.size
  have Aqk9_l:=Aqk9.lt
  have Lqk9_l:=Lqk9.lt
  have Lqk9_o:=Lqk9.low'
  have Pqk9_l:=Pqk9.lt
  refine vE #[pX g 0,U,pX g 0,pX g 0,pX g 0,pX g 0,iJ 6,bT,bF,bF,bT,U,U,U,U,U,U,pX g 0,.tuple #[],pX g 0,.tuple #[],pX g 0,.tuple #[],U,U] ?_
  have st3:Stay d (prbX q.1 now):=prbX_stay st2
  obtain ⟨r,hr⟩:∃ zz,Hid (zz=prbX q.1 now):=⟨_,rfl⟩
  rw [← hr.out] at Aqk9 Pqk9 paqk9
  have hr_n:=Lqk9.len
  rw [← hr.out] at st3 eX1
  have gd3:Good r.iN r.iD r.iR r.pn ps:=by rw [st3.iN,st3.iD,st3.iR,st3.pn];exact ms.gd
  replace eX1:Hid _:=eX1
  go_upto_region 12 with (fail)
  refine vR ?_
  refine vV (pX g 0) ?_
  refine vC (implConfirm _ _ _ _ _ _ _ _ _ _ (by omega) gd3 _ ⟨Aqk9,Lqk9,Pqk9,paqk9,loqk9,(by omega),(by omega),(by omega)⟩) ?_
  rintro _ qw10 ⟨rfl,⟨gsqk12,nqk12,cqk12,⟨Aqk12,Lqk12,Pqk12,paqk12,loqk12,iqk12,jqk12,lqk12⟩⟩,qh11⟩
  refine ⟨_,rfl,?_⟩
  clear Aqk9 Lqk9 Pqk9
  replace G:=G.base qh11
  have qh11_s:=qh11.size
  have Aqk12_l:=Aqk12.lt
  have Lqk12_l:=Lqk12.lt
  have Lqk12_o:=Lqk12.low'
  have Pqk12_l:=Pqk12.lt
  refine vE #[pX g 0,U,pX g 0,pX g 0,pX g 0,pX g 0,iJ 6,bT,bF,bF,bT,U,U,U,U,U,U,pX g 0,.tuple #[],pX g 0,.tuple #[],pX g 0,.tuple #[],pX g 0,.tuple #[]] ?_
  go_wp2_with (fail)
  refine bodyPost_end (v:=.tuple #[]) (results_none rfl _ _ _) rfl ⟨rfl,?_,G⟩
  rw [eX1.out]
  exact ⟨_,_,_,⟨Aqk12,Lqk12,Pqk12,paqk12,loqk12,(by omega),(by omega),(by omega)⟩⟩
 ·skip
  rw [hs] at f_st
  have hsb:sendsB d.st=true:=by rw [hs];rfl
  have eX:Hid (sendX d ps now xs=_):=sendX_is hsb ms.w_nxt ms.w_mx
  clear hs
  go_upto_region 9 with (fail)
  refine vR ?_
  refine vV (pX g 0) ?_
  refine vC (implSendPieces _ _ _ _ _ _ _ _ _ _ h0 h1 ms hsb (by omega) _ ⟨A,L,P,pa,lo,(by omega),(by omega),(by omega)⟩) ?_
  rintro _ qw1 ⟨rfl,⟨gsqk3,nqk3,cqk3,⟨Aqk3,Lqk3,Pqk3,paqk3,loqk3,iqk3,jqk3,lqk3⟩⟩,qh2⟩
  refine ⟨_,rfl,?_⟩
  clear A L P
  replace G:=G.base qh2
  have qh2_s:=qh2.size
  have Aqk3_l:=Aqk3.lt
  have Lqk3_l:=Lqk3.lt
  have Lqk3_o:=Lqk3.low'
  have Pqk3_l:=Pqk3.lt
  refine vE #[pX g 0,U,pX g 0,pX g 0,pX g 0,pX g 0,iJ 7,bT,bF,bF,bF,bT,U,U,U,U,U,pX g 0,.tuple #[],U,U,U,U,U,U] ?_
  have hq1:Sent d (piecesC ps now (leftC d).toNat d xs).1:=pieces_sent _ _ _ (Sent.refl ms.w_nxt ms.w_mx)
  have hq2:=pieces_len (ps:=ps) (now:=now) (leftC d).toNat d xs
  have hq3:=ms.left
  obtain ⟨p,hp⟩:∃ zz,Hid (zz=piecesC ps now (leftC d).toNat d xs):=⟨_,rfl⟩
  rw [← hp.out] at Aqk3 Lqk3 Pqk3 paqk3
  have hp_n:=Lqk3.len
  rw [← hp.out] at hq1 hq2
  have eX1:=eX.out
  rw [← hp.out] at eX1
  have st1:=hq1.stay
  have gd1:Good p.1.iN p.1.iD p.1.iR p.1.pn ps:=by rw [st1.iN,st1.iD,st1.iR,st1.pn];exact ms.gd
  clear eX hq1
  go_upto_region 10 with (fail)
  refine vR ?_
  refine vV (pX g 0) ?_
  refine vC (implSendFin _ _ _ _ _ _ _ _ _ _ h0 h1 (by omega) st1.w_mx gd1 _ ⟨Aqk3,Lqk3,Pqk3,paqk3,loqk3,(by omega),(by omega),(by omega)⟩) ?_
  rintro _ qw4 ⟨rfl,⟨gsqk6,nqk6,cqk6,⟨Aqk6,Lqk6,Pqk6,paqk6,loqk6,iqk6,jqk6,lqk6⟩⟩,qh5⟩
  refine ⟨_,rfl,?_⟩
  clear Aqk3 Lqk3 Pqk3
  replace G:=G.base qh5
  have qh5_s:=qh5.size
  have Aqk6_l:=Aqk6.lt
  have Lqk6_l:=Lqk6.lt
  have Lqk6_o:=Lqk6.low'
  have Pqk6_l:=Pqk6.lt
  refine vE #[pX g 0,U,pX g 0,pX g 0,pX g 0,pX g 0,iJ 7,bT,bF,bF,bF,bT,U,U,U,U,U,pX g 0,.tuple #[],pX g 0,.tuple #[],U,U,U,U] ?_
  have st2:Stay d (finX ps now (p.1,p.2)).1:=finX_stay st1
  have hq4:=finX_len (ps:=ps) (now:=now) (p:=(p.1,p.2))
  obtain ⟨q,hq⟩:∃ zz,Hid (zz=finX ps now (p.1,p.2)):=⟨_,rfl⟩
  rw [← hq.out] at Aqk6 Lqk6 Pqk6 paqk6
  have hq_n:=Lqk6.len
  rw [← hq.out] at st2 hq4
  replace eX1:sendX d ps now xs=oweX ps (prbX q.1 now,q.2):=by rw [eX1,hq.out]
  replace hq4:q.2.length≤p.2.length+1:=hq4
  go_upto_region 11 with (fail)
  refine vR ?_
  refine vV (pX g 0) ?_
  refine vC (implPlanProbe _ _ _ _ _ _ _ _ _ _ h0 h1 st2.w_nxt _ ⟨Aqk6,Lqk6,Pqk6,paqk6,loqk6,(by omega),(by omega),(by omega)⟩) ?_
  rintro _ qw7 ⟨rfl,⟨gsqk9,nqk9,cqk9,⟨Aqk9,Lqk9,Pqk9,paqk9,loqk9,iqk9,jqk9,lqk9⟩⟩,qh8⟩
  refine ⟨_,rfl,?_⟩
  clear Aqk6 Lqk6 Pqk6
  replace G:=G.base qh8
  have qh8_s:=qh8.size
  have Aqk9_l:=Aqk9.lt
  have Lqk9_l:=Lqk9.lt
  have Lqk9_o:=Lqk9.low'
  have Pqk9_l:=Pqk9.lt
  refine vE #[pX g 0,U,pX g 0,pX g 0,pX g 0,pX g 0,iJ 7,bT,bF,bF,bF,bT,U,U,U,U,U,pX g 0,.tuple #[],pX g 0,.tuple #[],pX g 0,.tuple #[],U,U] ?_
  have st3:Stay d (prbX q.1 now):=prbX_stay st2
  obtain ⟨r,hr⟩:∃ zz,Hid (zz=prbX q.1 now):=⟨_,rfl⟩
  rw [← hr.out] at Aqk9 Pqk9 paqk9
  have hr_n:=Lqk9.len
  rw [← hr.out] at st3 eX1
  have gd3:Good r.iN r.iD r.iR r.pn ps:=by rw [st3.iN,st3.iD,st3.iR,st3.pn];exact ms.gd
  replace eX1:Hid _:=eX1
  go_upto_region 12 with (fail)
  refine vR ?_
  refine vV (pX g 0) ?_
  refine vC (implConfirm _ _ _ _ _ _ _ _ _ _ (by omega) gd3 _ ⟨Aqk9,Lqk9,Pqk9,paqk9,loqk9,(by omega),(by omega),(by omega)⟩) ?_
  rintro _ qw10 ⟨rfl,⟨gsqk12,nqk12,cqk12,⟨Aqk12,Lqk12,Pqk12,paqk12,loqk12,iqk12,jqk12,lqk12⟩⟩,qh11⟩
  refine ⟨_,rfl,?_⟩
  clear Aqk9 Lqk9 Pqk9
  replace G:=G.base qh11
  have qh11_s:=qh11.size
  have Aqk12_l:=Aqk12.lt
  have Lqk12_l:=Lqk12.lt
  have Lqk12_o:=Lqk12.low'
  have Pqk12_l:=Pqk12.lt
  refine vE #[pX g 0,U,pX g 0,pX g 0,pX g 0,pX g 0,iJ 7,bT,bF,bF,bF,bT,U,U,U,U,U,pX g 0,.tuple #[],pX g 0,.tuple #[],pX g 0,.tuple #[],pX g 0,.tuple #[]] ?_
  go_wp2_with (fail)
  refine bodyPost_end (v:=.tuple #[]) (results_none rfl _ _ _) rfl ⟨rfl,?_,G⟩
  rw [eX1.out]
  exact ⟨_,_,_,⟨Aqk12,Lqk12,Pqk12,paqk12,loqk12,(by omega),(by omega),(by omega)⟩⟩
 ·skip
  rw [hs] at f_st
  have hsb:sendsB d.st=true:=by rw [hs];rfl
  have eX:Hid (sendX d ps now xs=_):=sendX_is hsb ms.w_nxt ms.w_mx
  clear hs
  go_upto_region 9 with (fail)
  refine vR ?_
  refine vV (pX g 0) ?_
  refine vC (implSendPieces _ _ _ _ _ _ _ _ _ _ h0 h1 ms hsb (by omega) _ ⟨A,L,P,pa,lo,(by omega),(by omega),(by omega)⟩) ?_
  rintro _ qw1 ⟨rfl,⟨gsqk3,nqk3,cqk3,⟨Aqk3,Lqk3,Pqk3,paqk3,loqk3,iqk3,jqk3,lqk3⟩⟩,qh2⟩
  refine ⟨_,rfl,?_⟩
  clear A L P
  replace G:=G.base qh2
  have qh2_s:=qh2.size
  have Aqk3_l:=Aqk3.lt
  have Lqk3_l:=Lqk3.lt
  have Lqk3_o:=Lqk3.low'
  have Pqk3_l:=Pqk3.lt
  refine vE #[pX g 0,U,pX g 0,pX g 0,pX g 0,pX g 0,iJ 8,bT,bF,bF,bF,bF,bT,U,U,U,U,pX g 0,.tuple #[],U,U,U,U,U,U] ?_
  have hq1:Sent d (piecesC ps now (leftC d).toNat d xs).1:=pieces_sent _ _ _ (Sent.refl ms.w_nxt ms.w_mx)
  have hq2:=pieces_len (ps:=ps) (now:=now) (leftC d).toNat d xs
  have hq3:=ms.left
  obtain ⟨p,hp⟩:∃ zz,Hid (zz=piecesC ps now (leftC d).toNat d xs):=⟨_,rfl⟩
  rw [← hp.out] at Aqk3 Lqk3 Pqk3 paqk3
  have hp_n:=Lqk3.len
  rw [← hp.out] at hq1 hq2
  have eX1:=eX.out
  rw [← hp.out] at eX1
  have st1:=hq1.stay
  have gd1:Good p.1.iN p.1.iD p.1.iR p.1.pn ps:=by rw [st1.iN,st1.iD,st1.iR,st1.pn];exact ms.gd
  clear eX hq1
  go_upto_region 10 with (fail)
  refine vR ?_
  refine vV (pX g 0) ?_
  refine vC (implSendFin _ _ _ _ _ _ _ _ _ _ h0 h1 (by omega) st1.w_mx gd1 _ ⟨Aqk3,Lqk3,Pqk3,paqk3,loqk3,(by omega),(by omega),(by omega)⟩) ?_
  rintro _ qw4 ⟨rfl,⟨gsqk6,nqk6,cqk6,⟨Aqk6,Lqk6,Pqk6,paqk6,loqk6,iqk6,jqk6,lqk6⟩⟩,qh5⟩
  refine ⟨_,rfl,?_⟩
  clear Aqk3 Lqk3 Pqk3
  replace G:=G.base qh5
  have qh5_s:=qh5.size
  have Aqk6_l:=Aqk6.lt
  have Lqk6_l:=Lqk6.lt
  have Lqk6_o:=Lqk6.low'
  have Pqk6_l:=Pqk6.lt
  refine vE #[pX g 0,U,pX g 0,pX g 0,pX g 0,pX g 0,iJ 8,bT,bF,bF,bF,bF,bT,U,U,U,U,pX g 0,.tuple #[],pX g 0,.tuple #[],U,U,U,U] ?_
  have st2:Stay d (finX ps now (p.1,p.2)).1:=finX_stay st1
  have hq4:=finX_len (ps:=ps) (now:=now) (p:=(p.1,p.2))
  obtain ⟨q,hq⟩:∃ zz,Hid (zz=finX ps now (p.1,p.2)):=⟨_,rfl⟩
  rw [← hq.out] at Aqk6 Lqk6 Pqk6 paqk6
  have hq_n:=Lqk6.len
  rw [← hq.out] at st2 hq4
  replace eX1:sendX d ps now xs=oweX ps (prbX q.1 now,q.2):=by rw [eX1,hq.out]
  replace hq4:q.2.length≤p.2.length+1:=hq4
  go_upto_region 11 with (fail)
  refine vR ?_
  refine vV (pX g 0) ?_
  refine vC (implPlanProbe _ _ _ _ _ _ _ _ _ _ h0 h1 st2.w_nxt _ ⟨Aqk6,Lqk6,Pqk6,paqk6,loqk6,(by omega),(by omega),(by omega)⟩) ?_
  rintro _ qw7 ⟨rfl,⟨gsqk9,nqk9,cqk9,⟨Aqk9,Lqk9,Pqk9,paqk9,loqk9,iqk9,jqk9,lqk9⟩⟩,qh8⟩
  refine ⟨_,rfl,?_⟩
  clear Aqk6 Lqk6 Pqk6
  replace G:=G.base qh8
  have qh8_s:=qh8.size
  have Aqk9_l:=Aqk9.lt
  have Lqk9_l:=Lqk9.lt
  have Lqk9_o:=Lqk9.low'
  have Pqk9_l:=Pqk9.lt
  refine vE #[pX g 0,U,pX g 0,pX g 0,pX g 0,pX g 0,iJ 8,bT,bF,bF,bF,bF,bT,U,U,U,U,pX g 0,.tuple #[],pX g 0,.tuple #[],pX g 0,.tuple #[],U,U] ?_
  have st3:Stay d (prbX q.1 now):=prbX_stay st2
  obtain ⟨r,hr⟩:∃ zz,Hid (zz=prbX q.1 now):=⟨_,rfl⟩
  rw [← hr.out] at Aqk9 Pqk9 paqk9
  have hr_n:=Lqk9.len
  rw [← hr.out] at st3 eX1
  have gd3:Good r.iN r.iD r.iR r.pn ps:=by rw [st3.iN,st3.iD,st3.iR,st3.pn];exact ms.gd
  replace eX1:Hid _:=eX1
  go_upto_region 12 with (fail)
  refine vR ?_
  refine vV (pX g 0) ?_
  refine vC (implConfirm _ _ _ _ _ _ _ _ _ _ (by omega) gd3 _ ⟨Aqk9,Lqk9,Pqk9,paqk9,loqk9,(by omega),(by omega),(by omega)⟩) ?_
  rintro _ qw10 ⟨rfl,⟨gsqk12,nqk12,cqk12,⟨Aqk12,Lqk12,Pqk12,paqk12,loqk12,iqk12,jqk12,lqk12⟩⟩,qh11⟩
  refine ⟨_,rfl,?_⟩
  clear Aqk9 Lqk9 Pqk9
  replace G:=G.base qh11
  have qh11_s:=qh11.size
  have Aqk12_l:=Aqk12.lt
  have Lqk12_l:=Lqk12.lt
  have Lqk12_o:=Lqk12.low'
  have Pqk12_l:=Pqk12.lt
  refine vE #[pX g 0,U,pX g 0,pX g 0,pX g 0,pX g 0,iJ 8,bT,bF,bF,bF,bF,bT,U,U,U,U,pX g 0,.tuple #[],pX g 0,.tuple #[],pX g 0,.tuple #[],pX g 0,.tuple #[]] ?_
  go_wp2_with (fail)
  refine bodyPost_end (v:=.tuple #[]) (results_none rfl _ _ _) rfl ⟨rfl,?_,G⟩
  rw [eX1.out]
  exact ⟨_,_,_,⟨Aqk12,Lqk12,Pqk12,paqk12,loqk12,(by omega),(by omega),(by omega)⟩⟩
 ·skip
  have eX:Hid (sendX d ps now xs=oweX ps (d,xs)):=(sendX_none (by rw [hs];rfl)).trans (owe_is ⟨by show d.st≠0;omega,by show d.st≠1;omega⟩)
  rw [hs] at f_st
  clear hs
  go_upto_region 12 with (fail)
  refine vR ?_
  refine vV (pX g 0) ?_
  refine vC (implConfirm _ _ _ _ _ _ _ _ _ _ (by omega) ms.gd _ ⟨A,L,P,pa,lo,(by omega),(by omega),(by omega)⟩) ?_
  rintro _ qw1 ⟨rfl,⟨gsqk3,nqk3,cqk3,⟨Aqk3,Lqk3,Pqk3,paqk3,loqk3,iqk3,jqk3,lqk3⟩⟩,qh2⟩
  refine ⟨_,rfl,?_⟩
  clear A L P
  replace G:=G.base qh2
  have qh2_s:=qh2.size
  have Aqk3_l:=Aqk3.lt
  have Lqk3_l:=Lqk3.lt
  have Lqk3_o:=Lqk3.low'
  have Pqk3_l:=Pqk3.lt
  refine vE #[pX g 0,U,pX g 0,pX g 0,pX g 0,pX g 0,iJ 9,bF,bF,bF,bF,bF,bF,bT,bF,bF,bT,U,U,U,U,U,U,pX g 0,.tuple #[]] ?_
  go_wp2_with (fail)
  refine bodyPost_end (v:=.tuple #[]) (results_none rfl _ _ _) rfl ⟨rfl,?_,G⟩
  rw [eX.out]
  exact ⟨_,_,_,⟨Aqk3,Lqk3,Pqk3,paqk3,loqk3,(by omega),(by omega),(by omega)⟩⟩
theorem mayS_of {c:Cn} {ps:List (Int×ByteArray)} (gc:GoodC c ps) (h:connOk c ps=true) (a:Option Addr) (p:Nat):MayS {c with pa:=a,pc:=p} ps:=by
 unfold connOk at h
 simp only [Bool.and_eq_true,decide_eq_true_eq,Bool.or_eq_true] at h
 obtain ⟨h1,h2,h3,h4,h5,h6,h7,h8,h9,h10,h11,h12,h13,h14,h15,h16⟩:=h
 have hc:=cong_bounds h5
 have ho:=(outOk_iff c.oD c.oR).1 h2
 have hu:=gc.w_una
 have hn:=gc.w_nxt
 have d1:=distI_is c.una c.nxt
 have d2:=distI_is c.nxt ((c.oF+(c.oD.size:Int)) % 4294967296)
 refine ⟨h1,gc.w_una,gc.w_nxt,gc.w_mx,gc.w_oF,gc.hod,gc.gd,h6,by show 0≤c.cX∧c.cX≤65535;omega,?_⟩
 show distI c.nxt ((c.oF+(c.oD.size:Int)) % 4294967296)≤100000
 generalize distI c.nxt ((c.oF+(c.oD.size:Int)) % 4294967296)=q at *
 generalize distI c.una c.nxt=r at *
 unfold IsDist at d1 d2
 obtain ⟨u1,u2⟩:=hu
 obtain ⟨n1,n2⟩:=hn
 have h16':c.oF=c.una∨c.oF=(c.una+1) % 4294967296∨c.oF=(c.una - 1) % 4294967296:=by
  rcases h16 with h|h|h
  ·exact .inl h
  ·exact .inr (.inl h.2)
  ·exact .inr (.inr h.2)
 clear h16 h1 h2 h3 h4 h5 h6 h7 h8 h10 h11 h12 h13 h14 h15 hc gc
 rcases h16' with h|h|h<;>omega
def sendOk (c:Cn) (ps:List (Int×ByteArray)) (now:Int):Bool:=connOk c ps && decide (0≤now∧now≤1000000000)
def sentC (c:Cn) (ps:List (Int×ByteArray)) (now:Int):Cn:=if sendOk c ps now then (sendX c ps now []).1 else c
def sentS (c:Cn) (ps:List (Int×ByteArray)) (now:Int):List Sg:=if sendOk c ps now then (sendX c ps now []).2 else []
theorem sendX_pn (c:Cn) (ps:List (Int×ByteArray)) (now:Int) (x0:List Sg):(sendX c ps now x0).1.pn=c.pn:=by
 have one:∀ d:Cn,(oneC d now).pn=d.pn:=by
  intro d
  unfold oneC timesC
  split<;>rfl
 have pcs:∀ (f:Nat) (d:Cn) (xs:List Sg),(piecesC ps now f d xs).1.pn=d.pn:=by
  intro f
  induction f with
  | zero=>intro d xs;rfl
  | succ f ih=>
   intro d xs
   unfold piecesC
   split
   ·rw [ih,one]
   ·rfl
 have fns:∀ q:Cn×List Sg,(fin2 ps now q).1.pn=q.1.pn:=by
  intro q
  unfold fin2
  split
  ·show (finC q.1 now).pn=q.1.pn
   unfold finC
   split
   ·rfl
   ·split<;>rfl
  ·rfl
 have prs:∀ d:Cn,(prbC d now).pn=d.pn:=by
  intro d
  unfold prbC
  split<;>rfl
 have ows:∀ q:Cn×List Sg,(owe2 ps q).1.pn=q.1.pn:=by
  intro q
  unfold owe2
  split<;>rfl
 unfold sendX
 rw [ows,prs,fns,pcs]
theorem sends_at {c:Cn} {ps:List (Int×ByteArray)} {now:Int} {x0:List Sg} (a:Option Addr) (p:Nat):sendX {c with pa:=a,pc:=p} ps now x0=({(sendX c ps now x0).1 with pa:=a,pc:=p},(sendX c ps now x0).2):=by
 have one:∀ d:Cn,oneC {d with pa:=a,pc:=p} now={oneC d now with pa:=a,pc:=p}:=by
  intro d
  have ht:timesC {d with pa:=a,pc:=p} now={timesC d now with pa:=a,pc:=p}:=by
   unfold timesC
   rw [show timesB {d with pa:=a,pc:=p}=timesB d from rfl]
   cases timesB d<;>rfl
  unfold oneC
  rw [ht]
  rfl
 have pcs:∀ (f:Nat) (d:Cn) (xs:List Sg),piecesC ps now f {d with pa:=a,pc:=p} xs=({(piecesC ps now f d xs).1 with pa:=a,pc:=p},(piecesC ps now f d xs).2):=by
  intro f
  induction f with
  | zero=>intro d xs;rfl
  | succ f ih=>
   intro d xs
   unfold piecesC
   rw [show goesB {d with pa:=a,pc:=p}=goesB d from rfl,show pieceSg {d with pa:=a,pc:=p} ps=pieceSg d ps from rfl]
   cases goesB d
   ·rfl
   ·rw [one,if_pos rfl,if_pos rfl]
    exact ih _ _
 have fns:∀ q:Cn×List Sg,fin2 ps now ({q.1 with pa:=a,pc:=p},q.2)=({(fin2 ps now q).1 with pa:=a,pc:=p},(fin2 ps now q).2):=by
  intro q
  unfold fin2
  rw [show finB ({q.1 with pa:=a,pc:=p},q.2).1=finB q.1 from rfl]
  cases finB q.1
  ·rfl
  ·have hc:finC {q.1 with pa:=a,pc:=p} now={finC q.1 now with pa:=a,pc:=p}:=by
    unfold finC
    by_cases h3:q.1.st=3
    ·rw [if_pos (show ({q.1 with pa:=a,pc:=p}:Cn).st=3 from h3),if_pos h3]
     rfl
    ·rw [if_neg (show ¬ ({q.1 with pa:=a,pc:=p}:Cn).st=3 from h3),if_neg h3]
     by_cases h6:q.1.st=6
     ·rw [if_pos (show ({q.1 with pa:=a,pc:=p}:Cn).st=6 from h6),if_pos h6]
      rfl
     ·rw [if_neg (show ¬ ({q.1 with pa:=a,pc:=p}:Cn).st=6 from h6),if_neg h6]
      rfl
   rw [if_pos rfl,if_pos rfl]
   show (finC {q.1 with pa:=a,pc:=p} now,_)=_
   rw [hc]
   rfl
 have prs:∀ d:Cn,prbC {d with pa:=a,pc:=p} now={prbC d now with pa:=a,pc:=p}:=by
  intro d
  unfold prbC
  rw [show prbB {d with pa:=a,pc:=p}=prbB d from rfl]
  cases prbB d<;>rfl
 have ows:∀ (d:Cn) (xs:List Sg),owe2 ps ({d with pa:=a,pc:=p},xs)=({(owe2 ps (d,xs)).1 with pa:=a,pc:=p},(owe2 ps (d,xs)).2):=by
  intro d xs
  unfold owe2
  rw [show oweB ({d with pa:=a,pc:=p},xs).1=oweB (d,xs).1 from rfl]
  cases oweB (d,xs).1<;>rfl
 unfold sendX
 rw [show leftC {c with pa:=a,pc:=p}=leftC c from rfl,pcs,fns]
 show owe2 ps (prbC {(fin2 ps now (piecesC ps now (leftC c).toNat c x0)).1 with pa:=a,pc:=p} now,_)=_
 rw [prs,ows]
end Go.Proofs.YtmigalhmlofbkaaGreatDoor
