/- A part of the proof. -/
import Derived.Test.YtmigalhmlofbkaaGreatDoorPiece11
set_option linter.unusedVariables false
set_option maxRecDepth 20000
set_option maxHeartbeats 8000000
namespace Go.Proofs.YtmigalhmlofbkaaGreatDoor
open Go.ChangeShapes Go.WideShapes Go.ChangeAt Go.RowKit
structure MayS (c:Cn) (ps:List (Int×ByteArray)):Prop where
 st:0≤c.st∧c.st≤9
 w_una:IsWord c.una
 w_nxt:IsWord c.nxt
 w_mx:IsWord c.mx
 w_oF:IsWord c.oF
 hod:c.oD.size≤1048576
 gd:Good c.iN c.iD c.iR c.pn ps
 wnd:0≤c.wnd∧c.wnd≤65535
 cX:0≤c.cX∧c.cX≤65535
 left:leftC c≤100000
def KeepsX (c:Cn) (ps:List (Int×ByteArray)) (now:Int) (x0:List Sg) (d:Cn) (xs:List Sg):Prop:=
 Sent c d∧leftC d≤leftC c∧(xs.length:Int)+max (leftC d) 0≤x0.length+max (leftC c) 0∧∃ f:Nat,leftC d≤f∧piecesC ps now f d xs=piecesC ps now (leftC c).toNat c x0
theorem KeepsX.start {c:Cn} {ps:List (Int×ByteArray)} {now:Int} {x0:List Sg} (h1:IsWord c.nxt) (h2:IsWord c.mx):KeepsX c ps now x0 c x0:=
 ⟨Sent.refl h1 h2,Int.le_refl _,Int.le_refl _,(leftC c).toNat,by omega,rfl⟩
theorem KeepsX.one {c:Cn} {ps:List (Int×ByteArray)} {now:Int} {x0:List Sg} {d:Cn} {xs:List Sg} (h:KeepsX c ps now x0 d xs) (hg:goesB d=true) (hl:leftC (oneC d now)=leftC d - sizeN d∧1≤sizeN d∧sizeN d≤leftC d):KeepsX c ps now x0 (oneC d now) (xs++[pieceSg d ps]):=by
 obtain ⟨s,h1,h2,f,h3,e⟩:=h
 refine ⟨s.one now,by omega,by simp;omega,?_⟩
 cases f with
 | zero=>omega
 | succ f=>
  refine ⟨f,by omega,?_⟩
  rw [← e]
  conv=>rhs;unfold piecesC
  rw [hg]
  rfl
theorem measX {c d:Cn} {now:Int} (s:Sent c d) (s1:Sent c (oneC d now)) (hl:leftC (oneC d now)=leftC d - sizeN d∧1≤sizeN d∧sizeN d≤leftC d):(distI (oneC d now).nxt (behindC c)).toNat<(distI d.nxt (behindC c)).toNat:=by
 have e1:behindC c=behindC (oneC d now):=by unfold behindC;rw [s1.oF,s1.oD]
 have e2:behindC c=behindC d:=by unfold behindC;rw [s.oF,s.oD]
 have l1:distI (oneC d now).nxt (behindC c)=leftC (oneC d now):=by unfold leftC;rw [e1]
 have l2:distI d.nxt (behindC c)=leftC d:=by unfold leftC;rw [e2]
 rw [l1,l2]
 omega
theorem KeepsX.stop {c:Cn} {ps:List (Int×ByteArray)} {now:Int} {x0:List Sg} {d:Cn} {xs:List Sg} (h:KeepsX c ps now x0 d xs) (hg:goesB d=false):piecesC ps now (leftC c).toNat c x0=(d,xs):=by
 obtain ⟨-,-,-,f,-,e⟩:=h
 rw [← e]
 cases f with
 | zero=>rfl
 | succ f=>
  unfold piecesC
  rw [hg]
  rfl
theorem pieces_sent {c:Cn} {ps:List (Int×ByteArray)} {now:Int}:∀ (f:Nat) (d:Cn) (xs:List Sg),Sent c d→Sent c (piecesC ps now f d xs).1
 | 0,d,xs,h=>h
 | f+1,d,xs,h=>by
  unfold piecesC
  split
  ·exact pieces_sent f _ _ (h.one now)
  ·exact h
theorem pieces_len {ps:List (Int×ByteArray)} {now:Int}:∀ (f:Nat) (d:Cn) (xs:List Sg),(piecesC ps now f d xs).2.length≤xs.length+f
 | 0,d,xs=>Nat.le_refl _
 | f+1,d,xs=>by
  unfold piecesC
  split
  ·have:=pieces_len (ps:=ps) (now:=now) f (oneC d now) (xs++[pieceSg d ps])
   simp at this
   omega
  ·simp
def sendX (c:Cn) (ps:List (Int×ByteArray)) (now:Int) (x0:List Sg):Cn×List Sg:=
 owe2 ps (prbC (fin2 ps now (piecesC ps now (leftC c).toNat c x0)).1 now,(fin2 ps now (piecesC ps now (leftC c).toNat c x0)).2)
theorem pieces_none {c:Cn} {ps:List (Int×ByteArray)} {now:Int} {x0:List Sg} (h:sendsB c.st=false) (f:Nat):piecesC ps now f c x0=(c,x0):=by
 cases f with
 | zero=>rfl
 | succ f=>
  unfold piecesC goesB
  rw [h]
  rfl
theorem sendX_none {c:Cn} {ps:List (Int×ByteArray)} {now:Int} {x0:List Sg} (h:sendsB c.st=false):sendX c ps now x0=owe2 ps (c,x0):=by
 unfold sendX
 rw [pieces_none h]
 unfold fin2 finB
 rw [show (c,x0).1=c from rfl,h]
 unfold prbC prbB
 simp [h]
theorem implSendPieces (B g pg:Nat) (now:Int) (ps:List (Int×ByteArray)) (d:Cn) (gs n cap:Nat) (xs:List Sg) (h0:0≤now) (h1:now≤1000000000) (ms:MayS d ps) (hs:sendsB d.st=true) (hx:xs.length≤50000) (w:World) (a:Acts B g pg now ps d gs n cap xs w) :
  Calls Tryz.prog 81 #[.pointer (some ⟨g,0,none⟩)] w fun e w'=>e=.returned (.tuple #[])∧ActsX B g pg now ps ((piecesC ps now (leftC d).toNat d xs).1) ((piecesC ps now (leftC d).toNat d xs).2) w'∧Base B w w':=by
 obtain ⟨A,L,P,pa,lo,i,j,l⟩:=a
 have hA:=A.lt
 have hL:=L.lt
 have hLo:=L.low'
 have hP:=P.lt
 have hPo:=P.low'
 have G:Base B w w:=Base.refl (by omega)
 have hpl:=fun wx=>implPieceLen d ms.w_una ms.w_nxt ms.wnd ms.cX wx
 go_enter Tryz.func81,Tryz.ntmps81
 go_upto_region 0 with (fail)
 refine vR ?_
 refine vV (pX g 0) ?_
 refine vV (pX g 0) ?_
 refine vV (pX g 0) ?_
 refine VL.mk (want_end A (by kernel_rfl) _ rfl (by kernel_rfl) (VL.out ?_))
 refine vK (hpl _) ?_
 intro qw1 qg2
 replace A:=A.since qg2
 replace L:=L.since qg2
 replace P:=P.since qg2
 replace G:=G.trans qg2
 have qg2_s:=qg2.size
 refine vV (iJ (pieceN d)) ?_
 refine vE #[pX g 0,U,iJ (pieceN d),pX g 0,pX g 0,pX g 0,.agg (cnCells d),iJ (pieceN d),U,U,U,U,U,U,U,U,U,U] ?_
 go_wp2_with (fail)
 go_loopw [2] (fun v wr=>∃ (e:Cn) (ge ne ce:Nat) (ye:List Sg),v=.int .i64 (pieceN e)∧Acts B g pg now ps e ge ne ce ye wr∧Base B w wr∧Hid (KeepsX d ps now xs e ye)) (fun _ wr=>(distI (intOf ((wr.cell? ⟨g,3,none⟩).getD (.int .u32 0))) (behindC d)).toNat)
 case atStart=>exact ⟨d,_,_,_,xs,rfl,⟨A,L,P,pa,lo,(by omega),(by omega),(by omega)⟩,G,KeepsX.start ms.w_nxt ms.w_mx⟩
 case round=>
  clear A L P G
  obtain ⟨e,ge,ne,ce,ye,rfl,⟨A,L,P,pe,le,i2,j2,l2⟩,G,hK⟩:=hrel
  have hA2:=A.lt
  have hL2:=L.lt
  have hLo2:=L.low'
  have hP2:=P.lt
  have hPo2:=P.low'
  have sd:=hK.out.1
  have hlen:=L.len
  have hd_una:IsWord e.una:=by rw [sd.una];exact ms.w_una
  have hd_oF:IsWord e.oF:=by rw [sd.oF];exact ms.w_oF
  have hd_od:e.oD.size≤1048576:=by rw [sd.oD];exact ms.hod
  have hd_wn:0≤e.wnd∧e.wnd≤65535:=by rw [sd.wnd];exact ms.wnd
  have hd_cX:0≤e.cX∧e.cX≤65535:=by rw [sd.cX];exact ms.cX
  have hd_gd:Good e.iN e.iD e.iR e.pn ps:=by rw [sd.iN,sd.iD,sd.iR,sd.pn];exact ms.gd
  have hd_st:sendsB e.st=true:=by rw [sd.st];exact hs
  have hnb:ne≤200000:=by
   have a1:=hK.out.2.2.1
   have a2:=ms.left
   omega
  have hpg:=piece_goes e
  obtain ⟨pn,hpn⟩:∃ q,Hid (q=pieceN e):=⟨_,rfl⟩
  rw [← hpn.out] at hpg ⊢
  have hA0:Hid (wr.cell? ⟨g,3,none⟩=some (.int .u32 e.nxt)):=A.cell 3
  by_cases hp:0<pn
  case neg=>
   have hst:stopsB e=true:=by
    rcases Bool.eq_false_or_eq_true (stopsB e) with h|h
    ·exact h
    ·exact absurd (hpg.1.2 h) hp
   have hfin:Hid (piecesC ps now (leftC d).toNat d xs=(e,ye)):=hK.out.stop (by unfold goesB;rw [hd_st,hst];rfl)
   go_wp2_with (fail)
   refine bodyPost_end (v:=.tuple #[]) (results_none rfl _ _ _) rfl ⟨rfl,?_,G⟩
   rw [hfin.out]
   exact ⟨_,_,_,⟨A,L,P,pe,le,i2,j2,l2⟩⟩
  case pos=>
   have hst:=hpg.1.1 hp
   have hsz:pn=sizeN e:=hpg.2 hp
   have hol:=one_left (now:=now) sd.w_nxt hst
   have hki:IsInt pn:=by
    have a1:=hK.out.2.1
    have a2:=ms.left
    have a3:=hol.2
    unfold IsInt
    omega
   have hone:=hK.out.one (by unfold goesB;rw [hd_st,hst];rfl) hol
   have hmeas:=measX sd hone.1 hol
   replace hone:Hid _:=hone
   replace hol:Hid _:=hol
   replace hmeas:Hid _:=hmeas
   have hpl2:=fun wx=>implPieceLen (oneC e now) (by rw [hone.out.1.una];exact ms.w_una) hone.out.1.w_nxt (by rw [hone.out.1.wnd];exact ms.wnd) (by rw [hone.out.1.cX];exact ms.cX) wx
   have hpt:decide (0<pn)=true:=decide_eq_true hp
   clear hpg
   go_upto_region 1 with (fail)
   refine vR ?_
   refine vV (iJ pn) ?_
   refine vV (.bool true) ?_ (hrun:=by rw [← hpt];kernel_rfl)
   refine vE #[pX g 0,U,iJ pn,pX g 0,pX g 0,pX g 0,.agg (cnCells d),iJ (pieceN d),iJ pn,bT,u10,u11,u12,u13,u14,u15,u16,u17] ?_
   go_upto_region 3 with (fail)
   refine vR ?_
   refine vV (pX g 0) ?_
   refine vV (iJ pn) ?_
   refine vC (implSendPiece _ _ _ _ _ _ _ _ _ _ pn h0 h1 hsz hki hnb sd.w_nxt sd.w_mx hd_oF hd_od hd_gd _ ⟨A,L,P,pe,le,(by omega),(by omega),(by omega)⟩) ?_
   rintro _ rw1 ⟨rfl,⟨gsrk3,nrk3,crk3,⟨Ark3,Lrk3,Prk3,park3,lork3,irk3,jrk3,lrk3⟩⟩,rh2⟩
   refine ⟨_,rfl,?_⟩
   clear A L P
   replace G:=G.base rh2
   have rh2_s:=rh2.size
   have Ark3_l:=Ark3.lt
   have Lrk3_l:=Lrk3.lt
   have Lrk3_o:=Lrk3.low'
   have Prk3_l:=Prk3.lt
   refine vE #[pX g 0,U,iJ pn,pX g 0,pX g 0,pX g 0,.agg (cnCells d),iJ (pieceN d),iJ pn,bT,u10,u11,u12,u13,u14,pX g 0,iJ pn,.tuple #[]] ?_
   go_upto_region 2 with (fail)
   refine vR ?_
   refine vV (pX g 0) ?_
   refine vV (pX g 0) ?_
   refine vV (pX g 0) ?_
   refine VL.mk (want_end Ark3 (by kernel_rfl) _ rfl (by kernel_rfl) (VL.out ?_))
   refine vK (hpl2 _) ?_
   intro rw4 rg5
   replace Ark3:=Ark3.since rg5
   replace Lrk3:=Lrk3.since rg5
   replace Prk3:=Prk3.since rg5
   replace G:=G.trans rg5
   have rg5_s:=rg5.size
   refine vV (iJ (pieceN (oneC e now))) ?_
   refine vE #[pX g 0,U,iJ (pieceN (oneC e now)),pX g 0,pX g 0,pX g 0,.agg (cnCells d),iJ (pieceN d),iJ pn,bT,pX g 0,pX g 0,pX g 0,.agg (cnCells (oneC e now)),iJ (pieceN (oneC e now)),pX g 0,iJ pn,.tuple #[]] ?_
   go_roundw
   case rel=>
    (repeat apply Exists.intro)
    exact ⟨⟨oneC e now,_,_,_,_,rfl,⟨Ark3,Lrk3,Prk3,park3,lork3,(by omega),(by omega),(by omega)⟩,G,hone.out⟩,rfl⟩
   case measure=>
    have m1:rw4.cell? ⟨g,3,none⟩=some (.int .u32 (oneC e now).nxt):=Ark3.cell 3
    rw [m1,hA0.out]
    exact hmeas.out
end Go.Proofs.YtmigalhmlofbkaaGreatDoor
