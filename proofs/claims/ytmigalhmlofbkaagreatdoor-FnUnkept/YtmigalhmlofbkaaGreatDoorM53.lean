/- A part of the proof. -/
import Derived.Test.YtmigalhmlofbkaaGreatDoorM52
import Derived.Test.YtmigalhmlofbkaaGreatDoorK1
set_option linter.unusedVariables false
set_option maxRecDepth 20000
set_option maxHeartbeats 16000000
namespace Go.Proofs.YtmigalhmlofbkaaGreatDoor
open Go.ChangeShapes Go.WideShapes Go.ChangeAt Go.RowKit
def Crs (w0:World) (g:Nat) (a:Option Addr) (len cap:Nat) (zs:List Int) (w:World):Prop:=Cur w0 w g a len cap zs w
section
variable {w0:World} {g:Nat} {a:Option Addr} {len cap:Nat} {zs:List Int}
theorem Crs.of {wb w:World} (h:Cur w0 wb g a len cap zs w):Crs w0 g a len cap zs w:=h.rebase
theorem Crs.here {w:World} (h:Crs w0 g a len cap zs w):g<w.heap.size:=Cur.here h
theorem Crs.low {w:World} (h:Crs w0 g a len cap zs w):w0.heap.size≤g:=Cur.low h
theorem Crs.bel {w:World} (h:Crs w0 g a len cap zs w):Below w0.heap.size w0 w:=Cur.bel h
theorem Crs.since {w x:World} (h:Crs w0 g a len cap zs w) (k:Since w x):Crs w0 g a len cap zs x:=(Cur.moved (g':=g) h k).rebase
theorem Crs.touch {w x:World} {b:Nat} (h:Crs w0 g a len cap zs w) (t:Touch b w x) (hb:b≠g∧w0.heap.size≤b):Crs w0 g a len cap zs x:=by
 obtain ⟨i,y,hi,c0,c1,c2,f1,f2⟩:=Cur.cells h
 have hh:=h.here
 have hl:=h.low
 have hbel:=h.bel
 have cc:∀ q,x.cell? ⟨g,q,none⟩=w.cell? ⟨g,q,none⟩:=fun q=>t.cell (p:=⟨g,q,none⟩) (fun e=>hb.1 e.symm) hh
 have ff:∀ q,x.frozen? ⟨g,q,none⟩=w.frozen? ⟨g,q,none⟩:=fun q=>t.frozen (p:=⟨g,q,none⟩) (fun e=>hb.1 e.symm) hh
 refine ⟨Cur.bytes h,Cur.most h,⟨t.os.trans hbel.os,t.tape.trans hbel.tape,t.output.trans hbel.output,Nat.le_trans hbel.size t.size,fun k hk=>(t.block k (Nat.lt_of_lt_of_le hk hbel.size) (by omega)).trans (hbel.block k hk)⟩,hl,Nat.lt_of_lt_of_le hh t.size,Touch.refl _ _,i,y,hi,(cc 0).trans c0,(cc 1).trans c1,(cc 2).trans c2,(ff 1).trans f1,(ff 2).trans f2⟩
theorem dBelow (n:Int) (hn:0<n) (w:World) (hc:Crs w0 g a len cap zs w) :
  Calls Tryz.prog 20 #[.pointer (some ⟨g,0,none⟩),.int .i64 n] w fun e w'=>∃ r:Int,e=.returned (.int .i64 r)∧(0≤r∧r<n)∧Crs w0 g a len cap zs w'∧Touch g w w':=
 (belowB n hn w hc).mono fun e w' ⟨r,he,h0,h1,h,t⟩=>⟨r,he,⟨h0,h1⟩,h.rebase,t⟩
theorem dOnce (n:Int) (w:World) (hc:Crs w0 g a len cap zs w) :
  Calls Tryz.prog 54 #[.pointer (some ⟨g,0,none⟩),.int .i64 n] w fun e w'=>∃ r:Bool,e=.returned (.bool r)∧Crs w0 g a len cap zs w'∧Touch g w w':=
 (onceB n w hc).mono fun e w' ⟨r,he,h,t⟩=>⟨r,he,h.rebase,t⟩
theorem dWord (w:World) (hc:Crs w0 g a len cap zs w) :
  Calls Tryz.prog 17 #[.pointer (some ⟨g,0,none⟩)] w fun e w'=>∃ x:Int,e=.returned (.int .u32 x)∧IsWord x∧Crs w0 g a len cap zs w'∧Touch g w w':=
 (drawWord w hc).mono fun e w' ⟨x,he,hx,h⟩=>⟨x,he,hx,h.rebase,h.touch⟩
theorem dPick (b n:Nat) (vs:List Int) (hn:vs.length=n) (hpos:0<n) (hn2:n≤1000) (w:World) (hc:Crs w0 g a len cap zs w) (hne:b≠g) (hl:Ints w b vs) :
  Calls Tryz.prog 53 #[.pointer (some ⟨g,0,none⟩),.slice (some ⟨b,0,none⟩) n n] w fun e w'=>∃ v:Int,e=.returned (.int .i64 v)∧v∈vs∧Crs w0 g a len cap zs w'∧Touch g w w':=by
 refine (pickInt b n vs hn hpos hn2 w hc hne hl).mono ?_
 rintro e w' ⟨k,hk,he,h⟩
 refine ⟨vs.getD k 0,he,?_,h.rebase,h.touch⟩
 rw [List.getD_eq_getElem?_getD,List.getElem?_eq_getElem hk]
 exact List.getElem_mem hk
end
theorem synI_hear {s:Sg} {i room now:Int} (h:1≤room∧room≤4096):synI (hearC s i room now)=synSg (hearC s i room now) []:=by
 have e:=synI_is (a:=2) (i:=i) (now:=now) (nx:=(s.sq+1) % 4294967296) h
 unfold synI synSg at e ⊢
 exact e
theorem hear_ask (s:Sg) (room now:Int):hearOk s room now↔(1≤room∧room≤4096)∧(0≤now∧now≤1000000000)∧askOk s=true:=by
 unfold hearOk askOk formOk
 constructor
 ·rintro ⟨h1,h2,h3,h4,h5⟩
  refine ⟨h1,h2,?_⟩
  have hz:s.d.size=0:=by rw [h5];rfl
  simp [h3,h5,h4]
 ·rintro ⟨h1,h2,h3⟩
  simp at h3
  exact ⟨h1,h2,h3.1.1,h3.2.2.1,h3.1.2⟩
theorem implHear (s:Sg) (i room now:Int) (hi:IsWord i) (hq:IsWord s.sq) (hd:s.d.size≤1048576) (w:World) (E:Laid0 w) :
  Calls Tryz.prog 39 #[sgVal s,.int .u32 i,.int .i64 room,.int .i64 now] w fun e w'=>e=.returned (hearV s i room now)∧Since w w':=by
 have k1:=fun wx=>isRoomI room wx
 have k2:=fun wx=>isTickI now wx
 have k3:=fun wx=>asking s hd wx
 obtain ⟨V,hV⟩:∃ V,Hid (V=hearV s i room now):=⟨_,rfl⟩
 rw [← hV.out]
 have hok:=hear_ask s room now
 replace hok:Hid _:=hok
 have hE:=E.lt
 unfold sgVal
 go_enter Tryz.func39,Tryz.ntmps39
 go_upto_region 2 with (fail)
 rw [cn_zero,sg_zero,show (#[.string ⟨#[]⟩,.bool false,.bool false,.bool false]:Array Value)=mfCells ByteArray.empty false false false from rfl]
 have G:=((((Since.refl w).alloc (.cells (sgCells s) 41)).alloc (.cells (cnCells cnZero) 39)).alloc (.cells (sgCells sgZero) 41)).alloc (.cells (mfCells ByteArray.empty false false false) 75)
 have S:=(Blk.new w (sgCells s) 41).since ((((Since.refl _).alloc (.cells (cnCells cnZero) 39)).alloc (.cells (sgCells sgZero) 41)).alloc (.cells (mfCells ByteArray.empty false false false) 75))
 have Z:=(Blk.new (w.alloc (.cells (sgCells s) 41)) (cnCells cnZero) 39).since (((Since.refl _).alloc (.cells (sgCells sgZero) 41)).alloc (.cells (mfCells ByteArray.empty false false false) 75))
 have Y:=(Blk.new ((w.alloc (.cells (sgCells s) 41)).alloc (.cells (cnCells cnZero) 39)) (sgCells sgZero) 41).since ((Since.refl _).alloc (.cells (mfCells ByteArray.empty false false false) 75))
 have F:=Blk.new (((w.alloc (.cells (sgCells s) 41)).alloc (.cells (cnCells cnZero) 39)).alloc (.cells (sgCells sgZero) 41)) (mfCells ByteArray.empty false false false) 75
 simp only [World.size_alloc] at Z Y F
 replace E:=E.since G
 generalize (((w.alloc (.cells (sgCells s) 41)).alloc (.cells (cnCells cnZero) 39)).alloc (.cells (sgCells sgZero) 41)).alloc (.cells (mfCells ByteArray.empty false false false) 75)=x0 at S Z Y F G E ⊢
 have hF:=F.lt
 by_cases ha:1≤room∧room≤4096
 case neg=>
  have e:Hid (V=.tuple #[cnVal cnZero,sgVal sgZero,.bool false]):=hV.out.trans (if_neg fun h=>ha (hok.out.1 h).1)
  rw [show decide (1≤room∧room≤4096)=false by simp [ha]] at k1
  clear ha k2 k3
  refine vR ?_
  refine vV (iJ room) ?_
  refine vC (k1 _) ?_
  rintro _ _ ⟨rfl,rfl⟩
  refine ⟨_,rfl,?_⟩
  refine vV (bT) ?_
  refine vV (bT) ?_
  refine vS ?_
  refine vS ?_
  refine vS ?_
  refine vV (bT) ?_
  refine vV (bT) ?_
  refine vS ?_
  refine vS ?_
  refine vS ?_
  refine vS ?_
  refine vV (bT) ?_
  refine vE #[.agg (sgCells s),uJ i,iJ room,iJ now,pX w.heap.size 0,U,U,U,pX (w.heap.size+1) 0,pX (w.heap.size+1+1) 0,bF,pX (w.heap.size+1+1+1) 0,U,iJ room,bF,bT,bT,U,U,U,bT,bT,U,U,U,U,bT,U,U,U,U,U,U,U,U,U,U,U,U,U] ?_
  go_upto_region 3 with (fail)
  refine vR ?_
  refine vV (.agg (cnCells cnZero)) ?_
  refine vV (.agg (sgCells sgZero)) ?_
  refine sB (cnCells cnZero) cn_big Z (cn_size _) (cn_size _) (cn_one _) ?_
  intro qw1 qt2 qB3
  clear Z
  replace S:=S.touch qt2 (by omega)
  replace Y:=Y.touch qt2 (by omega)
  replace F:=F.touch qt2 (by omega)
  replace E:=E.touch qt2 (by omega)
  replace G:=since_touch G qt2 (by omega)
  have qt2_s:=qt2.size
  refine sB (sgCells sgZero) seg_big Y rfl rfl (seg_one _ _ _ _ _ _ _ _) ?_
  intro qw4 qt5 qB6
  clear Y
  replace S:=S.touch qt5 (by omega)
  replace qB3:=qB3.touch qt5 (by omega)
  replace F:=F.touch qt5 (by omega)
  replace E:=E.touch qt5 (by omega)
  replace G:=since_touch G qt5 (by omega)
  have qt5_s:=qt5.size
  refine vV (bF) ?_
  refine vE #[.agg (sgCells s),uJ i,iJ room,iJ now,pX w.heap.size 0,U,U,U,pX (w.heap.size+1) 0,pX (w.heap.size+1+1) 0,bF,pX (w.heap.size+1+1+1) 0,U,iJ room,bF,bT,bT,U,U,U,bT,bT,U,U,U,U,bT,.agg (cnCells cnZero),.agg (sgCells sgZero),U,U,U,U,U,U,U,U,U,U,U] ?_
  go_wp2_with (fail)
  exact bodyPost_ret (v:=.tuple #[.agg (cnCells cnZero),.agg (sgCells sgZero),.bool false]) (results_cn3 (t:=8) (u:=9) (v:=10) rfl _ rfl rfl qB3 qB6) rfl ⟨by rw [e.out];rfl,G⟩
 case pos=>
  rw [show decide (1≤room∧room≤4096)=true by simp [ha]] at k1
  by_cases hb:0≤now∧now≤1000000000
  case neg=>
   have e:Hid (V=.tuple #[cnVal cnZero,sgVal sgZero,.bool false]):=hV.out.trans (if_neg fun h=>hb (hok.out.1 h).2.1)
   rw [show decide (0≤now∧now≤1000000000)=false by simp [hb]] at k2
   clear ha hb k3
   refine vR ?_
   refine vV (iJ room) ?_
   refine vC (k1 _) ?_
   rintro _ _ ⟨rfl,rfl⟩
   refine ⟨_,rfl,?_⟩
   refine vV (bF) ?_
   refine vV (bF) ?_
   refine vV (iJ now) ?_
   refine vC (k2 _) ?_
   rintro _ _ ⟨rfl,rfl⟩
   refine ⟨_,rfl,?_⟩
   refine vV (bT) ?_
   refine vV (bT) ?_
   refine vV (bT) ?_
   refine vS ?_
   refine vS ?_
   refine vS ?_
   refine vS ?_
   refine vV (bT) ?_
   refine vE #[.agg (sgCells s),uJ i,iJ room,iJ now,pX w.heap.size 0,U,U,U,pX (w.heap.size+1) 0,pX (w.heap.size+1+1) 0,bF,pX (w.heap.size+1+1+1) 0,U,iJ room,bT,bF,bF,iJ now,bF,bT,bT,bT,U,U,U,U,bT,U,U,U,U,U,U,U,U,U,U,U,U,U] ?_
   go_upto_region 3 with (fail)
   refine vR ?_
   refine vV (.agg (cnCells cnZero)) ?_
   refine vV (.agg (sgCells sgZero)) ?_
   refine sB (cnCells cnZero) cn_big Z (cn_size _) (cn_size _) (cn_one _) ?_
   intro qw1 qt2 qB3
   clear Z
   replace S:=S.touch qt2 (by omega)
   replace Y:=Y.touch qt2 (by omega)
   replace F:=F.touch qt2 (by omega)
   replace E:=E.touch qt2 (by omega)
   replace G:=since_touch G qt2 (by omega)
   have qt2_s:=qt2.size
   refine sB (sgCells sgZero) seg_big Y rfl rfl (seg_one _ _ _ _ _ _ _ _) ?_
   intro qw4 qt5 qB6
   clear Y
   replace S:=S.touch qt5 (by omega)
   replace qB3:=qB3.touch qt5 (by omega)
   replace F:=F.touch qt5 (by omega)
   replace E:=E.touch qt5 (by omega)
   replace G:=since_touch G qt5 (by omega)
   have qt5_s:=qt5.size
   refine vV (bF) ?_
   refine vE #[.agg (sgCells s),uJ i,iJ room,iJ now,pX w.heap.size 0,U,U,U,pX (w.heap.size+1) 0,pX (w.heap.size+1+1) 0,bF,pX (w.heap.size+1+1+1) 0,U,iJ room,bT,bF,bF,iJ now,bF,bT,bT,bT,U,U,U,U,bT,.agg (cnCells cnZero),.agg (sgCells sgZero),U,U,U,U,U,U,U,U,U,U,U] ?_
   go_wp2_with (fail)
   exact bodyPost_ret (v:=.tuple #[.agg (cnCells cnZero),.agg (sgCells sgZero),.bool false]) (results_cn3 (t:=8) (u:=9) (v:=10) rfl _ rfl rfl qB3 qB6) rfl ⟨by rw [e.out];rfl,G⟩
  case pos=>
   rw [show decide (0≤now∧now≤1000000000)=true by simp [hb]] at k2
   rcases Bool.eq_false_or_eq_true (askOk s) with hk|hk
   case inr=>
    have e:Hid (V=.tuple #[cnVal cnZero,sgVal sgZero,.bool false]):=hV.out.trans (if_neg fun h=>by rw [(hok.out.1 h).2.2] at hk;cases hk)
    clear ha hb
    refine vR ?_
    refine vV (iJ room) ?_
    refine vC (k1 _) ?_
    rintro _ _ ⟨rfl,rfl⟩
    refine ⟨_,rfl,?_⟩
    refine vV (bF) ?_
    refine vV (bF) ?_
    refine vV (iJ now) ?_
    refine vC (k2 _) ?_
    rintro _ _ ⟨rfl,rfl⟩
    refine ⟨_,rfl,?_⟩
    refine vV (bF) ?_
    refine vV (bF) ?_
    refine vV (bF) ?_
    refine vB seg_big S rfl ?_
    refine vC (k3 _) ?_
    rintro _ qw1 ⟨⟨av,rfl,hv⟩,qg2⟩
    refine ⟨_,rfl,?_⟩
    replace S:=S.since qg2
    replace Z:=Z.since qg2
    replace Y:=Y.since qg2
    replace F:=F.since qg2
    replace E:=E.since qg2
    replace G:=G.trans qg2
    have qg2_s:=qg2.size
    rw [hk] at hv
    refine vV (.iface 81 (pX (w.heap.size+1+1+1) 0)) ?_
    refine vC (as_fit false av hv _ _ E.at0 F) ?_
    rintro _ qw3 ⟨rfl,qt4,tt,qB5⟩
    refine ⟨_,rfl,?_⟩
    clear F
    replace S:=S.touch qt4 (by omega)
    replace Z:=Z.touch qt4 (by omega)
    replace Y:=Y.touch qt4 (by omega)
    replace E:=E.touch qt4 (by omega)
    replace G:=since_touch G qt4 (by omega)
    have qt4_s:=qt4.size
    refine vV (bT) ?_
    refine vE #[.agg (sgCells s),uJ i,iJ room,iJ now,pX w.heap.size 0,U,U,U,pX (w.heap.size+1) 0,pX (w.heap.size+1+1) 0,bF,pX (w.heap.size+1+1+1) 0,U,iJ room,bT,bF,bF,iJ now,bT,bF,bF,bF,.agg (sgCells s),av,.iface 81 (pX (w.heap.size+1+1+1) 0),bT,bT,U,U,U,U,U,U,U,U,U,U,U,U,U] ?_
    go_upto_region 3 with (fail)
    refine vR ?_
    refine vV (.agg (cnCells cnZero)) ?_
    refine vV (.agg (sgCells sgZero)) ?_
    refine sB (cnCells cnZero) cn_big Z (cn_size _) (cn_size _) (cn_one _) ?_
    intro qw6 qt7 qB8
    clear Z
    replace S:=S.touch qt7 (by omega)
    replace Y:=Y.touch qt7 (by omega)
    replace qB5:=qB5.touch qt7 (by omega)
    replace E:=E.touch qt7 (by omega)
    replace G:=since_touch G qt7 (by omega)
    have qt7_s:=qt7.size
    refine sB (sgCells sgZero) seg_big Y rfl rfl (seg_one _ _ _ _ _ _ _ _) ?_
    intro qw9 qt10 qB11
    clear Y
    replace S:=S.touch qt10 (by omega)
    replace qB8:=qB8.touch qt10 (by omega)
    replace qB5:=qB5.touch qt10 (by omega)
    replace E:=E.touch qt10 (by omega)
    replace G:=since_touch G qt10 (by omega)
    have qt10_s:=qt10.size
    refine vV (bF) ?_
    refine vE #[.agg (sgCells s),uJ i,iJ room,iJ now,pX w.heap.size 0,U,U,U,pX (w.heap.size+1) 0,pX (w.heap.size+1+1) 0,bF,pX (w.heap.size+1+1+1) 0,U,iJ room,bT,bF,bF,iJ now,bT,bF,bF,bF,.agg (sgCells s),av,.iface 81 (pX (w.heap.size+1+1+1) 0),bT,bT,.agg (cnCells cnZero),.agg (sgCells sgZero),U,U,U,U,U,U,U,U,U,U,U] ?_
    go_wp2_with (fail)
    exact bodyPost_ret (v:=.tuple #[.agg (cnCells cnZero),.agg (sgCells sgZero),.bool false]) (results_cn3 (t:=8) (u:=9) (v:=10) rfl _ rfl rfl qB8 qB11) rfl ⟨by rw [e.out];rfl,G⟩
   case inl=>
    have e:Hid (V=.tuple #[cnVal (hearC s i room now),sgVal (synSg (hearC s i room now) []),.bool true]):=hV.out.trans (if_pos (hok.out.2 ⟨ha,hb,hk⟩))
    have hsy:=fun wx=>implSyn (hearC s i room now) wx
    rw [synI_hear ha] at hsy
    unfold sgVal cnVal at hsy
    have hhc:({metC {startC 1 i room now 0 with st:=2} s with wak:=0}:Cn)=hearC s i room now:=rfl
    refine vR ?_
    refine vV (iJ room) ?_
    refine vC (k1 _) ?_
    rintro _ _ ⟨rfl,rfl⟩
    refine ⟨_,rfl,?_⟩
    refine vV (bF) ?_
    refine vV (bF) ?_
    refine vV (iJ now) ?_
    refine vC (k2 _) ?_
    rintro _ _ ⟨rfl,rfl⟩
    refine ⟨_,rfl,?_⟩
    refine vV (bF) ?_
    refine vV (bF) ?_
    refine vV (bF) ?_
    refine vB seg_big S rfl ?_
    refine vC (k3 _) ?_
    rintro _ qw1 ⟨⟨av,rfl,hv⟩,qg2⟩
    refine ⟨_,rfl,?_⟩
    replace S:=S.since qg2
    replace Z:=Z.since qg2
    replace Y:=Y.since qg2
    replace F:=F.since qg2
    replace E:=E.since qg2
    replace G:=G.trans qg2
    have qg2_s:=qg2.size
    rw [hk] at hv
    refine vV (.iface 81 (pX (w.heap.size+1+1+1) 0)) ?_
    refine vC (as_fit true av hv _ _ E.at0 F) ?_
    rintro _ qw3 ⟨rfl,qt4,tt,qB5⟩
    refine ⟨_,rfl,?_⟩
    clear F
    replace S:=S.touch qt4 (by omega)
    replace Z:=Z.touch qt4 (by omega)
    replace Y:=Y.touch qt4 (by omega)
    replace E:=E.touch qt4 (by omega)
    replace G:=since_touch G qt4 (by omega)
    have qt4_s:=qt4.size
    refine vV (bF) ?_
    refine vE #[.agg (sgCells s),uJ i,iJ room,iJ now,pX w.heap.size 0,U,U,U,pX (w.heap.size+1) 0,pX (w.heap.size+1+1) 0,bF,pX (w.heap.size+1+1+1) 0,U,iJ room,bT,bF,bF,iJ now,bT,bF,bF,bF,.agg (sgCells s),av,.iface 81 (pX (w.heap.size+1+1+1) 0),bF,bF,U,U,U,U,U,U,U,U,U,U,U,U,U] ?_
    go_upto_region 4 with (fail)
    refine vR ?_
    refine vV (uJ i) ?_
    refine vV (iJ room) ?_
    refine vV (iJ now) ?_
    refine vK (implBegin i room now hb.1 hb.2 _) ?_
    intro qw6 qg7
    replace S:=S.since qg7
    replace Z:=Z.since qg7
    replace Y:=Y.since qg7
    replace qB5:=qB5.since qg7
    replace E:=E.since qg7
    replace G:=G.trans qg7
    have qg7_s:=qg7.size
    refine vW (qw6.alloc (.cells (cnCells cnZero) 39)) (pX qw6.heap.size 0) ?_
    have qB9:=Blk.new qw6 (cnCells cnZero) 39
    have qg10:=(Since.refl qw6).alloc (.cells (cnCells cnZero) 39)
    replace S:=S.since qg10
    replace Z:=Z.since qg10
    replace Y:=Y.since qg10
    replace qB5:=qB5.since qg10
    replace E:=E.since qg10
    replace G:=G.trans qg10
    generalize qw6.alloc (.cells (cnCells cnZero) 39)=qw8 at S Z Y qB5 E G qB9 qg10 ⊢
    have qB9_l:=qB9.lt
    have qg10_s:=qg10.size
    refine sB (cnCells (startC 1 i room now 0)) cn_big qB9 (cn_size _) (cn_size _) (cn_one _) ?_
    intro qw11 qt12 qB13
    clear qB9
    replace S:=S.touch qt12 (by omega)
    replace Z:=Z.touch qt12 (by omega)
    replace Y:=Y.touch qt12 (by omega)
    replace qB5:=qB5.touch qt12 (by omega)
    replace E:=E.touch qt12 (by omega)
    replace G:=since_touch G qt12 (by omega)
    have qt12_s:=qt12.size
    refine vE #[.agg (sgCells s),uJ i,iJ room,iJ now,pX w.heap.size 0,U,U,U,pX (w.heap.size+1) 0,pX (w.heap.size+1+1) 0,bF,pX (w.heap.size+1+1+1) 0,pX qw6.heap.size 0,iJ room,bT,bF,bF,iJ now,bT,bF,bF,bF,.agg (sgCells s),av,.iface 81 (pX (w.heap.size+1+1+1) 0),bF,bF,U,U,uJ i,iJ room,iJ now,.agg (cnCells (startC 1 i room now 0)),U,U,U,U,U,U,U] ?_
    go_upto_region 5 with (fail)
    refine vR ?_
    refine vV (pX qw6.heap.size 0) ?_
    refine sC (cnCells {(startC 1 i room now 0) with st:=2}) qB13 0 (.int .i64 2) (cn_size _) ?_
    intro qw14 qt15 qB16
    clear qB13
    replace S:=S.touch qt15 (by omega)
    replace Z:=Z.touch qt15 (by omega)
    replace Y:=Y.touch qt15 (by omega)
    replace qB5:=qB5.touch qt15 (by omega)
    replace E:=E.touch qt15 (by omega)
    replace G:=since_touch G qt15 (by omega)
    have qt15_s:=qt15.size
    refine vE #[.agg (sgCells s),uJ i,iJ room,iJ now,pX w.heap.size 0,U,U,U,pX (w.heap.size+1) 0,pX (w.heap.size+1+1) 0,bF,pX (w.heap.size+1+1+1) 0,pX qw6.heap.size 0,iJ room,bT,bF,bF,iJ now,bT,bF,bF,bF,.agg (sgCells s),av,.iface 81 (pX (w.heap.size+1+1+1) 0),bF,bF,U,U,uJ i,iJ room,iJ now,.agg (cnCells (startC 1 i room now 0)),pX qw6.heap.size 0,U,U,U,U,U,U] ?_
    go_upto_region 6 with (fail)
    refine vR ?_
    refine vB seg_big S rfl ?_
    refine vC (implMeet _ _ s _ qB16) ?_
    rintro _ qw17 ⟨rfl,qt18,qB19⟩
    refine ⟨_,rfl,?_⟩
    clear qB16
    replace S:=S.touch qt18 (by omega)
    replace Z:=Z.touch qt18 (by omega)
    replace Y:=Y.touch qt18 (by omega)
    replace qB5:=qB5.touch qt18 (by omega)
    replace E:=E.touch qt18 (by omega)
    replace G:=since_touch G qt18 (by omega)
    have qt18_s:=qt18.size
    refine vE #[.agg (sgCells s),uJ i,iJ room,iJ now,pX w.heap.size 0,U,U,U,pX (w.heap.size+1) 0,pX (w.heap.size+1+1) 0,bF,pX (w.heap.size+1+1+1) 0,pX qw6.heap.size 0,iJ room,bT,bF,bF,iJ now,bT,bF,bF,bF,.agg (sgCells s),av,.iface 81 (pX (w.heap.size+1+1+1) 0),bF,bF,U,U,uJ i,iJ room,iJ now,.agg (cnCells (startC 1 i room now 0)),pX qw6.heap.size 0,.agg (sgCells s),.tuple #[],U,U,U,U] ?_
    go_upto_region 7 with (fail)
    refine vR ?_
    refine vV (pX qw6.heap.size 7) ?_
    refine sC (cnCells {(metC {startC 1 i room now 0 with st:=2} s) with wak:=0}) qB19 7 (.int .u32 0) (cn_size _) ?_
    intro qw20 qt21 qB22
    clear qB19
    replace S:=S.touch qt21 (by omega)
    replace Z:=Z.touch qt21 (by omega)
    replace Y:=Y.touch qt21 (by omega)
    replace qB5:=qB5.touch qt21 (by omega)
    replace E:=E.touch qt21 (by omega)
    replace G:=since_touch G qt21 (by omega)
    have qt21_s:=qt21.size
    refine vE #[.agg (sgCells s),uJ i,iJ room,iJ now,pX w.heap.size 0,U,U,U,pX (w.heap.size+1) 0,pX (w.heap.size+1+1) 0,bF,pX (w.heap.size+1+1+1) 0,pX qw6.heap.size 0,iJ room,bT,bF,bF,iJ now,bT,bF,bF,bF,.agg (sgCells s),av,.iface 81 (pX (w.heap.size+1+1+1) 0),bF,bF,U,U,uJ i,iJ room,iJ now,.agg (cnCells (startC 1 i room now 0)),pX qw6.heap.size 0,.agg (sgCells s),.tuple #[],pX qw6.heap.size 7,U,U,U] ?_
    rw [hhc] at qB22
    go_upto_region 8 with (fail)
    generalize synSg (hearC s i room now) []=SS at hsy e
    generalize hearC s i room now=CC at hsy e qB22 hhc
    clear hhc
    refine wp_region_tail (wb:=qw20) 3 (fun i x v=>match i with
      | 0=>v=.agg (cnCells CC)
      | 1=>v=.agg (cnCells CC)
      | 2=>v=.agg (sgCells SS)
      | _=>True) (fun v=>{tmps:=#[.agg (sgCells s),uJ i,iJ room,iJ now,pX w.heap.size 0,U,U,U,pX (w.heap.size+1) 0,pX (w.heap.size+1+1) 0,bF,pX (w.heap.size+1+1+1) 0,pX qw6.heap.size 0,iJ room,bT,bF,bF,iJ now,bT,bF,bF,bF,.agg (sgCells s),av,.iface 81 (pX (w.heap.size+1+1+1) 0),bF,bF,U,U,uJ i,iJ room,iJ now,.agg (cnCells (startC 1 i room now 0)),pX qw6.heap.size 0,.agg (sgCells s),.tuple #[],pX qw6.heap.size 7,v 0,v 1,v 2],defers:=[]}) (by kernel_rfl) (by kernel_rfl) (by kernel_rfl) (Since.refl _) ?_ (fun vals=>by kernel_rfl) ?_ ?_
    case refine_1=>
     intro i x x' v h1 h2
     match i,h2 with
     | 0,h2|1,h2|2,h2=>exact h2
     | n+3,_=>trivial
    case refine_2=>
     repeat (first|exact eachDoes_nil|refine eachDoes_cons ?_ ?_)
     all_goals intro vals x hx hv
     all_goals simp [Region.binds] at hv
     ·simp [does,doesUpon,go_sem,hv]
      refine (hsy x).mono ?_
      rintro _ x' ⟨rfl,h1⟩
      simp [h1]
     ·exact does_load cn_big (cn_size CC) (qB22.since hx) _ rfl rfl ⟨Since.refl _,rfl⟩
     ·exact does_load cn_big (cn_size CC) (qB22.since hx) _ rfl rfl ⟨Since.refl _,rfl⟩
    case refine_3=>
     intro vals x hx hv
     have h0:vals 0=_:=hv 0 (by decide)
     have h2:vals 2=_:=hv 2 (by decide)
     clear hv
     simp only [h0,h2,List.drop]
     replace Z:=Z.since hx
     replace Y:=Y.since hx
     replace G:=G.trans hx
     refine store_cn Z rfl _ _ rfl rfl rfl ?_
     intro x3 t3 Z3
     replace Y:=Y.touch t3 (by omega)
     replace G:=since_touch G t3 (by omega)
     refine store_big seg_big rfl rfl (seg_one _ _ _ _ _ _ _ _) Y rfl _ _ rfl rfl rfl ?_
     intro x4 t4 Y4
     replace Z3:=Z3.touch t4 (by omega)
     replace G:=since_touch G t4 (by omega)
     go_wp2_with (fail)
     exact bodyPost_ret (v:=.tuple #[.agg (cnCells CC),.agg (sgCells SS),.bool true]) (results_cn3 (t:=8) (u:=9) (v:=10) rfl _ rfl rfl Z3 Y4) rfl ⟨by rw [e.out];rfl,G⟩
def Low (N:Nat→Prop) (x y:World):Prop:=∃ b,N b∧Touch b x y
theorem Low.since {N:Nat→Prop} {b:Nat} {x y:World} (h:Since x y) (hN:N b):Low N x y:=⟨b,hN,Touch.of_since h b⟩
theorem Low.touch {N:Nat→Prop} {b:Nat} {x y:World} (h:Touch b x y) (hb:N b):Low N x y:=⟨b,hb,h⟩
def eachLow (P:Program) (N:World→World→Prop) (V:Nat→World→Value→Prop) (K:(Nat→Bool)→(Nat→Value)→World→Prop) (F:(Nat→Value)→Act):Nat→List Oper→Prop
 | _,[]=>True
 | k,o :: rest=>(∀ (f:Nat→Bool) vals x,f k=false→(∀ e∈o.after,Region.binds .any e=true→f e.on=true∧V e.on x (vals e.on))→K f vals x→does P o (F vals) x fun v w'=>N x w'∧K (andDone f k) (putVal vals k v) w'∧V k w' v)∧eachLow P N V K F (k+1) rest
theorem eachLow_nil {P:Program} {N:World→World→Prop} {V:Nat→World→Value→Prop} {K:(Nat→Bool)→(Nat→Value)→World→Prop} {F:(Nat→Value)→Act} {k:Nat}:eachLow P N V K F k []:=trivial
theorem eachLow_cons {P:Program} {N:World→World→Prop} {V:Nat→World→Value→Prop} {K:(Nat→Bool)→(Nat→Value)→World→Prop} {F:(Nat→Value)→Act} {k:Nat} {o:Oper} {rest:List Oper} (h:eachLow P N V K F (k+1) rest)
  (h1:∀ (f:Nat→Bool) vals x,f k=false→(∀ e∈o.after,Region.binds .any e=true→f e.on=true∧V e.on x (vals e.on))→K f vals x→does P o (F vals) x fun v w'=>N x w'∧K (andDone f k) (putVal vals k v) w'∧V k w' v):eachLow P N V K F k (o :: rest):=⟨h1,h⟩
theorem eachLow_V {P:Program} {N:World→World→Prop} {V:Nat→World→Value→Prop} {K:(Nat→Bool)→(Nat→Value)→World→Prop} {F:(Nat→Value)→Act} (hst:∀ j x y v,N x y→V j x v→V j y v) :
  ∀ (l:List Oper) (k:Nat),eachLow P N V K F k l→eachDoneV P (fun f vals x=>K f vals x∧∀ j,f j=true→V j x (vals j)) F k l
 | [],_,_=>trivial
 | o :: rest,k,h=>⟨fun f vals x hf hr hi=>doesUpon_mono (fun v w q=>⟨q.2.1,fun j hj=>by
   by_cases e:j=k
   ·subst e
    rw [show putVal vals j v j=v from if_pos rfl]
    exact q.2.2
   ·rw [show putVal vals k v j=vals j from if_neg e]
    exact hst _ _ _ _ q.1 (hi.2 j (by rw [show andDone f k j=f j from if_neg e] at hj;exact hj))⟩) (h.1 f vals x hf (fun e he hb=>⟨hr e he hb,hi.2 _ (hr e he hb)⟩) hi.1),eachLow_V hst rest (k+1) h.2⟩
theorem wp_region_low {P:Program} {id:Nat} {Q:Exit→Act→World→Prop} {a:Act} {w:World} {l:List Oper} (N:World→World→Prop) (V:Nat→World→Value→Prop) (K:(Nat→Bool)→(Nat→Value)→World→Prop) (F:(Nat→Value)→Act) (hm:P.follows .mixedOrders=true) (hs:settled l.toArray a.tmps.size=true)
  (hst:∀ j x y v,N x y→V j x v→V j y v) (h0:∀ (f:Nat→Bool) vals,(∀ j,f j=false)→K f vals w.drew) (hF:∀ vals,F vals=filled l.toArray a vals) (hop:eachLow P N V K F 0 l)
  (hfin:∀ (f:Nat→Bool) vals w,K f vals w→(∀ i,i<l.length→f i=true)→(∀ i,i<l.length→V i w (vals i))→Q .normal (F vals) w):(Code.region id l.toArray true).wp P Q a w:=
 wp_region_doneV (fun f vals x=>K f vals x∧∀ j,f j=true→V j x (vals j)) F hm hs (fun f vals hf=>⟨h0 f vals hf,fun j hj=>by rw [hf j] at hj;cases hj⟩) hF (eachLow_V hst l 0 hop) (fun f vals w hi hf=>hfin f vals w hi.1 hf (fun i h=>hi.2 i (hf i h)))
end Go.Proofs.YtmigalhmlofbkaaGreatDoor
namespace Go.Proofs.YtmigalhmlofbkaaGreatDoor
open Go.ChangeShapes Go.WideShapes Go.ChangeAt Go.RowKit Go.Deep
theorem ad_big:IsBig 26 2:=⟨⟨_,Tryz.underlying26,rfl⟩,by kernel_rfl⟩
theorem results_ad2 {fn:Func} {t u:Tmp} {b c:Nat} {w:World} {x0 x1 y0 y1:Value} (h:fn.results=#[.cell t 26,.cell u 26]) (tmps:Array Value) (hp:tmps.getD t undef=.pointer (some ⟨b,0,none⟩)) (hq:tmps.getD u undef=.pointer (some ⟨c,0,none⟩)) (B:Blk b w #[x0,x1]) (C:Blk c w #[y0,y1]):(results fn tmps).run Tryz.prog w=.ok (.tuple #[.agg #[x0,x1],.agg #[y0,y1]]) w:=by
 have e:=var_big ad_big rfl B
 have d:=var_big ad_big rfl C
 have hp':tmps[t]?.getD undef=.pointer (some ⟨b,0,none⟩):=by simpa using hp
 have hq':tmps[u]?.getD undef=.pointer (some ⟨c,0,none⟩):=by simpa using hq
 simp [results,h,hp',hq',asAddr,e,d]
theorem does_valT {op:Oper} {a:Act} {w:World} {R:Value→World→Prop} (v:Value) (w':World) (h:(execOp a.eval op).run Tryz.prog w=.ok (.value v) w') (k:R v w'):does Tryz.prog op a w R:=by
 unfold does
 rw [h]
 exact k
theorem touchN {g b:Nat} {w x y:World} (h:Touch g w x) (t:Touch b x y) (hb:b=g∨w.heap.size≤b):Touch g w y:=
 ⟨t.os.trans h.os,t.tape.trans h.tape,t.output.trans h.output,Nat.le_trans h.size t.size,fun k hk hg=>(t.block k (Nat.lt_of_lt_of_le hk h.size) (by omega)).trans (h.block k hk hg)⟩
theorem touchS {g:Nat} {w x y:World} (h:Touch g w x) (t:Since x y):Touch g w y:=h.trans (Touch.of_below t fun k hk _=>hk)
def IsPortD (p:Int):Prop:=-1≤p∧p≤65536
def IsEpochD (e:Int):Prop:=-1≤e∧e≤1000000001
theorem drawEpoch {w0:World} {g:Nat} {a:Option Addr} {len cap:Nat} {zs:List Int} (w:World) (HC:Crs w0 g a len cap zs w) :
  Calls Tryz.prog 19 #[.pointer (some ⟨g,0,none⟩)] w fun e w'=>∃ x:Int,e=.returned (.int .i64 x)∧IsEpochD x∧Crs w0 g a len cap zs w'∧Touch g w w':=by
 have hg:=HC.here
 have hlo:=HC.low
 have G:=Touch.refl g w
 go_enter Tryz.func19,Tryz.ntmps19
 go_upto_region 0 with (fail)
 refine vR ?_
 refine vV (iJ 0) ?_
 refine vE #[pX g 0,U,iJ 0,U,U,U,U,U,U,U] ?_
 go_upto_region 1 with (fail)
 refine vR ?_
 refine vV (pX g 0) ?_
 refine vC (dOnce 10 _ HC) ?_
 rintro _ qw1 ⟨b1,rfl,HCn,qt2⟩
 refine ⟨_,rfl,?_⟩
 clear HC
 replace G:=G.trans qt2
 have HC:=HCn
 clear HCn
 have qt2_s:=qt2.size
 refine vE #[pX g 0,U,iJ 0,pX g 0,.bool b1,U,U,U,U,U] ?_
 cases b1
 case true=>
  go_upto_region 2 with (fail)
  refine vR ?_
  refine vV (pX g 0) ?_
  refine vW (qw1.alloc (.cells #[iJ (-1),iJ 0,iJ 1000000000,iJ 1000000001] 3)) (.slice (some ⟨qw1.heap.size,0,none⟩) 4 4) ?_
  have qI4:=ints_alloc qw1 #[.int .i64 (-1),.int .i64 0,.int .i64 1000000000,.int .i64 1000000001] 3 [-1,0,1000000000,1000000001] rfl
  have qg5:=(Since.refl qw1).alloc (.cells #[.int .i64 (-1),.int .i64 0,.int .i64 1000000000,.int .i64 1000000001] 3)
  replace HC:=HC.since qg5
  replace G:=touchS G qg5
  generalize qw1.alloc (.cells #[.int .i64 (-1),.int .i64 0,.int .i64 1000000000,.int .i64 1000000001] 3)=qw3 at HC G qI4 qg5 ⊢
  have qg5_s:=qg5.size
  refine vC (dPick _ 4 [-1,0,1000000000,1000000001] rfl (by omega) (by omega) _ HC (by omega) qI4) ?_
  rintro _ qw6 ⟨v1,rfl,hv1,HCn,qt7⟩
  refine ⟨_,rfl,?_⟩
  clear HC
  replace G:=G.trans qt7
  have HC:=HCn
  clear HCn
  have qt7_s:=qt7.size
  clear qI4
  refine vV (iJ v1) ?_
  refine vE #[pX g 0,U,iJ v1,pX g 0,bT,pX g 0,.slice (some ⟨qw1.heap.size,0,none⟩) 4 4,iJ v1,U,U] ?_
  go_wp2_with (fail)
  go_ret
  exact ⟨v1,rfl,by simp at hv1;unfold IsEpochD;omega,HC,G⟩
 case false=>
  go_upto_region 3 with (fail)
  refine vR ?_
  refine vV (pX g 0) ?_
  refine vC (dBelow 70 (by omega) _ HC) ?_
  rintro _ qw3 ⟨r1,rfl,hr1,HCn,qt4⟩
  refine ⟨_,rfl,?_⟩
  clear HC
  replace G:=G.trans qt4
  have HC:=HCn
  clear HCn
  have qt4_s:=qt4.size
  refine vV (iJ r1) ?_
  refine vE #[pX g 0,U,iJ r1,pX g 0,bF,U,U,U,pX g 0,iJ r1] ?_
  go_wp2_with (fail)
  go_ret
  exact ⟨_,rfl,by unfold IsEpochD;omega,HC,G⟩
theorem drawWho {w0:World} {g:Nat} {a:Option Addr} {len cap:Nat} {zs:List Int} (w:World) (HC:Crs w0 g a len cap zs w) :
  Calls Tryz.prog 18 #[.pointer (some ⟨g,0,none⟩)] w fun e w'=>∃ h p j q:Int,e=.returned (.tuple #[addrVal h p,addrVal j q])∧IsPortD p∧IsPortD q∧Crs w0 g a len cap zs w'∧Touch g w w':=by
 have hg:=HC.here
 have hlo:=HC.low
 have G:=Touch.refl g w
 unfold addrVal
 go_enter Tryz.func18,Tryz.ntmps18
 go_upto_region 0 with (fail)
 refine vR ?_
 refine vW (w.alloc (.cells #[uJ 0,iJ 0] 26)) (pX w.heap.size 0) ?_
 have qB2:=Blk.new w #[.int .u32 0,.int .i64 0] 26
 have qg3:=(Since.refl w).alloc (.cells #[.int .u32 0,.int .i64 0] 26)
 replace HC:=HC.since qg3
 replace G:=touchS G qg3
 generalize w.alloc (.cells #[.int .u32 0,.int .i64 0] 26)=qw1 at HC G qB2 qg3 ⊢
 have qB2_l:=qB2.lt
 have qg3_s:=qg3.size
 refine vW (qw1.alloc (.cells #[uJ 0,iJ 0] 26)) (pX qw1.heap.size 0) ?_
 have qB5:=Blk.new qw1 #[.int .u32 0,.int .i64 0] 26
 have qg6:=(Since.refl qw1).alloc (.cells #[.int .u32 0,.int .i64 0] 26)
 replace qB2:=qB2.since qg6
 replace HC:=HC.since qg6
 replace G:=touchS G qg6
 generalize qw1.alloc (.cells #[.int .u32 0,.int .i64 0] 26)=qw4 at qB2 HC G qB5 qg6 ⊢
 have qB5_l:=qB5.lt
 have qg6_s:=qg6.size
 refine vE #[pX g 0,U,pX w.heap.size 0,pX qw1.heap.size 0,U,U,U,U,U,U,U,U,U,U,U,U,U,U,U,U,U,U,U,U,U,U,U,U] ?_
 go_upto_region 1 with (fail)
 refine vR ?_
 refine vV (pX g 0) ?_
 refine vC (dBelow 3 (by omega) _ HC) ?_
 rintro _ qw7 ⟨r2,rfl,hr2,HCn,qt8⟩
 refine ⟨_,rfl,?_⟩
 clear HC
 replace qB2:=qB2.touch qt8 (by omega)
 replace qB5:=qB5.touch qt8 (by omega)
 replace G:=G.trans qt8
 have HC:=HCn
 clear HCn
 have qt8_s:=qt8.size
 refine vV (.int .u32 r2) ?_ (hrun:=by simp [execOp,go_sem,IntKind.wrap_u32];omega)
 refine vV (pX g 0) ?_
 refine vC (dBelow 3 (by omega) _ HC) ?_
 rintro _ qw9 ⟨r3,rfl,hr3,HCn,qt10⟩
 refine ⟨_,rfl,?_⟩
 clear HC
 replace qB2:=qB2.touch qt10 (by omega)
 replace qB5:=qB5.touch qt10 (by omega)
 replace G:=G.trans qt10
 have HC:=HCn
 clear HCn
 have qt10_s:=qt10.size
 refine vV (.int .i64 (1+r3)) ?_ (hrun:=by simp [execOp,go_sem,IntWalk.i64_left,IntWalk.wrap64_in (1+r3) ⟨by omega,by omega⟩])
 refine vV (.agg #[uJ r2,iJ (1+r3)]) ?_
 refine vW (qw9.alloc (.cells #[uJ 0,iJ 0] 26)) (pX qw9.heap.size 0) ?_
 have qB12:=Blk.new qw9 #[.int .u32 0,.int .i64 0] 26
 have qg13:=(Since.refl qw9).alloc (.cells #[.int .u32 0,.int .i64 0] 26)
 replace qB2:=qB2.since qg13
 replace qB5:=qB5.since qg13
 replace HC:=HC.since qg13
 replace G:=touchS G qg13
 generalize qw9.alloc (.cells #[.int .u32 0,.int .i64 0] 26)=qw11 at qB2 qB5 HC G qB12 qg13 ⊢
 have qB12_l:=qB12.lt
 have qg13_s:=qg13.size
 refine sB #[.int .u32 r2,.int .i64 (1+r3)] ad_big qB12 rfl rfl (by simp [Value.oneCell']) ?_
 intro qw14 qt15 qB16
 clear qB12
 replace qB2:=qB2.touch qt15 (by omega)
 replace qB5:=qB5.touch qt15 (by omega)
 replace HC:=HC.touch qt15 (by omega)
 replace G:=touchN G qt15 (by omega)
 have qt15_s:=qt15.size
 refine vE #[pX g 0,U,pX w.heap.size 0,pX qw1.heap.size 0,pX qw9.heap.size 0,U,pX g 0,iJ r2,uJ r2,pX g 0,iJ r3,iJ (1+r3),.agg #[uJ r2,iJ (1+r3)],U,U,U,U,U,U,U,U,U,U,U,U,U,U,U] ?_
 go_upto_region 2 with (fail)
 refine vR ?_
 refine vV (pX g 0) ?_
 refine vC (dBelow 3 (by omega) _ HC) ?_
 rintro _ qw17 ⟨r4,rfl,hr4,HCn,qt18⟩
 refine ⟨_,rfl,?_⟩
 clear HC
 replace qB2:=qB2.touch qt18 (by omega)
 replace qB5:=qB5.touch qt18 (by omega)
 replace qB16:=qB16.touch qt18 (by omega)
 replace G:=G.trans qt18
 have HC:=HCn
 clear HCn
 have qt18_s:=qt18.size
 refine vV (.int .u32 r4) ?_ (hrun:=by simp [execOp,go_sem,IntKind.wrap_u32];omega)
 refine vV (pX g 0) ?_
 refine vC (dBelow 3 (by omega) _ HC) ?_
 rintro _ qw19 ⟨r5,rfl,hr5,HCn,qt20⟩
 refine ⟨_,rfl,?_⟩
 clear HC
 replace qB2:=qB2.touch qt20 (by omega)
 replace qB5:=qB5.touch qt20 (by omega)
 replace qB16:=qB16.touch qt20 (by omega)
 replace G:=G.trans qt20
 have HC:=HCn
 clear HCn
 have qt20_s:=qt20.size
 refine vV (.int .i64 (1+r5)) ?_ (hrun:=by simp [execOp,go_sem,IntWalk.i64_left,IntWalk.wrap64_in (1+r5) ⟨by omega,by omega⟩])
 refine vV (.agg #[uJ r4,iJ (1+r5)]) ?_
 refine vW (qw19.alloc (.cells #[uJ 0,iJ 0] 26)) (pX qw19.heap.size 0) ?_
 have qB22:=Blk.new qw19 #[.int .u32 0,.int .i64 0] 26
 have qg23:=(Since.refl qw19).alloc (.cells #[.int .u32 0,.int .i64 0] 26)
 replace qB2:=qB2.since qg23
 replace qB5:=qB5.since qg23
 replace qB16:=qB16.since qg23
 replace HC:=HC.since qg23
 replace G:=touchS G qg23
 generalize qw19.alloc (.cells #[.int .u32 0,.int .i64 0] 26)=qw21 at qB2 qB5 qB16 HC G qB22 qg23 ⊢
 have qB22_l:=qB22.lt
 have qg23_s:=qg23.size
 refine sB #[.int .u32 r4,.int .i64 (1+r5)] ad_big qB22 rfl rfl (by simp [Value.oneCell']) ?_
 intro qw24 qt25 qB26
 clear qB22
 replace qB2:=qB2.touch qt25 (by omega)
 replace qB5:=qB5.touch qt25 (by omega)
 replace qB16:=qB16.touch qt25 (by omega)
 replace HC:=HC.touch qt25 (by omega)
 replace G:=touchN G qt25 (by omega)
 have qt25_s:=qt25.size
 refine vE #[pX g 0,U,pX w.heap.size 0,pX qw1.heap.size 0,pX qw9.heap.size 0,pX qw19.heap.size 0,pX g 0,iJ r2,uJ r2,pX g 0,iJ r3,iJ (1+r3),.agg #[uJ r2,iJ (1+r3)],pX g 0,iJ r4,uJ r4,pX g 0,iJ r5,iJ (1+r5),.agg #[uJ r4,iJ (1+r5)],U,U,U,U,U,U,U,U] ?_
 go_upto_region 3 with (fail)
 refine vR ?_
 refine vV (pX g 0) ?_
 refine vC (dOnce 25 _ HC) ?_
 rintro _ qw27 ⟨b1,rfl,HCn,qt28⟩
 refine ⟨_,rfl,?_⟩
 clear HC
 replace qB2:=qB2.touch qt28 (by omega)
 replace qB5:=qB5.touch qt28 (by omega)
 replace qB16:=qB16.touch qt28 (by omega)
 replace qB26:=qB26.touch qt28 (by omega)
 replace G:=G.trans qt28
 have HC:=HCn
 clear HCn
 have qt28_s:=qt28.size
 refine vE #[pX g 0,U,pX w.heap.size 0,pX qw1.heap.size 0,pX qw9.heap.size 0,pX qw19.heap.size 0,pX g 0,iJ r2,uJ r2,pX g 0,iJ r3,iJ (1+r3),.agg #[uJ r2,iJ (1+r3)],pX g 0,iJ r4,uJ r4,pX g 0,iJ r5,iJ (1+r5),.agg #[uJ r4,iJ (1+r5)],pX g 0,.bool b1,U,U,U,U,U,U] ?_
 cases b1
 case true=>
  go_upto_region 4 with (fail)
  refine vR ?_
  refine vV (pX g 0) ?_
  refine vW (qw27.alloc (.cells #[iJ (-1),iJ 65536,iJ 0,iJ 65535] 3)) (.slice (some ⟨qw27.heap.size,0,none⟩) 4 4) ?_
  have qI30:=ints_alloc qw27 #[.int .i64 (-1),.int .i64 65536,.int .i64 0,.int .i64 65535] 3 [-1,65536,0,65535] rfl
  have qg31:=(Since.refl qw27).alloc (.cells #[.int .i64 (-1),.int .i64 65536,.int .i64 0,.int .i64 65535] 3)
  replace qB2:=qB2.since qg31
  replace qB5:=qB5.since qg31
  replace qB16:=qB16.since qg31
  replace qB26:=qB26.since qg31
  replace HC:=HC.since qg31
  replace G:=touchS G qg31
  generalize qw27.alloc (.cells #[.int .i64 (-1),.int .i64 65536,.int .i64 0,.int .i64 65535] 3)=qw29 at qB2 qB5 qB16 qB26 HC G qI30 qg31 ⊢
  have qg31_s:=qg31.size
  refine vC (dPick _ 4 [-1,65536,0,65535] rfl (by omega) (by omega) _ HC (by omega) qI30) ?_
  rintro _ qw32 ⟨v1,rfl,hv1,HCn,qt33⟩
  refine ⟨_,rfl,?_⟩
  clear HC
  replace qB2:=qB2.touch qt33 (by omega)
  replace qB5:=qB5.touch qt33 (by omega)
  replace qB16:=qB16.touch qt33 (by omega)
  replace qB26:=qB26.touch qt33 (by omega)
  replace G:=G.trans qt33
  have HC:=HCn
  clear HCn
  have qt33_s:=qt33.size
  clear qI30
  refine vV (pX qw19.heap.size 1) ?_
  refine sC #[.int .u32 r4,.int .i64 v1] qB26 1 (.int .i64 v1) rfl ?_
  intro qw34 qt35 qB36
  clear qB26
  replace qB2:=qB2.touch qt35 (by omega)
  replace qB5:=qB5.touch qt35 (by omega)
  replace qB16:=qB16.touch qt35 (by omega)
  replace HC:=HC.touch qt35 (by omega)
  replace G:=touchN G qt35 (by omega)
  have qt35_s:=qt35.size
  refine vE #[pX g 0,U,pX w.heap.size 0,pX qw1.heap.size 0,pX qw9.heap.size 0,pX qw19.heap.size 0,pX g 0,iJ r2,uJ r2,pX g 0,iJ r3,iJ (1+r3),.agg #[uJ r2,iJ (1+r3)],pX g 0,iJ r4,uJ r4,pX g 0,iJ r5,iJ (1+r5),.agg #[uJ r4,iJ (1+r5)],pX g 0,bT,pX g 0,.slice (some ⟨qw27.heap.size,0,none⟩) 4 4,iJ v1,pX qw19.heap.size 1,U,U] ?_
  go_upto_region 5 with (fail)
  have hN0:0<qw34.heap.size:=by have:=qB2.lt;omega
  refine wp_region_low (Low (fun b=>b<qw34.heap.size)) (fun i x v=>match i with
    | 0=>v=.agg #[.int .u32 r2,.int .i64 (1+r3)]
    | 1=>v=.agg #[.int .u32 r4,.int .i64 v1]
    | 2=>True
    | 3=>True
    | _=>True) (fun f vals x=>Blk w.heap.size x (if f 2 then #[uJ r2,iJ (1+r3)] else #[uJ 0,iJ 0])∧Blk qw1.heap.size x (if f 3 then #[uJ r4,iJ v1] else #[uJ 0,iJ 0])∧Blk qw9.heap.size x #[uJ r2,iJ (1+r3)]∧Blk qw19.heap.size x #[uJ r4,iJ v1]∧Crs w0 g a len cap zs x∧qw34.heap.size≤x.heap.size∧Touch g w x) (fun v=>{tmps:=#[pX g 0,U,pX w.heap.size 0,pX qw1.heap.size 0,pX qw9.heap.size 0,pX qw19.heap.size 0,pX g 0,iJ r2,uJ r2,pX g 0,iJ r3,iJ (1+r3),.agg #[uJ r2,iJ (1+r3)],pX g 0,iJ r4,uJ r4,pX g 0,iJ r5,iJ (1+r5),.agg #[uJ r4,iJ (1+r5)],pX g 0,bT,pX g 0,.slice (some ⟨qw27.heap.size,0,none⟩) 4 4,iJ v1,pX qw19.heap.size 1,v 0,v 1],defers:=[]}) (by kernel_rfl) (by kernel_rfl) ?_ ?_ (fun vals=>by kernel_rfl) ?_ ?_
  case refine_1=>
   intro j x y v hl hv
   match j,hv with
   | 0,hv|1,hv=>exact hv
   | 2,hv|3,hv=>trivial
   | n+4,_=>trivial
  case refine_2=>
   intro f vals hf
   refine ⟨(by rw [hf 2];exact qB2.since ((Since.refl _).drew)),(by rw [hf 3];exact qB5.since ((Since.refl _).drew)),qB16.since ((Since.refl _).drew),qB36.since ((Since.refl _).drew),HC.since ((Since.refl _).drew),((Since.refl _).drew).size,touchS G ((Since.refl _).drew)⟩
  case refine_3=>
   repeat (first|exact eachLow_nil|refine eachLow_cons ?_ ?_)
   all_goals intro f vals x hf hr hK
   all_goals obtain ⟨k0,k1,k2,k3,k4,k5,k6⟩:=hK
   ·have ev:vals 1=.agg #[.int .u32 r4,.int .i64 v1]:=(hr ⟨1,.data⟩ (by simp) rfl).2
    have kz:Blk qw1.heap.size x #[.int .u32 0,.int .i64 0]:=by have:=k1;rw [hf] at this;exact this
    refine does_store ad_big rfl (Raw.of kz rfl) (by simp [Value.oneCell']) _ _ rfl rfl ev ?_
    intro z t B
    exact ⟨Low.touch t (show qw1.heap.size<qw34.heap.size by omega),⟨k0.touch t (by omega),B,k2.touch t (by omega),k3.touch t (by omega),k4.touch t (by omega),Nat.le_trans k5 t.size,touchN k6 t (by omega)⟩,trivial⟩
   ·have ev:vals 0=.agg #[.int .u32 r2,.int .i64 (1+r3)]:=(hr ⟨0,.data⟩ (by simp) rfl).2
    have kz:Blk w.heap.size x #[.int .u32 0,.int .i64 0]:=by have:=k0;rw [hf] at this;exact this
    refine does_store ad_big rfl (Raw.of kz rfl) (by simp [Value.oneCell']) _ _ rfl rfl ev ?_
    intro z t B
    exact ⟨Low.touch t (show w.heap.size<qw34.heap.size by omega),⟨B,k1.touch t (by omega),k2.touch t (by omega),k3.touch t (by omega),k4.touch t (by omega),Nat.le_trans k5 t.size,touchN k6 t (by omega)⟩,trivial⟩
   ·exact does_load ad_big rfl k3 _ rfl rfl ⟨Low.since (b:=0) (Since.refl _) (hN0),⟨k0,k1,k2,k3,k4,k5,k6⟩,rfl⟩
   ·exact does_load ad_big rfl k2 _ rfl rfl ⟨Low.since (b:=0) (Since.refl _) (hN0),⟨k0,k1,k2,k3,k4,k5,k6⟩,rfl⟩
  intro f qv38 qw37 hK hf hv
  obtain ⟨k0,k1,k2,k3,k4,k5,k6⟩:=hK
  clear qB2 qB5 qB16 qB36 HC G
  have hv0:qv38 0=_:=hv 0 (by decide)
  have hv1:qv38 1=_:=hv 1 (by decide)
  clear hv
  simp only [hv0,hv1]
  clear hv0 hv1
  have qB2:Blk w.heap.size qw37 #[.int .u32 r2,.int .i64 (1+r3)]:=by have:=k0;rw [hf 2 (by decide)] at this;exact this
  clear k0
  have qB5:Blk qw1.heap.size qw37 #[.int .u32 r4,.int .i64 v1]:=by have:=k1;rw [hf 3 (by decide)] at this;exact this
  clear k1
  have qB16:=k2
  clear k2
  have qB36:=k3
  clear k3
  have HC:=k4
  clear k4
  have G:=k6
  clear k6
  have qw37_l:=qB36.lt
  have qw37_n:=k5
  clear k5
  go_wp2_with (fail)
  exact bodyPost_ret (results_ad2 (t:=2) (u:=3) rfl _ rfl rfl qB2 qB5) rfl ⟨_,_,_,_,rfl,(by unfold IsPortD;omega),(by simp at hv1;unfold IsPortD;omega),HC,G⟩
 case false=>
  go_upto_region 5 with (fail)
  have hN0:0<qw27.heap.size:=by have:=qB2.lt;omega
  refine wp_region_low (Low (fun b=>b<qw27.heap.size)) (fun i x v=>match i with
    | 0=>v=.agg #[.int .u32 r2,.int .i64 (1+r3)]
    | 1=>v=.agg #[.int .u32 r4,.int .i64 (1+r5)]
    | 2=>True
    | 3=>True
    | _=>True) (fun f vals x=>Blk w.heap.size x (if f 2 then #[uJ r2,iJ (1+r3)] else #[uJ 0,iJ 0])∧Blk qw1.heap.size x (if f 3 then #[uJ r4,iJ (1+r5)] else #[uJ 0,iJ 0])∧Blk qw9.heap.size x #[uJ r2,iJ (1+r3)]∧Blk qw19.heap.size x #[uJ r4,iJ (1+r5)]∧Crs w0 g a len cap zs x∧qw27.heap.size≤x.heap.size∧Touch g w x) (fun v=>{tmps:=#[pX g 0,U,pX w.heap.size 0,pX qw1.heap.size 0,pX qw9.heap.size 0,pX qw19.heap.size 0,pX g 0,iJ r2,uJ r2,pX g 0,iJ r3,iJ (1+r3),.agg #[uJ r2,iJ (1+r3)],pX g 0,iJ r4,uJ r4,pX g 0,iJ r5,iJ (1+r5),.agg #[uJ r4,iJ (1+r5)],pX g 0,bF,U,U,U,U,v 0,v 1],defers:=[]}) (by kernel_rfl) (by kernel_rfl) ?_ ?_ (fun vals=>by kernel_rfl) ?_ ?_
  case refine_1=>
   intro j x y v hl hv
   match j,hv with
   | 0,hv|1,hv=>exact hv
   | 2,hv|3,hv=>trivial
   | n+4,_=>trivial
  case refine_2=>
   intro f vals hf
   refine ⟨(by rw [hf 2];exact qB2.since ((Since.refl _).drew)),(by rw [hf 3];exact qB5.since ((Since.refl _).drew)),qB16.since ((Since.refl _).drew),qB26.since ((Since.refl _).drew),HC.since ((Since.refl _).drew),((Since.refl _).drew).size,touchS G ((Since.refl _).drew)⟩
  case refine_3=>
   repeat (first|exact eachLow_nil|refine eachLow_cons ?_ ?_)
   all_goals intro f vals x hf hr hK
   all_goals obtain ⟨k0,k1,k2,k3,k4,k5,k6⟩:=hK
   ·have ev:vals 1=.agg #[.int .u32 r4,.int .i64 (1+r5)]:=(hr ⟨1,.data⟩ (by simp) rfl).2
    have kz:Blk qw1.heap.size x #[.int .u32 0,.int .i64 0]:=by have:=k1;rw [hf] at this;exact this
    refine does_store ad_big rfl (Raw.of kz rfl) (by simp [Value.oneCell']) _ _ rfl rfl ev ?_
    intro z t B
    exact ⟨Low.touch t (show qw1.heap.size<qw27.heap.size by omega),⟨k0.touch t (by omega),B,k2.touch t (by omega),k3.touch t (by omega),k4.touch t (by omega),Nat.le_trans k5 t.size,touchN k6 t (by omega)⟩,trivial⟩
   ·have ev:vals 0=.agg #[.int .u32 r2,.int .i64 (1+r3)]:=(hr ⟨0,.data⟩ (by simp) rfl).2
    have kz:Blk w.heap.size x #[.int .u32 0,.int .i64 0]:=by have:=k0;rw [hf] at this;exact this
    refine does_store ad_big rfl (Raw.of kz rfl) (by simp [Value.oneCell']) _ _ rfl rfl ev ?_
    intro z t B
    exact ⟨Low.touch t (show w.heap.size<qw27.heap.size by omega),⟨B,k1.touch t (by omega),k2.touch t (by omega),k3.touch t (by omega),k4.touch t (by omega),Nat.le_trans k5 t.size,touchN k6 t (by omega)⟩,trivial⟩
   ·exact does_load ad_big rfl k3 _ rfl rfl ⟨Low.since (b:=0) (Since.refl _) (hN0),⟨k0,k1,k2,k3,k4,k5,k6⟩,rfl⟩
   ·exact does_load ad_big rfl k2 _ rfl rfl ⟨Low.since (b:=0) (Since.refl _) (hN0),⟨k0,k1,k2,k3,k4,k5,k6⟩,rfl⟩
  intro f qv30 qw29 hK hf hv
  obtain ⟨k0,k1,k2,k3,k4,k5,k6⟩:=hK
  clear qB2 qB5 qB16 qB26 HC G
  have hv0:qv30 0=_:=hv 0 (by decide)
  have hv1:qv30 1=_:=hv 1 (by decide)
  clear hv
  simp only [hv0,hv1]
  clear hv0 hv1
  have qB2:Blk w.heap.size qw29 #[.int .u32 r2,.int .i64 (1+r3)]:=by have:=k0;rw [hf 2 (by decide)] at this;exact this
  clear k0
  have qB5:Blk qw1.heap.size qw29 #[.int .u32 r4,.int .i64 (1+r5)]:=by have:=k1;rw [hf 3 (by decide)] at this;exact this
  clear k1
  have qB16:=k2
  clear k2
  have qB26:=k3
  clear k3
  have HC:=k4
  clear k4
  have G:=k6
  clear k6
  have qw29_l:=qB26.lt
  have qw29_n:=k5
  clear k5
  go_wp2_with (fail)
  exact bodyPost_ret (results_ad2 (t:=2) (u:=3) rfl _ rfl rfl qB2 qB5) rfl ⟨_,_,_,_,rfl,(by unfold IsPortD;omega),(by unfold IsPortD;omega),HC,G⟩
theorem results_ck {fn:Func} {t u v x y:Tmp} {b c:Nat} {w:World} {x0 x1 y0 y1:Value} (h:fn.results=#[.tmp t,.cell u 26,.cell v 26,.tmp x,.tmp y]) (tmps:Array Value) (hp:tmps.getD u undef=.pointer (some ⟨b,0,none⟩)) (hq:tmps.getD v undef=.pointer (some ⟨c,0,none⟩)) (B:Blk b w #[x0,x1]) (C:Blk c w #[y0,y1]):(results fn tmps).run Tryz.prog w=.ok (.tuple #[tmps.getD t undef,.agg #[x0,x1],.agg #[y0,y1],tmps.getD x undef,tmps.getD y undef]) w:=by
 have e:=var_big ad_big rfl B
 have d:=var_big ad_big rfl C
 have hp':tmps[u]?.getD undef=.pointer (some ⟨b,0,none⟩):=by simpa using hp
 have hq':tmps[v]?.getD undef=.pointer (some ⟨c,0,none⟩):=by simpa using hq
 simp [results,h,hp',hq',asAddr,e,d]
theorem drawCookie (a:Option Addr) (len cap:Nat) (zs:List Int) (w:World) (hb:Bytes w a len zs) (hm:len≤1048576) :
  Calls Tryz.prog 5 #[.slice a len cap] w fun f w'=>∃ sk h p j q e k:Int,f=.returned (.tuple #[.int .u32 sk,addrVal h p,addrVal j q,.int .i64 e,.int .i64 k])∧IsPortD p∧IsPortD q∧IsEpochD e∧(-1≤k∧k≤8)∧Since w w':=by
 have G:=Since.refl w
 unfold addrVal
 go_enter Tryz.func5,Tryz.ntmps5
 go_upto_region 0 with (fail)
 refine vR ?_
 refine vV (uJ 0) ?_
 refine vW (w.alloc (.cells #[uJ 0,iJ 0] 26)) (pX w.heap.size 0) ?_
 have qB2:=Blk.new w #[.int .u32 0,.int .i64 0] 26
 have qg3:=(Since.refl w).alloc (.cells #[.int .u32 0,.int .i64 0] 26)
 replace G:=G.trans qg3
 generalize w.alloc (.cells #[.int .u32 0,.int .i64 0] 26)=qw1 at  G qB2 qg3 ⊢
 have qB2_l:=qB2.lt
 have qg3_s:=qg3.size
 refine vW (qw1.alloc (.cells #[uJ 0,iJ 0] 26)) (pX qw1.heap.size 0) ?_
 have qB5:=Blk.new qw1 #[.int .u32 0,.int .i64 0] 26
 have qg6:=(Since.refl qw1).alloc (.cells #[.int .u32 0,.int .i64 0] 26)
 replace qB2:=qB2.since qg6
 replace G:=G.trans qg6
 generalize qw1.alloc (.cells #[.int .u32 0,.int .i64 0] 26)=qw4 at qB2 G qB5 qg6 ⊢
 have qB5_l:=qB5.lt
 have qg6_s:=qg6.size
 refine vV (iJ 0) ?_
 refine vV (iJ 0) ?_
 refine vE #[.slice a len cap,U,uJ 0,pX w.heap.size 0,pX qw1.heap.size 0,iJ 0,iJ 0,U,U,U,U,U,U,U,U,U,U,U,U,U,U,U,U,U,U,U,U,U,U,U] ?_
 go_upto_region 1 with (fail)
 refine vR ?_
 refine vV (.slice a len cap) ?_
 refine vC (drawNew a len cap zs w hb hm _ G) ?_
 rintro _ qw7 ⟨g,rfl,hgl,qg8,HCu⟩
 refine ⟨_,rfl,?_⟩
 replace qB2:=qB2.since qg8
 replace qB5:=qB5.since qg8
 replace G:=G.trans qg8
 have qg8_s:=qg8.size
 have HC:=Crs.of HCu
 clear HCu
 have hg:=HC.here
 refine vV (pX g 0) ?_
 refine vE #[.slice a len cap,U,uJ 0,pX w.heap.size 0,pX qw1.heap.size 0,iJ 0,iJ 0,pX g 0,U,U,U,U,.slice a len cap,pX g 0,U,U,U,U,U,U,U,U,U,U,U,U,U,U,U,U] ?_
 go_upto_region 2 with (fail)
 refine vR ?_
 refine vV (pX g 0) ?_
 refine vC (dWord _ HC) ?_
 rintro _ qw9 ⟨sk,rfl,hsk,HCn,qt10⟩
 refine ⟨_,rfl,?_⟩
 clear HC
 replace qB2:=qB2.touch qt10 (by omega)
 replace qB5:=qB5.touch qt10 (by omega)
 replace G:=since_touch G qt10 (by omega)
 have HC:=HCn
 clear HCn
 have qt10_s:=qt10.size
 refine vV (uJ sk) ?_
 refine vE #[.slice a len cap,U,uJ 0,pX w.heap.size 0,pX qw1.heap.size 0,iJ 0,iJ 0,pX g 0,uJ sk,U,U,U,.slice a len cap,pX g 0,pX g 0,uJ sk,U,U,U,U,U,U,U,U,U,U,U,U,U,U] ?_
 go_upto_region 3 with (fail)
 refine vR ?_
 refine vV (pX g 0) ?_
 refine vC (drawWho _ HC) ?_
 rintro _ qw11 ⟨h,p,j,q,rfl,hp,hq,HCn,qt12⟩
 refine ⟨_,rfl,?_⟩
 clear HC
 replace qB2:=qB2.touch qt12 (by omega)
 replace qB5:=qB5.touch qt12 (by omega)
 replace G:=since_touch G qt12 (by omega)
 have HC:=HCn
 clear HCn
 have qt12_s:=qt12.size
 refine vV (.tuple #[.agg #[uJ h,iJ p],.agg #[uJ j,iJ q]]) ?_
 refine vV (.agg #[uJ h,iJ p]) ?_
 refine vV (.agg #[uJ j,iJ q]) ?_
 refine vW (qw11.alloc (.cells #[uJ 0,iJ 0] 26)) (pX qw11.heap.size 0) ?_
 have qB14:=Blk.new qw11 #[.int .u32 0,.int .i64 0] 26
 have qg15:=(Since.refl qw11).alloc (.cells #[.int .u32 0,.int .i64 0] 26)
 replace qB2:=qB2.since qg15
 replace qB5:=qB5.since qg15
 replace HC:=HC.since qg15
 replace G:=G.trans qg15
 generalize qw11.alloc (.cells #[.int .u32 0,.int .i64 0] 26)=qw13 at qB2 qB5 HC G qB14 qg15 ⊢
 have qB14_l:=qB14.lt
 have qg15_s:=qg15.size
 refine vW (qw13.alloc (.cells #[uJ 0,iJ 0] 26)) (pX qw13.heap.size 0) ?_
 have qB17:=Blk.new qw13 #[.int .u32 0,.int .i64 0] 26
 have qg18:=(Since.refl qw13).alloc (.cells #[.int .u32 0,.int .i64 0] 26)
 replace qB2:=qB2.since qg18
 replace qB5:=qB5.since qg18
 replace qB14:=qB14.since qg18
 replace HC:=HC.since qg18
 replace G:=G.trans qg18
 generalize qw13.alloc (.cells #[.int .u32 0,.int .i64 0] 26)=qw16 at qB2 qB5 qB14 HC G qB17 qg18 ⊢
 have qB17_l:=qB17.lt
 have qg18_s:=qg18.size
 refine sB #[.int .u32 h,.int .i64 p] ad_big qB14 rfl rfl (by simp [Value.oneCell']) ?_
 intro qw19 qt20 qB21
 clear qB14
 replace qB2:=qB2.touch qt20 (by omega)
 replace qB5:=qB5.touch qt20 (by omega)
 replace qB17:=qB17.touch qt20 (by omega)
 replace HC:=HC.touch qt20 (by omega)
 replace G:=since_touch G qt20 (by omega)
 have qt20_s:=qt20.size
 refine sB #[.int .u32 j,.int .i64 q] ad_big qB17 rfl rfl (by simp [Value.oneCell']) ?_
 intro qw22 qt23 qB24
 clear qB17
 replace qB2:=qB2.touch qt23 (by omega)
 replace qB5:=qB5.touch qt23 (by omega)
 replace qB21:=qB21.touch qt23 (by omega)
 replace HC:=HC.touch qt23 (by omega)
 replace G:=since_touch G qt23 (by omega)
 have qt23_s:=qt23.size
 refine vE #[.slice a len cap,U,uJ 0,pX w.heap.size 0,pX qw1.heap.size 0,iJ 0,iJ 0,pX g 0,uJ sk,pX qw11.heap.size 0,pX qw13.heap.size 0,U,.slice a len cap,pX g 0,pX g 0,uJ sk,.tuple #[.agg #[uJ h,iJ p],.agg #[uJ j,iJ q]],pX g 0,.tuple #[.agg #[uJ h,iJ p],.agg #[uJ j,iJ q]],.agg #[uJ h,iJ p],.agg #[uJ j,iJ q],U,U,U,U,U,U,U,U,U] ?_
 go_upto_region 4 with (fail)
 refine vR ?_
 refine vV (pX g 0) ?_
 refine vC (drawEpoch _ HC) ?_
 rintro _ qw25 ⟨e,rfl,he,HCn,qt26⟩
 refine ⟨_,rfl,?_⟩
 clear HC
 replace qB2:=qB2.touch qt26 (by omega)
 replace qB5:=qB5.touch qt26 (by omega)
 replace qB21:=qB21.touch qt26 (by omega)
 replace qB24:=qB24.touch qt26 (by omega)
 replace G:=since_touch G qt26 (by omega)
 have HC:=HCn
 clear HCn
 have qt26_s:=qt26.size
 refine vV (iJ e) ?_
 refine vE #[.slice a len cap,U,uJ 0,pX w.heap.size 0,pX qw1.heap.size 0,iJ 0,iJ 0,pX g 0,uJ sk,pX qw11.heap.size 0,pX qw13.heap.size 0,iJ e,.slice a len cap,pX g 0,pX g 0,uJ sk,.tuple #[.agg #[uJ h,iJ p],.agg #[uJ j,iJ q]],pX g 0,.tuple #[.agg #[uJ h,iJ p],.agg #[uJ j,iJ q]],.agg #[uJ h,iJ p],.agg #[uJ j,iJ q],pX g 0,iJ e,U,U,U,U,U,U,U] ?_
 go_upto_region 5 with (fail)
 refine wp_region_low (fun x y=>x.heap.size≤y.heap.size) (fun i x v=>match i with
   | 0=>v=.int .u32 sk
   | 1=>v=.agg #[.int .u32 h,.int .i64 p]
   | 2=>v=.agg #[.int .u32 j,.int .i64 q]
   | 3=>v=.int .i64 e
   | 4=>v=.pointer (some ⟨g,0,none⟩)
   | 7=>v=.int .u32 sk
   | 10=>v=.int .i64 e
   | 5=>∃ r:Int,v=.int .i64 r∧0≤r∧r<10
   | 6|11=>∃ k:Int,v=.int .i64 k∧-1≤k∧k≤8
   | _=>True) (fun f vals x=>Blk qw11.heap.size x #[uJ h,iJ p]∧Blk qw13.heap.size x #[uJ j,iJ q]∧Blk w.heap.size x (if f 8 then #[uJ h,iJ p] else #[uJ 0,iJ 0])∧Blk qw1.heap.size x (if f 9 then #[uJ j,iJ q] else #[uJ 0,iJ 0])∧Crs w g a len cap zs x∧qw25.heap.size≤x.heap.size∧Since w x) (fun v=>{tmps:=#[.slice a len cap,U,v 7,pX w.heap.size 0,pX qw1.heap.size 0,v 10,v 11,pX g 0,uJ sk,pX qw11.heap.size 0,pX qw13.heap.size 0,iJ e,.slice a len cap,pX g 0,pX g 0,uJ sk,.tuple #[.agg #[uJ h,iJ p],.agg #[uJ j,iJ q]],pX g 0,.tuple #[.agg #[uJ h,iJ p],.agg #[uJ j,iJ q]],.agg #[uJ h,iJ p],.agg #[uJ j,iJ q],pX g 0,iJ e,v 0,v 1,v 2,v 3,v 4,v 5,v 6],defers:=[]}) (by kernel_rfl) (by kernel_rfl) ?_ ?_ (fun vals=>by kernel_rfl) ?_ ?_
 case refine_1=>
  intro j x y v hl hv
  match j,hv with
  | 0,hv|1,hv|2,hv|3,hv|4,hv|5,hv|6,hv|7,hv|10,hv|11,hv=>exact hv
  | 8,hv|9,hv=>trivial
  | n+12,_=>trivial
 case refine_2=>
  intro f vals hf
  refine ⟨qB21.since ((Since.refl _).drew),qB24.since ((Since.refl _).drew),by rw [hf];exact qB2.since ((Since.refl _).drew),by rw [hf];exact qB5.since ((Since.refl _).drew),HC.since ((Since.refl _).drew),((Since.refl _).drew).size,G.trans ((Since.refl _).drew)⟩
 case refine_3=>
  repeat (first|exact eachLow_nil|refine eachLow_cons ?_ ?_)
  all_goals intro f vals x hf hr hK
  all_goals obtain ⟨k0,k1,k2,k3,k4,k5,k6⟩:=hK
  ·skip
   obtain ⟨-,k,ek,h0,h1⟩:=hr ⟨6,.data⟩ (by simp) rfl
   exact does_valT (.int .i64 k) x (by simp only [ek];kernel_rfl) ⟨Nat.le_refl _,⟨k0,k1,k2,k3,k4,k5,k6⟩,k,rfl,h0,h1⟩
  ·skip
   have e3:vals 3=.int .i64 e:=(hr ⟨3,.data⟩ (by simp) rfl).2
   exact does_valT (.int .i64 e) x (by simp only [e3];kernel_rfl) ⟨Nat.le_refl _,⟨k0,k1,k2,k3,k4,k5,k6⟩,rfl⟩
  ·skip
   have e2:vals 2=.agg #[.int .u32 j,.int .i64 q]:=(hr ⟨2,.data⟩ (by simp) rfl).2
   rw [hf] at k3
   refine does_store ad_big rfl (Raw.of k3 rfl) (by simp [Value.oneCell']) _ _ rfl rfl e2 ?_
   intro z t B
   exact ⟨t.size,⟨k0.touch t (by omega),k1.touch t (by omega),k2.touch t (by omega),B,k4.touch t (by omega),Nat.le_trans k5 t.size,since_touch k6 t (by omega)⟩,trivial⟩
  ·skip
   have e1:vals 1=.agg #[.int .u32 h,.int .i64 p]:=(hr ⟨1,.data⟩ (by simp) rfl).2
   rw [hf] at k2
   refine does_store ad_big rfl (Raw.of k2 rfl) (by simp [Value.oneCell']) _ _ rfl rfl e1 ?_
   intro z t B
   exact ⟨t.size,⟨k0.touch t (by omega),k1.touch t (by omega),B,k3.touch t (by omega),k4.touch t (by omega),Nat.le_trans k5 t.size,since_touch k6 t (by omega)⟩,trivial⟩
  ·skip
   have e0:vals 0=.int .u32 sk:=(hr ⟨0,.data⟩ (by simp) rfl).2
   exact does_valT (.int .u32 sk) x (by simp only [e0];kernel_rfl) ⟨Nat.le_refl _,⟨k0,k1,k2,k3,k4,k5,k6⟩,rfl⟩
  ·skip
   obtain ⟨-,r,er,h0,h1⟩:=hr ⟨5,.data⟩ (by simp) rfl
   have hw:IntKind.i64.wrap (r - 1)=r - 1:=by
    rw [IntWalk.i64_left]
    exact IntWalk.wrap64_in _ ⟨by omega,by omega⟩
   exact does_valT (.int .i64 (r - 1)) x (by simp only [er];rw [← hw];kernel_rfl) ⟨Nat.le_refl _,⟨k0,k1,k2,k3,k4,k5,k6⟩,r - 1,rfl,by omega,by omega⟩
  ·skip
   have e4:vals 4=.pointer (some ⟨g,0,none⟩):=(hr ⟨4,.data⟩ (by simp) rfl).2
   simp [does,doesUpon,go_sem,e4]
   refine (dBelow 10 (by omega) _ k4).mono ?_
   rintro _ x' ⟨r,rfl,h,HC',t⟩
   exact ⟨_,rfl,t.size,⟨k0.touch t (by omega),k1.touch t (by omega),k2.touch t (by omega),k3.touch t (by omega),HC',Nat.le_trans k5 t.size,since_touch k6 t (by omega)⟩,r,rfl,h.1,h.2⟩
  ·skip
   exact does_valT (.pointer (some ⟨g,0,none⟩)) x (by kernel_rfl) ⟨Nat.le_refl _,⟨k0,k1,k2,k3,k4,k5,k6⟩,rfl⟩
  ·skip
   exact does_valT (.int .i64 e) x (by kernel_rfl) ⟨Nat.le_refl _,⟨k0,k1,k2,k3,k4,k5,k6⟩,rfl⟩
  ·skip
   exact does_load ad_big rfl k1 _ rfl rfl ⟨Nat.le_refl _,⟨k0,k1,k2,k3,k4,k5,k6⟩,rfl⟩
  ·skip
   exact does_load ad_big rfl k0 _ rfl rfl ⟨Nat.le_refl _,⟨k0,k1,k2,k3,k4,k5,k6⟩,rfl⟩
  ·skip
   exact does_valT (.int .u32 sk) x (by kernel_rfl) ⟨Nat.le_refl _,⟨k0,k1,k2,k3,k4,k5,k6⟩,rfl⟩
 intro f vals y hK hf hv
 obtain ⟨k0,k1,k2,k3,k4,k5,k6⟩:=hK
 rw [hf 8 (by decide)] at k2
 rw [hf 9 (by decide)] at k3
 have hv0:vals 0=_:=hv 0 (by decide)
 have hv1:vals 1=_:=hv 1 (by decide)
 have hv2:vals 2=_:=hv 2 (by decide)
 have hv3:vals 3=_:=hv 3 (by decide)
 have hv4:vals 4=_:=hv 4 (by decide)
 have hv7:vals 7=_:=hv 7 (by decide)
 have hv10:vals 10=_:=hv 10 (by decide)
 obtain ⟨r,hv5,-⟩:=hv 5 (by decide)
 obtain ⟨k6v,hv6,-⟩:=hv 6 (by decide)
 obtain ⟨k,hv11,hk0,hk1⟩:=hv 11 (by decide)
 clear hv hf
 simp only [hv0,hv1,hv2,hv3,hv4,hv5,hv6,hv7,hv10,hv11]
 go_wp2_with (fail)
 exact bodyPost_ret (results_ck (t:=2) (u:=3) (v:=4) (x:=5) (y:=6) rfl _ rfl rfl k2 k3) rfl ⟨_,_,_,_,_,_,_,rfl,hp,hq,he,⟨hk0,hk1⟩,k6⟩
end Go.Proofs.YtmigalhmlofbkaaGreatDoor
