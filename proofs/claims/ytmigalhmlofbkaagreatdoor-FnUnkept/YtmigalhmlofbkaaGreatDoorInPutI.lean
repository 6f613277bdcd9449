/- A part of the proof. -/
import Derived.Test.YtmigalhmlofbkaaGreatDoorM29
set_option linter.unusedVariables false
set_option maxRecDepth 10000
set_option maxHeartbeats 4000000
namespace Go.Proofs.YtmigalhmlofbkaaGreatDoor
open Go.ChangeShapes Go.WideShapes Go.ChangeAt Go.RowKit Go.Deep
theorem bytesTextI (s:ByteArray) (w:World):∃ cap w1,(convert 9 22 (.string s)).run Tryz.prog w=.ok (.slice (some ⟨w.heap.size,0,none⟩) s.size cap) w1∧s.size≤cap∧Since w w1∧w1.heap.size=w.heap.size+1∧∀ i,i<s.size→w1.cell? ⟨w.heap.size,i,none⟩=some (.int .u8 (byteAt s i)):=by
 refine ⟨_,_,run_bytes_of_string w 9 22 5 s Tryz.underlying9 Tryz.underlying22 Tryz.underlying5,grownCap_ge _ _ _ _,?_,?_,?_⟩
 ·exact ((Since.refl w).drew).alloc _
 ·exact (World.size_alloc _ _)
 ·intro i hi
  refine (World.cell?_alloc_mark w.drew _ _ _ i).trans ?_
  rw [bytesRow_at s _ i hi,byteAt_in s i hi]
  rfl
theorem implInPut (q:Int) (d:ByteArray) (r:Int) (a:Option Addr) (n cap:Nat) (ps:List (Int×ByteArray)) (seq:Int) (s:ByteArray) (at':Int) (gd:Good q d r n ps) (hseq:IsWord seq) (ha:IsDist q seq at') (hss:s.size≤1048576) (w:World) (hblk:∀ x,a=some x→x.block<w.heap.size) (R:Rd shP w a n ps) :
  Calls Tryz.prog 112 #[inVal q d (.slice a n cap) r,.int .u32 seq,.string s] w fun e w'=>∃ g m c,e=.returned (.tuple #[inVal (pQ q d r ps at' s) (pD q d r ps at' s) (.slice (some ⟨g,0,none⟩) m c) r,.int .i64 (pM q d r ps at' s)])∧Held shP w' w.heap.size g m c (pL q d r ps at' s)∧Since w w':=by
 have hlen:=R.len
 have hdist:=fun wx=>implDist q seq at' gd.hq hseq ha wx
 have hok:=fun wx Rx=>implInOk q d r a n cap ps gd wx Rx
 have hfr:=fun wx Rx=>freshIn q d r a n cap ps gd wx Rx
 have G:Since w ((w.alloc (.cells #[.int .u32 q,.string d,.slice a n cap,.int .i64 r] 33)).alloc (.cells #[.int .u32 0,.string ⟨#[]⟩,.slice none 0 0,.int .i64 0] 33)):=((Since.refl _).alloc _).alloc _
 have A:=(Blk.new w #[.int .u32 q,.string d,.slice a n cap,.int .i64 r] 33).since ((Since.refl _).alloc (.cells #[.int .u32 0,.string ⟨#[]⟩,.slice none 0 0,.int .i64 0] 33))
 have B:=Blk.new (w.alloc (.cells #[.int .u32 q,.string d,.slice a n cap,.int .i64 r] 33)) #[.int .u32 0,.string ⟨#[]⟩,.slice none 0 0,.int .i64 0] 33
 simp only [World.size_alloc] at A B
 have hok1:=hok _ (R.since G)
 clear hok
 obtain ⟨ha1,ha2,_⟩:=ha
 by_cases hp:putOk q d r ps at' s
 ·obtain ⟨hk,hp1,hp2,hp3⟩:=hp
  have hp:putOk q d r ps at' s:=⟨hk,hp1,hp2,hp3⟩
  obtain ⟨⟨hr1,hr2⟩,hr3,hkb⟩:=inOk_room hk
  obtain ⟨W,hW⟩:=Int.eq_ofNat_of_zero_le (show 0≤r - (d.size:Int) by omega)
  have hroom:=fun wx=>inRoom q d (.slice a n cap) r gd.hd (by omega) wx
  rw [hW] at hroom hkb
  have hd1:decide ((536:Int)<(s.size:Int))=false:=decide_eq_false (by omega)
  have hd2:decide (at' < -99999)=false:=decide_eq_false (by omega)
  have hd3:decide ((4095:Int)<at')=false:=decide_eq_false (by omega)
  have hadd:IntKind.i64.wrap (at'+(s.size:Int))=at'+(s.size:Int):=by rw [IntWalk.i64_left];exact IntWalk.wrap64_in _ ⟨by omega,by omega⟩
  have hwin:=fun wx=>spanWithin (at',at'+(s.size:Int)) W wx
  obtain ⟨cc,hcc⟩:∃ cc,came at' s W=cc:=⟨_,rfl⟩
  rw [show (max (at',at'+(s.size:Int)).1 0,min (at',at'+(s.size:Int)).2 (W:Int))=came at' s W from rfl,hcc] at hwin
  have hemp:=fun wx=>isEmpty cc wx
  rw [hk] at hok1
  by_cases hc:cc.1<cc.2
  ·rw [show decide (cc.2≤cc.1)=false from decide_eq_false (by omega)] at hemp
   obtain ⟨J,hJ⟩:∃ J,Hid (joinR (spans q ps) cc=J):=⟨_,rfl⟩
   have hpJ:pJ q ps at' s W=J:=by unfold pJ;rw [hcc,if_pos hc];exact hJ.out
   obtain ⟨c1,c2⟩:=cc
   simp only at *
   have hc0:0≤c1∧c2≤W∧at'≤c1∧c2≤at'+s.size∧(c1=at'∨c1=0):=by
    unfold came at hcc
    injection hcc with h1 h2
    omega
   obtain ⟨cf,rfl⟩:=Int.eq_ofNat_of_zero_le hc0.1
   obtain ⟨ct,rfl⟩:=Int.eq_ofNat_of_zero_le (show 0≤c2 by omega)
   obtain ⟨_,hc1,hc2,hc3,hc4⟩:=hc0
   obtain ⟨po,hpo⟩:=Int.eq_ofNat_of_zero_le (show 0≤(cf:Int) - at' by omega)
   have hpo2:(ct:Int) - at'=((po+(ct - cf):Nat):Int):=by omega
   have hpo3:po+(ct - cf)≤s.size:=by omega
   have hJok:=pJ_ok q ps at' s W hkb
   rw [hpJ] at hJok
   obtain ⟨F,hF⟩:∃ F,lay q ps (over (fun _=>0) cf (ct - cf) (fun j=>byteAt s (po+j)))=F:=⟨_,rfl⟩
   have hFF:∀ i,cov J i=true→pF q ps at' s i=F i:=by
    intro i hi
    have hcv:=pJ_cov q ps at' s W hkb i
    rw [hpJ,hcc,hi] at hcv
    rw [← hF]
    unfold pF
    cases hcs:cov (spans q ps) i
    ·rw [lay_out q i ps _ 0 W hkb (by omega) hcs,lay_out q i ps _ 0 W hkb (by omega) hcs]
     rw [hcs,Bool.false_or] at hcv
     have hin:=(inS_iff _ _).1 hcv.symm
     simp only at hin
     unfold base
     rw [over_or,if_pos (by omega),if_pos (by omega)]
     congr 1
     omega
    ·exact (lay_in q i ps _ _ 0 W hkb (by omega) hcs).1
   have hQN:∃ QN,Hid (gQ q J=QN):=⟨_,rfl⟩
   obtain ⟨QN,hQN⟩:=hQN
   obtain ⟨DN,hDN⟩:∃ DN,Hid (gD d F J=DN):=⟨_,rfl⟩
   obtain ⟨LN,hLN⟩:∃ LN,Hid (gL q F J=LN):=⟨_,rfl⟩
   obtain ⟨HN,hHN⟩:∃ HN,inHeld q d r ps=HN:=⟨_,rfl⟩
   have eQ:Hid (pQ q d r ps at' s=QN):=by unfold pQ;rw [if_pos hp,hW];rw [show pJ q ps at' s ((W:Nat):Int)=J from hpJ];exact hQN
   have eD:Hid (pD q d r ps at' s=DN):=by unfold pD;rw [if_pos hp,hW];rw [show pJ q ps at' s ((W:Nat):Int)=J from hpJ,gD_congr d q _ F J (-1) W hJok (by omega) hFF];exact hDN
   have eL:Hid (pL q d r ps at' s=LN):=by unfold pL;rw [if_pos hp,hW];rw [show pJ q ps at' s ((W:Nat):Int)=J from hpJ,gL_congr q _ F J (-1) W hJok (by omega) hFF];exact hLN
   have eM:Hid (pM q d r ps at' s=sumS J - HN):=by unfold pM;rw [if_pos hp,hW];rw [show pJ q ps at' s ((W:Nat):Int)=J from hpJ,← hHN];unfold inHeld;rw [if_pos hk];rfl
   have hJs:=sumS_cnt J (-1) W hJok (by omega)
   have hSs:=sumS_cnt (spans q ps) 0 W hkb (by omega)
   have hHS:HN=sumS (spans q ps):=by rw [← hHN];unfold inHeld;rw [if_pos hk]
   have hcn:=cnt_le (cov J) W
   have hcn2:=cnt_le (cov (spans q ps)) W
   have hsub:IntKind.i64.wrap (sumS J - HN)=sumS J - HN:=by rw [IntWalk.i64_left];exact IntWalk.wrap64_in _ ⟨by omega,by omega⟩
   have hsp:=fun wx Rx=>spansOf q d r a n cap ps gd wx Rx
   have hJl:J.length≤4098:=by
    have:=okB_many J (-1) W hJok (by omega)
    omega
   have hjn:=fun ao cp wx Rx=>joined ao n cp (spans q ps) ((cf:Int),(ct:Int)) gd.hn wx Rx
   have hld:=fun pb cp wx Rx h1 h2=>laid q d r a n cap ps gd hk W cf ct cp ⟨pb,po,none⟩ (fun j=>byteAt s (po+j)) hW (by omega) (by omega) wx Rx h1 h2
   have hga:=fun c jm jc la wx C R=>gathered q d (.slice a n cap) r c W jm jc la F J gd.hq (by omega) (by omega) hJok wx C R
   have hbi:=fun ao jm jc (hjm:J.length=jm) wx Rx=>bytesIn ao jm jc J (by omega) (fun i hi=>by have:=okB_at J (-1) W i hJok (by omega);omega) wx Rx
   have hhe:=fun wx Rx=>implInHeld q d r a n cap ps gd wx Rx
   rw [hHN] at hhe
   rw [hF] at hld
   clear hFF hF hpJ hJs hSs hHS hcn hcn2 hkb hp hHN hcc hfr
   unfold inVal spVal at *
   simp only at hwin hjn hld hga hbi hhe
   replace hJ:Hid (joinR (spans q ps) ((cf:Int),(ct:Int))=J):=hJ
   have hne1:¬ ct - cf=0:=by omega
   have hle1:po≤po+(ct - cf):=by omega
   have hsl:po+(ct - cf) - po=ct - cf:=by omega
   clear hJok
   go_enter Tryz.func112,Tryz.ntmps112
   go_wp2_with (first|(go_at_call 90;refine (hdist _).mono ?_;rintro _ _ ⟨rfl,rfl⟩)|(go_at_call 87;refine hok1.mono ?_;rintro _ w1 ⟨rfl,g1⟩;replace A:=A.since g1;replace B:=B.since g1;replace G:=G.trans g1;have a0:=A.cell 0;have a1:=A.cell 1;have a2:=A.cell 2;have a3:=A.cell 3;simp at a0 a1 a2 a3)|(go_at_call 94;refine (hroom _).mono ?_;rintro _ w2 ⟨rfl,g2⟩;replace A:=A.since g2;replace B:=B.since g2;replace G:=G.trans g2)|(go_at_call 144;refine (hwin _).mono ?_;rintro _ w3 ⟨rfl,g3⟩;replace A:=A.since g3;replace B:=B.since g3;replace G:=G.trans g3;have hBl3:=B.lt;have X:=Blk.new w3 #[.int .i64 (cf:Int),.int .i64 (ct:Int)] 167;have k3:=(Since.refl w3).alloc (.cells #[.int .i64 (cf:Int),.int .i64 (ct:Int)] 167);replace A:=A.since k3;replace B:=B.since k3;replace G:=G.trans k3;clear a0 a1 a2 a3;have a0:=A.cell 0;have a1:=A.cell 1;have a2:=A.cell 2;have a3:=A.cell 3;simp at a0 a1 a2 a3;have x0:=X.cell 0;have x1:=X.cell 1;simp at x0 x1)|(go_at_call 125;refine (hemp _).mono ?_;rintro _ w4 ⟨rfl,g4⟩;obtain ⟨bcap,w5,hconv,hbcap,g5,hsz5,hcell⟩:=bytesTextI s w4;replace hcell:Hid _:=hcell;have hw4:=G.le;have hBl4:=B.lt;replace A:=(A.since g4).since g5;replace B:=(B.since g4).since g5;replace X:=(X.since g4).since g5;replace G:=(G.trans g4).trans g5;have hg4:=g4.le;clear a0 a1 a2 a3 x0 x1;have a0:=A.cell 0;have a1:=A.cell 1;have a2:=A.cell 2;have a3:=A.cell 3;simp at a0 a1 a2 a3;have x0:=X.cell 0;have x1:=X.cell 1;simp at x0 x1)|fail)
   have Rg:=R.since G
   have hblk2:∀ x,a=some x→x.block≠w.heap.size+1:=fun x hx=>by have:=hblk x hx;omega
   clear a0 a1 a2 a3 x0 x1 hconv
   refine wp_region_each (wb:=w5) (fun i x v=>match i with
     | 0=>v=.agg #[.int .u32 q,.string d,.slice a n cap,.int .i64 r]
     | 1=>∃ b c,v=.slice (some ⟨b,0,none⟩) n c∧Held shS x 0 b n c (spans q ps)
     | 2=>v=.agg #[.int .i64 (cf:Int),.int .i64 (ct:Int)]
     | 3=>∃ b m c,v=.slice (some ⟨b,0,none⟩) m c∧Held shS x w5.heap.size b m c J
     | 4=>∃ b m c,v=.slice (some ⟨b,0,none⟩) m c∧Held shS x w5.heap.size b m c J
     | _=>True) (fun v=>{tmps:=#[Value.agg #[Value.int IntKind.u32 q,Value.string d,Value.slice a n cap,Value.int IntKind.i64 r],Value.int IntKind.u32 seq,Value.string s,Value.pointer (some ⟨w.heap.size,0,none⟩),undef,undef,Value.pointer (some ⟨w.heap.size+1,0,none⟩),Value.int IntKind.i64 0,Value.int IntKind.i64 at',Value.pointer (some ⟨w3.heap.size,0,none⟩),Value.slice (some ⟨w4.heap.size,po,none⟩) (po+(ct - cf) - po) (po+(ct - cf) - po),v 4,Value.pointer (some ⟨w.heap.size,0,none⟩),Value.int IntKind.u32 q,Value.int IntKind.u32 seq,Value.int IntKind.i64 at',Value.agg #[Value.int IntKind.u32 q,Value.string d,Value.slice a n cap,Value.int IntKind.i64 r],Value.bool true,Value.bool false,Value.bool false,Value.string s,Value.int IntKind.i64 (s.size:Int),Value.bool false,Value.bool false,Value.bool false,Value.int IntKind.i64 at',Value.bool false,Value.bool false,Value.bool false,Value.int IntKind.i64 at',Value.bool false,Value.bool false,undef,undef,Value.int IntKind.i64 at',Value.int IntKind.i64 at',Value.string s,Value.int IntKind.i64 (s.size:Int),Value.int IntKind.i64 (at'+(s.size:Int)),Value.agg #[Value.int IntKind.i64 at',Value.int IntKind.i64 (at'+(s.size:Int))],Value.agg #[Value.int IntKind.u32 q,Value.string d,Value.slice a n cap,Value.int IntKind.i64 r],Value.int IntKind.i64 (W:Int),Value.agg #[Value.int IntKind.i64 (cf:Int),Value.int IntKind.i64 (ct:Int)],Value.agg #[Value.int IntKind.i64 (cf:Int),Value.int IntKind.i64 (ct:Int)],Value.bool false,undef,undef,Value.string s,Value.slice (some ⟨w4.heap.size,0,none⟩) s.size bcap,Value.pointer (some ⟨w3.heap.size,0,none⟩),Value.int IntKind.i64 (cf:Int),Value.int IntKind.i64 at',Value.int IntKind.i64 (po:Int),Value.pointer (some ⟨w3.heap.size,1,none⟩),Value.int IntKind.i64 (ct:Int),Value.int IntKind.i64 at',Value.int IntKind.i64 ((po:Int)+((ct - cf:Nat):Int)),Value.pointer (some ⟨w3.heap.size,1,none⟩),Value.int IntKind.i64 (ct:Int),Value.int IntKind.i64 at',Value.int IntKind.i64 ((po:Int)+((ct - cf:Nat):Int)),Value.slice (some ⟨w4.heap.size,po,none⟩) (po+(ct - cf) - po) (po+(ct - cf) - po),v 0,v 1,v 2,v 3,undef,undef,undef,undef,undef,undef,undef,undef,undef,undef,undef,undef],defers:=[]}) (by kernel_rfl) (by kernel_rfl) (Since.refl _) ?_ (fun vals=>by kernel_rfl) ?_ ?_
   case refine_1=>
    intro j x x' v h1 h2
    match j,h2 with
    | 1,h2=>
     obtain ⟨b,c,e,H⟩:=h2
     exact ⟨b,c,e,H.since h1⟩
    | 3,h2=>
     obtain ⟨b,m,c,e,H⟩:=h2
     exact ⟨b,m,c,e,H.since h1⟩
    | 4,h2=>
     obtain ⟨b,m,c,e,H⟩:=h2
     exact ⟨b,m,c,e,H.since h1⟩
    | 0,h2|2,h2=>exact h2
    | n+5,_=>trivial
   case refine_2=>
    repeat (first|exact eachDoes_nil|refine eachDoes_cons ?_ ?_)
    all_goals intro vals x hx hv
    all_goals simp [Region.binds] at hv
    ·obtain ⟨b,m,c,e,H⟩:=hv.1
     simp [does,doesUpon,go_sem,e,Since.refl]
     exact ⟨b,m,c,⟨rfl,rfl,rfl⟩,H⟩
    ·obtain ⟨⟨b,c,h1,H⟩,h2⟩:=hv
     simp [does,doesUpon,go_sem,h1,h2]
     refine (hjn _ c x H.reads).mono ?_
     rintro _ x' ⟨b',m',c',rfl,H',h3⟩
     exact ⟨_,rfl,h3,b',m',c',rfl,by rw [← hJ.out];exact H'.raise (by have:=H'.low';have:=hx.le;omega)⟩
    ·have e0:=(X.since hx).cell 0
     have e1:=(X.since hx).cell 1
     simp at e0 e1
     simp [does,doesUpon,go_sem,e0,e1,Since.refl]
    ·simp [does,doesUpon,go_sem,hv]
     refine (hsp x (Rg.since hx)).mono ?_
     rintro _ x' ⟨b,c,rfl,H,h1⟩
     exact ⟨_,rfl,h1,b,c,rfl,H.raise (Nat.zero_le _)⟩
    ·have e0:=(A.since hx).cell 0
     have e1:=(A.since hx).cell 1
     have e2:=(A.since hx).cell 2
     have e3:=(A.since hx).cell 3
     simp at e0 e1 e2 e3
     simp [does,doesUpon,go_sem,e0,e1,e2,e3,Since.refl]
   case refine_3=>
    intro vals x hx hv
    have h4:=hv 4 (by decide)
    clear hv
    obtain ⟨jb,jm,jc,h4,HJ⟩:=h4
    simp only [h4]
    generalize vals 0=v1
    generalize vals 1=v2
    generalize vals 2=v3
    generalize vals 3=v4
    replace A:=A.since hx
    replace B:=B.since hx
    replace X:=X.since hx
    replace G:=G.trans hx
    replace Rg:=Rg.since hx
    have hpc:∀ j,j<ct - cf→x.cell? ((⟨w4.heap.size,po,none⟩:Addr).add j)=some (.int .u8 (byteAt s (po+j))):=fun j hj=>by
     rw [show (⟨w4.heap.size,po,none⟩:Addr).add j=⟨w4.heap.size,po+j,none⟩ by unfold Addr.add;split<;>simp_all]
     exact (Below.cell hx (p:=⟨w4.heap.size,po+j,none⟩) (by show w4.heap.size<w5.heap.size;omega)).trans (hcell.out (po+j) (by omega))
    replace hpc:Hid _:=hpc
    have hjlo:=HJ.low'
    have hjhi:=HJ.lt
    have hxle:=hx.le
    have hBl:=B.lt
    go_wp2
    obtain ⟨w7,hw7⟩:∃ w7,w7=x:=⟨_,rfl⟩
    subst hw7
    refine wp_region_keepI (wb:=w7) (w.heap.size+1) 4 (fun x=>∃ gl m' c',Blk (w.heap.size+1) x #[.int .u32 QN,.string DN,.slice (some ⟨gl,0,none⟩) m' c',.int .i64 r]∧Held shP x w.heap.size gl m' c' LN∧w.heap.size+1<gl) (fun x y k ⟨gl,m',c',h1,h2,h3⟩=>⟨gl,m',c',h1.since k,h2.since k,h3⟩) (fun i x v=>match i with
      | 0=>v=.agg #[.int .u32 q,.string d,.slice a n cap,.int .i64 r]
      | 1=>v=.agg #[.int .u32 q,.string d,.slice a n cap,.int .i64 r]
      | 2=>v=.agg #[.int .i64 (cf:Int),.int .i64 (ct:Int)]
      | 3=>v=.slice (some ⟨w4.heap.size,po,none⟩) (ct - cf) (ct - cf)
      | 4=>∃ c,v=.slice (some ⟨c,0,none⟩) W W∧Byt x c W F∧w.heap.size+1<c
      | 5=>v=.slice (some ⟨jb,0,none⟩) jm jc
      | 6=>∃ gl m' c',v=.agg #[.int .u32 QN,.string DN,.slice (some ⟨gl,0,none⟩) m' c',.int .i64 r]∧Held shP x w.heap.size gl m' c' LN∧w.heap.size+1<gl
      | 7=>v=.slice (some ⟨jb,0,none⟩) jm jc
      | 8=>v=.int .i64 (sumS J)
      | 9=>v=.agg #[.int .u32 q,.string d,.slice a n cap,.int .i64 r]
      | 10=>v=.int .i64 HN
      | 11=>v=.int .i64 (sumS J - HN)
      | 12=>∃ gl m' c',Blk (w.heap.size+1) x #[.int .u32 QN,.string DN,.slice (some ⟨gl,0,none⟩) m' c',.int .i64 r]∧Held shP x w.heap.size gl m' c' LN∧w.heap.size+1<gl
      | 13=>v=.int .i64 (sumS J - HN)
      | _=>True) (fun v=>{tmps:=#[Value.agg #[Value.int IntKind.u32 q,Value.string d,Value.slice a n cap,Value.int IntKind.i64 r],Value.int IntKind.u32 seq,Value.string s,Value.pointer (some ⟨w.heap.size,0,none⟩),undef,undef,Value.pointer (some ⟨w.heap.size+1,0,none⟩),v 13,Value.int IntKind.i64 at',Value.pointer (some ⟨w3.heap.size,0,none⟩),Value.slice (some ⟨w4.heap.size,po,none⟩) (po+(ct - cf) - po) (po+(ct - cf) - po),Value.slice (some ⟨jb,0,none⟩) jm jc,Value.pointer (some ⟨w.heap.size,0,none⟩),Value.int IntKind.u32 q,Value.int IntKind.u32 seq,Value.int IntKind.i64 at',Value.agg #[Value.int IntKind.u32 q,Value.string d,Value.slice a n cap,Value.int IntKind.i64 r],Value.bool true,Value.bool false,Value.bool false,Value.string s,Value.int IntKind.i64 (s.size:Int),Value.bool false,Value.bool false,Value.bool false,Value.int IntKind.i64 at',Value.bool false,Value.bool false,Value.bool false,Value.int IntKind.i64 at',Value.bool false,Value.bool false,undef,undef,Value.int IntKind.i64 at',Value.int IntKind.i64 at',Value.string s,Value.int IntKind.i64 (s.size:Int),Value.int IntKind.i64 (at'+(s.size:Int)),Value.agg #[Value.int IntKind.i64 at',Value.int IntKind.i64 (at'+(s.size:Int))],Value.agg #[Value.int IntKind.u32 q,Value.string d,Value.slice a n cap,Value.int IntKind.i64 r],Value.int IntKind.i64 (W:Int),Value.agg #[Value.int IntKind.i64 (cf:Int),Value.int IntKind.i64 (ct:Int)],Value.agg #[Value.int IntKind.i64 (cf:Int),Value.int IntKind.i64 (ct:Int)],Value.bool false,undef,undef,Value.string s,Value.slice (some ⟨w4.heap.size,0,none⟩) s.size bcap,Value.pointer (some ⟨w3.heap.size,0,none⟩),Value.int IntKind.i64 (cf:Int),Value.int IntKind.i64 at',Value.int IntKind.i64 (po:Int),Value.pointer (some ⟨w3.heap.size,1,none⟩),Value.int IntKind.i64 (ct:Int),Value.int IntKind.i64 at',Value.int IntKind.i64 ((po:Int)+((ct - cf:Nat):Int)),Value.pointer (some ⟨w3.heap.size,1,none⟩),Value.int IntKind.i64 (ct:Int),Value.int IntKind.i64 at',Value.int IntKind.i64 ((po:Int)+((ct - cf:Nat):Int)),Value.slice (some ⟨w4.heap.size,po,none⟩) (po+(ct - cf) - po) (po+(ct - cf) - po),v1,v2,v3,v4,v 0,v 1,v 2,v 3,v 4,v 5,v 6,v 7,v 8,v 9,v 10,v 11],defers:=[]}) (by kernel_rfl) (by kernel_rfl) (by kernel_rfl) (KeepI.refl _ _ _ _) ?_ (fun vals=>by kernel_rfl) ?_ ?_
    case refine_1=>
     intro j x x' v h1 h2
     match j,h2 with
     | 4,h2=>
      obtain ⟨c,e,H,h3⟩:=h2
      exact ⟨c,e,H.touch h1.touch (by omega),h3⟩
     | 6,h2=>
      obtain ⟨gl,m',c',e,H,h3⟩:=h2
      exact ⟨gl,m',c',e,H.touch h1.touch (by omega),h3⟩
     | 12,h2=>
      exact h1.keep h2
     | 0,h2|1,h2|2,h2|3,h2|5,h2|7,h2|8,h2|9,h2|10,h2|11,h2|13,h2=>exact h2
     | n+14,_=>trivial
    case refine_2=>
     repeat (first|exact eachDoesR_nil|refine eachDoesR_cons ?_ ?_)
     all_goals intro vals x hx hv
     all_goals simp [Region.binds] at hv
     ·simp [does,doesUpon,go_sem,hv,KeepI.refl]
     ·have hraw:Raw (w.heap.size+1) 4 x:=hx.raw ⟨_,rfl,B⟩
      obtain ⟨u0,e0⟩:=hraw.cell 0 (by decide)
      obtain ⟨u1,e1⟩:=hraw.cell 1 (by decide)
      obtain ⟨u2,e2⟩:=hraw.cell 2 (by decide)
      obtain ⟨u3,e3⟩:=hraw.cell 3 (by decide)
      have z0:=hraw.fz 0
      have z1:=hraw.fz 1
      have z2:=hraw.fz 2
      have z3:=hraw.fz 3
      have h6:=hv.1
      obtain ⟨gl,m',c',h6,H,h7⟩:=h6
      simp [does,doesUpon,go_sem,h6,e0,e1,e2,e3,z0,z1,z2,z3]
      have hp:=hraw.put4 (.int .u32 QN) (.string DN) (.slice (some ⟨gl,0,none⟩) m' c') (.int .i64 r)
      have H':=(((H.other (show gl≠w.heap.size+1 by omega) 0 (.int .u32 QN)).other (show gl≠w.heap.size+1 by omega) 1 (.string DN)).other (show gl≠w.heap.size+1 by omega) 2 (.slice (some ⟨gl,0,none⟩) m' c')).other (show gl≠w.heap.size+1 by omega) 3 (.int .i64 r)
      exact ⟨⟨hp.1,fun _=>⟨gl,m',c',hp.2,H',h7⟩,fun _=>⟨_,rfl,hp.2⟩⟩,gl,m',c',hp.2,H',h7⟩
     ·obtain ⟨h8,h10⟩:=hv
      simp [does,doesUpon,go_sem,h8,h10,KeepI.refl,hsub]
     ·simp [does,doesUpon,go_sem,hv]
      refine (hhe x (Rg.touch hx.touch hblk2)).mono ?_
      rintro _ x' ⟨rfl,h6⟩
      simp [KeepI.of_since (I:=(fun x=>∃ gl m' c',Blk (w.heap.size+1) x #[.int .u32 QN,.string DN,.slice (some ⟨gl,0,none⟩) m' c',.int .i64 r]∧Held shP x w.heap.size gl m' c' LN∧w.heap.size+1<gl)) (g:=w.heap.size+1) (n:=4) (fun x y k ⟨gl,m',c',h1,h2,h3⟩=>⟨gl,m',c',h1.since k,h2.since k,h3⟩) h6]
     ·have e0:=(A.touch hx.touch (by omega)).cell 0
      have e1:=(A.touch hx.touch (by omega)).cell 1
      have e2:=(A.touch hx.touch (by omega)).cell 2
      have e3:=(A.touch hx.touch (by omega)).cell 3
      simp at e0 e1 e2 e3
      simp [does,doesUpon,go_sem,e0,e1,e2,e3,KeepI.refl]
     ·simp [does,doesUpon,go_sem,hv]
      refine (hbi _ jm jc HJ.1 x (HJ.touch hx.touch (by omega)).reads).mono ?_
      rintro _ x' ⟨rfl,h6⟩
      simp [KeepI.of_since (I:=(fun x=>∃ gl m' c',Blk (w.heap.size+1) x #[.int .u32 QN,.string DN,.slice (some ⟨gl,0,none⟩) m' c',.int .i64 r]∧Held shP x w.heap.size gl m' c' LN∧w.heap.size+1<gl)) (g:=w.heap.size+1) (n:=4) (fun x y k ⟨gl,m',c',h1,h2,h3⟩=>⟨gl,m',c',h1.since k,h2.since k,h3⟩) h6]
     ·simp [does,doesUpon,go_sem,KeepI.refl]
     ·obtain ⟨h0,⟨c,h4,H4,hc⟩,h5⟩:=hv
      simp [does,doesUpon,go_sem,h0,h4,h5]
      refine (hga c jm jc ⟨jb,0,none⟩ x H4 (HJ.touch hx.touch (by omega)).reads).mono ?_
      rintro _ x' ⟨gl,m',c',rfl,H,h6⟩
      rw [hQN.out,hDN.out]
      rw [hLN.out] at H
      exact ⟨_,rfl,KeepI.of_since (fun x y k ⟨gl,m',c',h1,h2,h3⟩=>⟨gl,m',c',h1.since k,h2.since k,h3⟩) h6,gl,m',c',rfl,H.raise (by have:=H.low';have:=hx.touch.size;omega),by have:=H.low';have:=hx.touch.size;omega⟩
     ·simp [does,doesUpon,go_sem,KeepI.refl]
     ·obtain ⟨h1,h2,h3⟩:=hv
      simp [does,doesUpon,go_sem,h1,h2,h3]
      refine (hld w4.heap.size (ct - cf) x (Rg.touch hx.touch hblk2) (fun j hj=>?_) (by have:=hx.touch.size;simp;omega)).mono ?_
      ·have e:=hpc.out j hj
       exact (hx.touch.cell (p:=(⟨w4.heap.size,po,none⟩:Addr).add j) (by rw [add_block];simp;omega) (by rw [add_block];simp;omega)).trans e
      ·rintro _ x' ⟨c,rfl,H,hc,h4⟩
       exact ⟨_,rfl,KeepI.of_since (fun x y k ⟨gl,m',c',h1,h2,h3⟩=>⟨gl,m',c',h1.since k,h2.since k,h3⟩) h4,c,rfl,H,by have:=hx.touch.size;omega⟩
     ·simp [does,doesUpon,go_sem,KeepI.refl]
     ·have e0:=(X.touch hx.touch (by omega)).cell 0
      have e1:=(X.touch hx.touch (by omega)).cell 1
      simp at e0 e1
      simp [does,doesUpon,go_sem,e0,e1,KeepI.refl]
     ·have e0:=(A.touch hx.touch (by omega)).cell 0
      have e1:=(A.touch hx.touch (by omega)).cell 1
      have e2:=(A.touch hx.touch (by omega)).cell 2
      have e3:=(A.touch hx.touch (by omega)).cell 3
      simp at e0 e1 e2 e3
      simp [does,doesUpon,go_sem,e0,e1,e2,e3,KeepI.refl]
     ·have e0:=(A.touch hx.touch (by omega)).cell 0
      have e1:=(A.touch hx.touch (by omega)).cell 1
      have e2:=(A.touch hx.touch (by omega)).cell 2
      have e3:=(A.touch hx.touch (by omega)).cell 3
      simp at e0 e1 e2 e3
      simp [does,doesUpon,go_sem,e0,e1,e2,e3,KeepI.refl]
    case refine_3=>
     intro vals x hx hv
     have h12:=hv 12 (by decide)
     have h13:vals 13=_:=hv 13 (by decide)
     clear hv
     obtain ⟨gl,m',c',P,H,hgl⟩:=h12
     have k0:=P.cell 0
     have k1:=P.cell 1
     have k2:=P.cell 2
     have k3:=P.cell 3
     simp at k0 k1 k2 k3
     simp only [h13]
     go_wp2
     refine bodyPost_ret (v:=.tuple #[.agg #[.int .u32 QN,.string DN,.slice (some ⟨gl,0,none⟩) m' c',.int .i64 r],.int .i64 (sumS J - HN)]) ?_ rfl ⟨gl,m',c',by rw [eQ.out,eD.out,eM.out],by rw [eL.out];exact H,KeepI.since G hx (by omega)⟩
     simp [results,go_sem,k0,k1,k2,k3]
  ·rw [show decide (cc.2≤cc.1)=true from decide_eq_true (by omega)] at hemp
   have hpJ:pJ q ps at' s W=spans q ps:=by unfold pJ;rw [hcc,if_neg hc]
   have hmem:∀ p∈ps,IsWord p.1∧∀ i,i<p.2.size→pF q ps at' s ((distI q p.1).toNat+i)=byteAt p.2 i:=by
    intro p hpm
    obtain ⟨i,hi,rfl⟩:=List.getElem_of_mem hpm
    have hw:=(gd.hp i (by omega)).1
    rw [show pAt ps i=ps[i] from shP.get_lt hi] at hw
    exact ⟨hw,fun j hj=>lay_part q ps _ 0 W hkb (by omega) _ hpm j hj⟩
   have eQ:Hid (pQ q d r ps at' s=q):=by unfold pQ;rw [if_pos hp,hW];rw [show pJ q ps at' s ((W:Nat):Int)=spans q ps from hpJ];exact gQ_self q ps W hkb
   have eD:Hid (pD q d r ps at' s=d):=by unfold pD;rw [if_pos hp,hW];rw [show pJ q ps at' s ((W:Nat):Int)=spans q ps from hpJ];exact gD_self q d _ ps W hkb
   have eL:Hid (pL q d r ps at' s=ps):=by unfold pL;rw [if_pos hp,hW];rw [show pJ q ps at' s ((W:Nat):Int)=spans q ps from hpJ];exact gL_self q _ gd.hq ps 0 W hkb (by omega) hmem
   have eM:Hid (pM q d r ps at' s=0):=by unfold pM;rw [if_pos hp,hW];rw [show pJ q ps at' s ((W:Nat):Int)=spans q ps from hpJ];exact Int.sub_self _
   clear hmem hpJ hkb hp
   unfold inVal spVal at *
   simp only at hwin
   go_enter Tryz.func112,Tryz.ntmps112
   go_wp2_with (first|(go_at_call 90;refine (hdist _).mono ?_;rintro _ _ ⟨rfl,rfl⟩)|(go_at_call 87;refine hok1.mono ?_;rintro _ w1 ⟨rfl,g1⟩;replace A:=A.since g1;replace B:=B.since g1;replace G:=G.trans g1;have a0:=A.cell 0;have a1:=A.cell 1;have a2:=A.cell 2;have a3:=A.cell 3;simp at a0 a1 a2 a3)|(go_at_call 94;refine (hroom _).mono ?_;rintro _ w2 ⟨rfl,g2⟩;replace A:=A.since g2;replace B:=B.since g2;replace G:=G.trans g2)|(go_at_call 144;refine (hwin _).mono ?_;rintro _ w3 ⟨rfl,g3⟩;replace A:=A.since g3;replace B:=B.since g3;replace G:=G.trans g3;have hBl3:=B.lt;have X:=Blk.new w3 #[.int .i64 cc.1,.int .i64 cc.2] 167;have k3:=(Since.refl w3).alloc (.cells #[.int .i64 cc.1,.int .i64 cc.2] 167);replace A:=A.since k3;replace B:=B.since k3;replace G:=G.trans k3;clear a0 a1 a2 a3;have a0:=A.cell 0;have a1:=A.cell 1;have a2:=A.cell 2;have a3:=A.cell 3;simp at a0 a1 a2 a3;have x0:=X.cell 0;have x1:=X.cell 1;simp at x0 x1)|(go_at_call 125;refine (hemp _).mono ?_;rintro _ w4 ⟨rfl,g4⟩;replace A:=A.since g4;replace B:=B.since g4;replace X:=X.since g4;replace G:=G.trans g4;clear a0 a1 a2 a3 x0 x1;have a0:=A.cell 0;have a1:=A.cell 1;have a2:=A.cell 2;have a3:=A.cell 3;simp at a0 a1 a2 a3;have x0:=X.cell 0;have x1:=X.cell 1;simp at x0 x1)|(go_at_call 61;refine (hfr _ (R.since G)).mono ?_;rintro _ w2 ⟨g,rfl,T,g2⟩;have hbl:=B.lt;replace B:=B.since g2;replace G:=G.trans g2;have b0:=B.cell 0;have b1:=B.cell 1;have b2:=B.cell 2;have b3:=B.cell 3;simp at b0 b1 b2 b3;have z0:=B.fz 0;have z1:=B.fz 1;have z2:=B.fz 2;have z3:=B.fz 3))
   have hgl:=T.low'
   have hB1:=B.lt
   have B4:=(((B.put 0 (.int .u32 q) (by simp)).put 1 (.string d) (by simp)).put 2 (.slice (some ⟨g,0,none⟩) n n) (by simp)).put 3 (.int .i64 r) (by simp)
   have k0:=B4.cell 0
   have k1:=B4.cell 1
   have k2:=B4.cell 2
   have k3:=B4.cell 3
   simp at k0 k1 k2 k3
   refine bodyPost_ret (v:=.tuple #[.agg #[.int .u32 q,.string d,.slice (some ⟨g,0,none⟩) n n,.int .i64 r],.int .i64 0]) ?_ rfl ⟨g,n,n,by rw [eQ.out,eD.out,eM.out],?_,?_⟩
   ·simp [results,go_sem,k0,k1,k2,k3]
   ·rw [eL.out]
    exact ((((T.other (by omega) _ _).other (by omega) _ _).other (by omega) _ _).other (by omega) _ _).raise (by omega)
   ·exact since_put1 (since_put1 (since_put1 (since_put1 G (by omega) _ _) (by omega) _ _) (by omega) _ _) (by omega) _ _
 ·have eQ:Hid (pQ q d r ps at' s=q):=by unfold pQ;exact if_neg hp
  have eD:Hid (pD q d r ps at' s=d):=by unfold pD;exact if_neg hp
  have eL:Hid (pL q d r ps at' s=ps):=by unfold pL;exact if_neg hp
  have eM:Hid (pM q d r ps at' s=0):=by unfold pM;exact if_neg hp
  unfold putOk at hp
  cases hk:inOk q d r ps
  ·rw [hk] at hok1
   clear hp
   unfold inVal at *
   go_enter Tryz.func112,Tryz.ntmps112
   go_wp2_with (first|(go_at_call 90;refine (hdist _).mono ?_;rintro _ _ ⟨rfl,rfl⟩)|(go_at_call 87;refine hok1.mono ?_;rintro _ w1 ⟨rfl,g1⟩;replace A:=A.since g1;replace B:=B.since g1;replace G:=G.trans g1;have a0:=A.cell 0;have a1:=A.cell 1;have a2:=A.cell 2;have a3:=A.cell 3;simp at a0 a1 a2 a3)|(go_at_call 61;refine (hfr _ (R.since G)).mono ?_;rintro _ w2 ⟨g,rfl,T,g2⟩;have hbl:=B.lt;replace B:=B.since g2;replace G:=G.trans g2;have b0:=B.cell 0;have b1:=B.cell 1;have b2:=B.cell 2;have b3:=B.cell 3;simp at b0 b1 b2 b3;have z0:=B.fz 0;have z1:=B.fz 1;have z2:=B.fz 2;have z3:=B.fz 3))
   have hgl:=T.low'
   have hB1:=B.lt
   have B4:=(((B.put 0 (.int .u32 q) (by simp)).put 1 (.string d) (by simp)).put 2 (.slice (some ⟨g,0,none⟩) n n) (by simp)).put 3 (.int .i64 r) (by simp)
   have k0:=B4.cell 0
   have k1:=B4.cell 1
   have k2:=B4.cell 2
   have k3:=B4.cell 3
   simp at k0 k1 k2 k3
   refine bodyPost_ret (v:=.tuple #[.agg #[.int .u32 q,.string d,.slice (some ⟨g,0,none⟩) n n,.int .i64 r],.int .i64 0]) ?_ rfl ⟨g,n,n,by rw [eQ.out,eD.out,eM.out],?_,?_⟩
   ·simp [results,go_sem,k0,k1,k2,k3]
   ·rw [eL.out]
    exact ((((T.other (by omega) _ _).other (by omega) _ _).other (by omega) _ _).other (by omega) _ _).raise (by omega)
   ·exact since_put1 (since_put1 (since_put1 (since_put1 G (by omega) _ _) (by omega) _ _) (by omega) _ _) (by omega) _ _
  ·rw [hk] at hok1 hp
   by_cases c1:(536:Int)<(s.size:Int)
   ·have hd1:decide ((536:Int)<(s.size:Int))=true:=decide_eq_true c1
    clear hp
    unfold inVal at *
    go_enter Tryz.func112,Tryz.ntmps112
    go_wp2_with (first|(go_at_call 90;refine (hdist _).mono ?_;rintro _ _ ⟨rfl,rfl⟩)|(go_at_call 87;refine hok1.mono ?_;rintro _ w1 ⟨rfl,g1⟩;replace A:=A.since g1;replace B:=B.since g1;replace G:=G.trans g1;have a0:=A.cell 0;have a1:=A.cell 1;have a2:=A.cell 2;have a3:=A.cell 3;simp at a0 a1 a2 a3)|(go_at_call 61;refine (hfr _ (R.since G)).mono ?_;rintro _ w2 ⟨g,rfl,T,g2⟩;have hbl:=B.lt;replace B:=B.since g2;replace G:=G.trans g2;have b0:=B.cell 0;have b1:=B.cell 1;have b2:=B.cell 2;have b3:=B.cell 3;simp at b0 b1 b2 b3;have z0:=B.fz 0;have z1:=B.fz 1;have z2:=B.fz 2;have z3:=B.fz 3))
    have hgl:=T.low'
    have hB1:=B.lt
    have B4:=(((B.put 0 (.int .u32 q) (by simp)).put 1 (.string d) (by simp)).put 2 (.slice (some ⟨g,0,none⟩) n n) (by simp)).put 3 (.int .i64 r) (by simp)
    have k0:=B4.cell 0
    have k1:=B4.cell 1
    have k2:=B4.cell 2
    have k3:=B4.cell 3
    simp at k0 k1 k2 k3
    refine bodyPost_ret (v:=.tuple #[.agg #[.int .u32 q,.string d,.slice (some ⟨g,0,none⟩) n n,.int .i64 r],.int .i64 0]) ?_ rfl ⟨g,n,n,by rw [eQ.out,eD.out,eM.out],?_,?_⟩
    ·simp [results,go_sem,k0,k1,k2,k3]
    ·rw [eL.out]
     exact ((((T.other (by omega) _ _).other (by omega) _ _).other (by omega) _ _).other (by omega) _ _).raise (by omega)
    ·exact since_put1 (since_put1 (since_put1 (since_put1 G (by omega) _ _) (by omega) _ _) (by omega) _ _) (by omega) _ _
   ·have hd1:decide ((536:Int)<(s.size:Int))=false:=decide_eq_false c1
    by_cases c2:at' < -99999
    ·have hd2:decide (at' < -99999)=true:=decide_eq_true c2
     clear hp
     unfold inVal at *
     go_enter Tryz.func112,Tryz.ntmps112
     go_wp2_with (first|(go_at_call 90;refine (hdist _).mono ?_;rintro _ _ ⟨rfl,rfl⟩)|(go_at_call 87;refine hok1.mono ?_;rintro _ w1 ⟨rfl,g1⟩;replace A:=A.since g1;replace B:=B.since g1;replace G:=G.trans g1;have a0:=A.cell 0;have a1:=A.cell 1;have a2:=A.cell 2;have a3:=A.cell 3;simp at a0 a1 a2 a3)|(go_at_call 61;refine (hfr _ (R.since G)).mono ?_;rintro _ w2 ⟨g,rfl,T,g2⟩;have hbl:=B.lt;replace B:=B.since g2;replace G:=G.trans g2;have b0:=B.cell 0;have b1:=B.cell 1;have b2:=B.cell 2;have b3:=B.cell 3;simp at b0 b1 b2 b3;have z0:=B.fz 0;have z1:=B.fz 1;have z2:=B.fz 2;have z3:=B.fz 3))
     have hgl:=T.low'
     have hB1:=B.lt
     have B4:=(((B.put 0 (.int .u32 q) (by simp)).put 1 (.string d) (by simp)).put 2 (.slice (some ⟨g,0,none⟩) n n) (by simp)).put 3 (.int .i64 r) (by simp)
     have k0:=B4.cell 0
     have k1:=B4.cell 1
     have k2:=B4.cell 2
     have k3:=B4.cell 3
     simp at k0 k1 k2 k3
     refine bodyPost_ret (v:=.tuple #[.agg #[.int .u32 q,.string d,.slice (some ⟨g,0,none⟩) n n,.int .i64 r],.int .i64 0]) ?_ rfl ⟨g,n,n,by rw [eQ.out,eD.out,eM.out],?_,?_⟩
     ·simp [results,go_sem,k0,k1,k2,k3]
     ·rw [eL.out]
      exact ((((T.other (by omega) _ _).other (by omega) _ _).other (by omega) _ _).other (by omega) _ _).raise (by omega)
     ·exact since_put1 (since_put1 (since_put1 (since_put1 G (by omega) _ _) (by omega) _ _) (by omega) _ _) (by omega) _ _
    ·have hd2:decide (at' < -99999)=false:=decide_eq_false c2
     have hd3:decide ((4095:Int)<at')=true:=decide_eq_true (by
      have:¬ at'≤4095:=fun h=>hp ⟨rfl,by omega,by omega,h⟩
      omega)
     clear hp
     unfold inVal at *
     go_enter Tryz.func112,Tryz.ntmps112
     go_wp2_with (first|(go_at_call 90;refine (hdist _).mono ?_;rintro _ _ ⟨rfl,rfl⟩)|(go_at_call 87;refine hok1.mono ?_;rintro _ w1 ⟨rfl,g1⟩;replace A:=A.since g1;replace B:=B.since g1;replace G:=G.trans g1;have a0:=A.cell 0;have a1:=A.cell 1;have a2:=A.cell 2;have a3:=A.cell 3;simp at a0 a1 a2 a3)|(go_at_call 61;refine (hfr _ (R.since G)).mono ?_;rintro _ w2 ⟨g,rfl,T,g2⟩;have hbl:=B.lt;replace B:=B.since g2;replace G:=G.trans g2;have b0:=B.cell 0;have b1:=B.cell 1;have b2:=B.cell 2;have b3:=B.cell 3;simp at b0 b1 b2 b3;have z0:=B.fz 0;have z1:=B.fz 1;have z2:=B.fz 2;have z3:=B.fz 3))
     have hgl:=T.low'
     have hB1:=B.lt
     have B4:=(((B.put 0 (.int .u32 q) (by simp)).put 1 (.string d) (by simp)).put 2 (.slice (some ⟨g,0,none⟩) n n) (by simp)).put 3 (.int .i64 r) (by simp)
     have k0:=B4.cell 0
     have k1:=B4.cell 1
     have k2:=B4.cell 2
     have k3:=B4.cell 3
     simp at k0 k1 k2 k3
     refine bodyPost_ret (v:=.tuple #[.agg #[.int .u32 q,.string d,.slice (some ⟨g,0,none⟩) n n,.int .i64 r],.int .i64 0]) ?_ rfl ⟨g,n,n,by rw [eQ.out,eD.out,eM.out],?_,?_⟩
     ·simp [results,go_sem,k0,k1,k2,k3]
     ·rw [eL.out]
      exact ((((T.other (by omega) _ _).other (by omega) _ _).other (by omega) _ _).other (by omega) _ _).raise (by omega)
     ·exact since_put1 (since_put1 (since_put1 (since_put1 G (by omega) _ _) (by omega) _ _) (by omega) _ _) (by omega) _ _
end Go.Proofs.YtmigalhmlofbkaaGreatDoor
