/- A part of the proof. -/
import Derived.Test.YtmigalhmlofbkaaGreatDoorGath
set_option linter.unusedVariables false
set_option maxRecDepth 10000
set_option maxHeartbeats 2000000
namespace Go.Proofs.YtmigalhmlofbkaaGreatDoor
open Go.ChangeShapes Go.WideShapes Go.ChangeAt Go.RowKit Go.Deep
def putOk (q:Int) (d:ByteArray) (r:Int) (ps:List (Int×ByteArray)) (at':Int) (s:ByteArray):Prop:=inOk q d r ps=true∧s.size≤536∧-99999≤at'∧at'≤4095
instance (q:Int) (d:ByteArray) (r:Int) (ps:List (Int×ByteArray)) (at':Int) (s:ByteArray):Decidable (putOk q d r ps at' s):=by unfold putOk;infer_instance
def came (at':Int) (s:ByteArray) (W:Int):Int×Int:=(max at' 0,min (at'+s.size) W)
def pJ (q:Int) (ps:List (Int×ByteArray)) (at':Int) (s:ByteArray) (W:Int):List (Int×Int):=if (came at' s W).1<(came at' s W).2 then joinR (spans q ps) (came at' s W) else spans q ps
def base (at':Int) (s:ByteArray) (i:Nat):Int:=if at'≤(i:Int)∧(i:Int)<at'+s.size then byteAt s ((i:Int) - at').toNat else -1
def pF (q:Int) (ps:List (Int×ByteArray)) (at':Int) (s:ByteArray):Nat→Int:=lay q ps (base at' s)
def pQ (q:Int) (d:ByteArray) (r:Int) (ps:List (Int×ByteArray)) (at':Int) (s:ByteArray):Int:=if putOk q d r ps at' s then gQ q (pJ q ps at' s (r - d.size)) else q
def pD (q:Int) (d:ByteArray) (r:Int) (ps:List (Int×ByteArray)) (at':Int) (s:ByteArray):ByteArray:=if putOk q d r ps at' s then gD d (pF q ps at' s) (pJ q ps at' s (r - d.size)) else d
def pL (q:Int) (d:ByteArray) (r:Int) (ps:List (Int×ByteArray)) (at':Int) (s:ByteArray):List (Int×ByteArray):=if putOk q d r ps at' s then gL q (pF q ps at' s) (pJ q ps at' s (r - d.size)) else ps
def pM (q:Int) (d:ByteArray) (r:Int) (ps:List (Int×ByteArray)) (at':Int) (s:ByteArray):Int:=if putOk q d r ps at' s then sumS (pJ q ps at' s (r - d.size)) - sumS (spans q ps) else 0
theorem okB_lower:∀ (l:List (Int×Int)) (e e' W:Int),okB e W l=true→e'≤e→okB e' W l=true
 | [],e,e',W,h,_=>rfl
 | s :: r,e,e',W,h,he=>by
  simp only [okB,Bool.and_eq_true,decide_eq_true_eq] at h ⊢
  exact ⟨by omega,h.2⟩
theorem pJ_ok (q:Int) (ps:List (Int×ByteArray)) (at':Int) (s:ByteArray) (W:Int) (h:okB 0 W (spans q ps)=true):okB (-1) W (pJ q ps at' s W)=true:=by
 unfold pJ
 split
 ·rename_i hc
  exact joinR_ok _ _ (-1) 0 W h (by unfold came;simp only;omega) (by omega) hc (by unfold came;simp only;omega)
 ·exact okB_lower _ 0 (-1) W h (by omega)
theorem pJ_cov (q:Int) (ps:List (Int×ByteArray)) (at':Int) (s:ByteArray) (W:Int) (h:okB 0 W (spans q ps)=true) (i:Nat):cov (pJ q ps at' s W) i=(cov (spans q ps) i || inS (came at' s W) i):=by
 unfold pJ
 split
 ·rename_i hc
  exact joinR_cov i _ _ 0 W h hc
 ·rename_i hc
  have:inS (came at' s W) i=false:=by
   cases hh:inS (came at' s W) i
   ·rfl
   ·rw [inS_iff] at hh
    omega
  rw [this,Bool.or_false]
theorem mem_cov:∀ (l:List (Int×Int)) (s:Int×Int) (i:Nat),s∈l→inS s i=true→cov l i=true
 | o :: r,s,i,h,hi=>by
  simp only [cov,Bool.or_eq_true]
  rcases List.mem_cons.1 h with rfl|h
  ·exact .inl hi
  ·exact .inr (mem_cov r s i h hi)
theorem okB_mem:∀ (l:List (Int×Int)) (e W:Int),okB e W l=true→∀ s∈l,e<s.1∧s.1<s.2∧s.2≤W
 | o :: r,e,W,h,s,hs=>by
  simp only [okB,Bool.and_eq_true,decide_eq_true_eq] at h
  rcases List.mem_cons.1 hs with rfl|hs
  ·exact h.1
  ·have:=okB_mem r o.2 W h.2 s hs
   omega
theorem prtOf_congr (q:Int) (F F':Nat→Int) (l:List (Int×Int)) (e W:Int) (h:okB e W l=true) (he:-1≤e) (hF:∀ i,cov l i=true→F i=F' i) (s:Int×Int) (hs:s∈l):textOf (fun i=>F (s.1.toNat+i)) (s.2 - s.1).toNat=textOf (fun i=>F' (s.1.toNat+i)) (s.2 - s.1).toNat:=by
 have hk:=okB_mem l e W h s hs
 apply textOf_ext
 intro i hi
 refine hF _ (mem_cov l s _ hs ?_)
 rw [inS_iff]
 omega
theorem gD_congr (d:ByteArray) (q:Int) (F F':Nat→Int) (l:List (Int×Int)) (e W:Int) (h:okB e W l=true) (he:-1≤e) (hF:∀ i,cov l i=true→F i=F' i):gD d F l=gD d F' l:=by
 cases l with
 | nil=>rfl
 | cons s r=>
  simp only [gD]
  rw [prtOf_congr q F F' (s :: r) e W h he hF s List.mem_cons_self]
theorem gL_congr (q:Int) (F F':Nat→Int):∀ (l:List (Int×Int)) (e W:Int),okB e W l=true→-1≤e→(∀ i,cov l i=true→F i=F' i)→gL q F l=gL q F' l
 | [],e,W,_,_,_=>rfl
 | s :: r,e,W,h,he,hF=>by
  have h':=h
  simp only [okB,Bool.and_eq_true,decide_eq_true_eq] at h
  have ih:=gL_congr q F F' r s.2 W h.2 (by omega) (fun i hi=>hF i (by simp [cov,hi]))
  simp only [gL,ih]
  have:prtOf q F s=prtOf q F' s:=by
   unfold prtOf
   rw [prtOf_congr q F F' (s :: r) e W h' he hF s List.mem_cons_self]
  rw [this]
theorem gL_self (q:Int) (F:Nat→Int) (hq:IsWord q):∀ (ps:List (Int×ByteArray)) (e W:Int),okB e W (spans q ps)=true→0≤e→(∀ p∈ps,IsWord p.1∧∀ i,i<p.2.size→F ((distI q p.1).toNat+i)=byteAt p.2 i)→gL q F (spans q ps)=ps
 | [],e,W,_,_,_=>rfl
 | p :: r,e,W,h,he,hF=>by
  simp only [spans,List.map_cons,okB,Bool.and_eq_true,decide_eq_true_eq] at h
  have h2:okB (spn q p).2 W (spans q r)=true:=h.2
  have ih:=gL_self q F hq r (spn q p).2 W h2 (by omega) (fun x hx=>hF x (List.mem_cons_of_mem _ hx))
  obtain ⟨hw,hb⟩:=hF p List.mem_cons_self
  have hne:¬ (spn q p).1=0:=by omega
  show gL q F (spn q p :: spans q r)=_
  simp only [gL,if_neg hne,ih]
  congr 1
  unfold prtOf spn
  simp only
  obtain ⟨p1,p2⟩:=p
  simp only at *
  refine Prod.ext ?_ ?_
  ·show (q+distI q p1) % 4294967296=p1
   obtain ⟨k1,k2,k3⟩:=distI_is q p1
   obtain ⟨w1,w2⟩:=hw
   obtain ⟨q1,q2⟩:=hq
   omega
  ·show textOf _ (distI q p1+(p2.size:Int) - distI q p1).toNat=p2
   rw [show (distI q p1+(p2.size:Int) - distI q p1).toNat=p2.size by omega]
   exact textOf_is _ _ _ rfl fun i hi=>hb i hi
theorem gQ_self (q:Int) (ps:List (Int×ByteArray)) (W:Int) (h:okB 0 W (spans q ps)=true):gQ q (spans q ps)=q:=by
 cases ps with
 | nil=>rfl
 | cons p r=>
  simp only [spans,List.map_cons,okB,Bool.and_eq_true,decide_eq_true_eq] at h
  simp only [spans,List.map_cons,gQ]
  rw [if_neg (by omega)]
theorem gD_self (q:Int) (d:ByteArray) (F:Nat→Int) (ps:List (Int×ByteArray)) (W:Int) (h:okB 0 W (spans q ps)=true):gD d F (spans q ps)=d:=by
 cases ps with
 | nil=>rfl
 | cons p r=>
  simp only [spans,List.map_cons,okB,Bool.and_eq_true,decide_eq_true_eq] at h
  simp only [spans,List.map_cons,gD]
  rw [if_neg (by omega)]
theorem lay_take (q:Int) (ps:List (Int×ByteArray)) (k:Nat) (h:k<ps.length) (f:Nat→Int):lay q (ps.take (k+1)) f=over (lay q (ps.take k) f) (distI q (pAt ps k).1).toNat (pAt ps k).2.size (byteAt (pAt ps k).2):=by
 rw [shP.take_next ps k h,lay_snoc]
 rfl
theorem laid (q:Int) (d:ByteArray) (r:Int) (a:Option Addr) (n cap:Nat) (ps:List (Int×ByteArray)) (gd:Good q d r n ps) (hok:inOk q d r ps=true) (W cf ct cp:Nat) (ad:Addr) (g:Nat→Int) (hW:r - d.size=(W:Int)) (hc1:cf<ct) (hc2:ct≤W) (w:World) (R:Rd shP w a n ps)
  (hsrc:∀ j,j<ct - cf→w.cell? (ad.add j)=some (.int .u8 (g j))) (had:ad.block<w.heap.size) :
  Calls Tryz.prog 148 #[inVal q d (.slice a n cap) r,spVal (cf,ct),.slice (some ad) (ct - cf) cp] w fun e w'=>∃ c,e=.returned (.slice (some ⟨c,0,none⟩) W W)∧Byt w' c W (lay q ps (over (fun _=>0) cf (ct - cf) g))∧w.heap.size≤c∧Since w w':=by
 obtain ⟨⟨hr1,hr2⟩,hr3,hkb⟩:=inOk_room hok
 obtain ⟨hq,hd,hr,hn,hp⟩:=gd
 have hlen:=R.len
 have hroom:=fun wx=>inRoom q d (.slice a n cap) r hd (by omega) wx
 rw [hW] at hroom
 unfold inVal spVal at *
 simp only at *
 have G:Since w ((w.alloc (.cells #[.int .u32 q,.string d,.slice a n cap,.int .i64 r] 33)).alloc (.cells #[.int .i64 (cf:Int),.int .i64 (ct:Int)] 167)):=((Since.refl _).alloc _).alloc _
 have A:=(Blk.new w #[.int .u32 q,.string d,.slice a n cap,.int .i64 r] 33).since ((Since.refl _).alloc (.cells #[.int .i64 (cf:Int),.int .i64 (ct:Int)] 167))
 have B:=Blk.new (w.alloc (.cells #[.int .u32 q,.string d,.slice a n cap,.int .i64 r] 33)) #[.int .i64 (cf:Int),.int .i64 (ct:Int)] 167
 simp only [World.size_alloc] at B
 obtain ⟨ii,hi,hz0,hz1,hz2⟩:=info_parts info_B
 obtain ⟨F,hF⟩:∃ F,Hid (over (fun _=>0) cf (ct - cf) g=F):=⟨_,rfl⟩
 rw [hF.out]
 have hsrc2:∀ wx,Since w wx→∀ j,j<ct - cf→wx.cell? (ad.add j)=some (.int .u8 (g j)):=fun wx hx j hj=>(Below.cell hx (p:=ad.add j) (by rw [add_block];exact had)).trans (hsrc j hj)
 replace hsrc2:Hid _:=hsrc2
 replace hkb:Hid _:=hkb
 clear hsrc hok
 go_enter Tryz.func148,Tryz.ntmps148
 go_wp2_with (first|(go_at_call 94;refine (hroom _).mono ?_;rintro _ w1 ⟨rfl,g1⟩;have hsz:=g1.le;simp at hsz)|(refine wpList_make_full _ rfl (.tmp 11) (.tmp 11) 22 rfl (w.heap.size+2) 5 ii (.int .u8 0) 1 Tryz.underlying22 hi hz0 hz1 .i64 .i64 _ _ W rfl rfl rfl rfl ?c1 ?c2 ?c3 ?_))
 case c1=>rw [hz2];omega
 case c2=>unfold maxLen;omega
 case c3=>omega
 intro w2 hown hgrow
 have C2:Byt w2 w1.heap.size W (fun _=>0):=made_byt (B:=w.heap.size+2) (by rw [Nat.mul_one];exact hown)
 have S2:Since w1 w2:=⟨hgrow.os,hgrow.tape,hgrow.output,hgrow.size,fun k hk=>hgrow.block k hk (by simp)⟩
 have S12:=g1.trans S2
 have b0:=(B.since S12).cell 0
 simp at b0
 obtain ⟨c,hc⟩:∃ c,w1.heap.size=c:=⟨_,rfl⟩
 rw [hc] at C2 ⊢
 have hcw:w.heap.size+2≤c:=by omega
 clear hown
 have hmin:ct - cf=Nat.min (ct - cf) (W - cf):=(Nat.min_eq_left (by omega)).symm
 replace hmin:Hid _:=hmin
 have hcW:¬ W=cf:=by omega
 have hs2:=hsrc2.out w2 (G.trans S12)
 replace hs2:Hid _:=hs2
 have Rw:=R.since G
 have aa2:=(A.since S12).cell 2
 simp at aa2
 go_wp2_with (refine copy_byt rfl (.tmp 16) (.tmp 17) rfl C2 (off:=cf) (g:=g) (some ⟨c,cf,none⟩) (some ad) (W - cf) (W - cf) (ct - cf) cp (ct - cf) rfl rfl hmin.out (fun _=>⟨rfl,_,rfl,hs2.out⟩) (by omega) ?_;intro w3 C3 t3;have A3:=(A.since S12).touch t3 (by omega);have a2:=A3.cell 2;simp at a2)
 rw [hF.out] at C3
 have S3:=S12.touch t3 (by simp;omega)
 clear b0 aa2 hs2 hsrc2 a2 A3
 go_loopw [22] (fun i wr=>∃ (k:Nat),k≤n∧i=.int .i64 k∧Byt wr c W (lay q (ps.take k) F)∧Since ((w.alloc (.cells #[.int .u32 q,.string d,.slice a n cap,.int .i64 r] 33)).alloc (.cells #[.int .i64 (cf:Int),.int .i64 (ct:Int)] 167)) wr) (fun i _=>n - (intOf i).toNat)
 case atStart=>exact ⟨0,by omega,rfl,by rw [List.take_zero];exact C3,S3⟩
 case round=>
  obtain ⟨k,hk,rfl,C,S⟩:=hrel
  by_cases hlt:k<n
  ·have hlt':(k:Int)<(n:Int):=by omega
   obtain ⟨x,rfl,hb,p0,p1⟩:=(Rw.since S).prt k hlt
   obtain ⟨hp1,hp2⟩:=hp k hlt
   have hat:=okB_at _ _ _ k hkb.out (by rw [spans_len];omega)
   rw [spans_at q ps k (by omega)] at hat
   have hlay:=lay_take q ps k (by omega) F
   have hdist:=fun wx=>implDist q (pAt ps k).1 (distI q (pAt ps k).1) hq hp1 (distI_is _ _) wx
   generalize pAt ps k=O at p0 p1 hp1 hp2 hlay hdist hat
   unfold spn at hat
   simp only at hat
   obtain ⟨tn,htn⟩:=Int.eq_ofNat_of_zero_le (show 0≤distI q O.1 by omega)
   rw [htn] at hlay hdist hat
   rw [show ((tn:Nat):Int).toNat=tn by omega] at hlay
   replace hlay:Hid _:=hlay
   have htW:tn+O.2.size≤W:=by omega
   have htn2:tn<W:=by omega
   have htn3:¬ W=tn:=by omega
   have htn4:tn≤W:=by omega
   have X:=Blk.new wr #[.int .u32 O.1,.string O.2] 141
   have SY:=S.alloc (.cells #[.int .u32 O.1,.string O.2] 141)
   have CY:=C.since ((Since.refl wr).alloc (.cells #[.int .u32 O.1,.string O.2] 141))
   have AY:=A.since SY
   clear htn hat
   go_wp2
   obtain ⟨Y,hY⟩:∃ Y,wr.alloc (.cells #[.int .u32 O.1,.string O.2] 141)=Y:=⟨_,rfl⟩
   rw [hY] at X SY CY AY ⊢
   clear hY p0 p1 hp R Rw
   refine wp_region_tail (wb:=Y) 9 (fun i x v=>match i with
     | 0=>v=.slice (some ⟨c,0,none⟩) W W
     | 1=>v=.pointer (some ⟨w.heap.size,0,none⟩)
     | 2=>v=.int .u32 q
     | 3=>v=.pointer (some ⟨wr.heap.size,0,none⟩)
     | 4=>v=.int .u32 O.1
     | 5=>v=.int .i64 tn
     | 6=>v=.slice (some ⟨c,tn,none⟩) (W - tn) (W - tn)
     | 7=>v=.pointer (some ⟨wr.heap.size,1,none⟩)
     | 8=>v=.string O.2
     | _=>True) (fun v=>{tmps:=#[Value.agg #[Value.int IntKind.u32 q,Value.string d,Value.slice (some x) n cap,Value.int IntKind.i64 r],Value.agg #[Value.int IntKind.i64 (cf:Int),Value.int IntKind.i64 (ct:Int)],Value.slice (some ad) (ct - cf) cp,Value.pointer (some ⟨w.heap.size,0,none⟩),Value.pointer (some ⟨w.heap.size+1,0,none⟩),undef,Value.slice none 0 0,Value.slice (some ⟨c,0,none⟩) W W,undef,Value.pointer (some ⟨wr.heap.size,0,none⟩),Value.agg #[Value.int IntKind.u32 q,Value.string d,Value.slice (some x) n cap,Value.int IntKind.i64 r],Value.int IntKind.i64 (W:Int),Value.slice (some ⟨c,0,none⟩) W W,Value.slice (some ⟨c,0,none⟩) W W,Value.pointer (some ⟨w.heap.size+1,0,none⟩),Value.int IntKind.i64 (cf:Int),Value.slice (some ⟨c,cf,none⟩) (W - cf) (W - cf),Value.slice (some ad) (ct - cf) cp,Value.int IntKind.i64 ((ct - cf:Nat):Int),Value.pointer (some ⟨w.heap.size,2,none⟩),Value.slice (some x) n cap,Value.int IntKind.i64 (n:Int),Value.int IntKind.i64 (k:Int),Value.bool true,Value.pointer (some (x.add (k*2))),Value.agg #[Value.int IntKind.u32 O.fst,Value.string O.snd],v 0,v 1,v 2,v 3,v 4,v 5,v 6,v 7,v 8,u35,u36,undef],defers:=[]}) (by kernel_rfl) (by kernel_rfl) (by kernel_rfl) (Since.refl _) ?_ (fun vals=>by kernel_rfl) ?_ ?_
   case refine_1=>
    intro j x x' v h1 h2
    match j,h2 with
    | 0,h2|1,h2|2,h2|3,h2|4,h2|5,h2|6,h2|7,h2|8,h2=>exact h2
    | n+9,_=>trivial
   case refine_2=>
    repeat (first|exact eachDoes_nil|refine eachDoes_cons ?_ ?_)
    all_goals intro vals x hx hv
    all_goals simp [Region.binds] at hv
    ·have e1:=(X.since hx).cell 1
     simp at e1
     simp [does,doesUpon,go_sem,hv,e1,Since.refl]
    ·simp [does,doesUpon,go_sem,Since.refl]
    ·obtain ⟨h0,h5⟩:=hv
     simp [does,doesUpon,go_sem,h0,h5,Since.refl,htn3,htn4]
    ·obtain ⟨h2,h4⟩:=hv
     simp [does,doesUpon,go_sem,h2,h4]
     refine (hdist x).mono ?_
     rintro _ _ ⟨rfl,rfl⟩
     simp [Since.refl]
    ·have e0:=(X.since hx).cell 0
     simp at e0
     simp [does,doesUpon,go_sem,hv,e0,Since.refl]
    ·simp [does,doesUpon,go_sem,Since.refl]
    ·have e0:=(AY.since hx).cell 0
     simp at e0
     simp [does,doesUpon,go_sem,hv,e0,Since.refl]
    ·simp [does,doesUpon,go_sem,Since.refl]
    ·simp [does,doesUpon,go_sem,Since.refl]
   case refine_3=>
    intro vals x hx hv
    have h6:vals 6=_:=hv 6 (by decide)
    have h8:vals 8=_:=hv 8 (by decide)
    clear hv
    simp only [h6,h8]
    generalize vals 0=v0
    generalize vals 1=v1
    generalize vals 2=v2
    generalize vals 3=v3
    generalize vals 4=v4
    generalize vals 5=v5
    generalize vals 7=v7
    have CY2:=CY.since hx
    simp only [List.drop_succ_cons,List.drop_zero]
    go_wp2_with (refine copy_text rfl (.tmp 32) (.tmp 34) rfl CY2 (W - tn) (W - tn) O.2 rfl rfl (by omega) (by omega) ?_)
    intro w5 C5 t5
    rw [← hlay.out] at C5
    have S5:=(SY.trans hx).touch t5 (by simp;omega)
    go_wp2
    go_roundw
    case rel=>exact ⟨k+1,by omega,by go_num,C5,S5⟩
    case measure=>simp [intOf];omega
  ·have hkn:k=n:=by omega
   rw [List.take_of_length_le (by omega)] at C
   clear hp R Rw
   go_wp2
   go_ret
   exact ⟨c,rfl,C,by omega,G.trans S⟩
end Go.Proofs.YtmigalhmlofbkaaGreatDoor
