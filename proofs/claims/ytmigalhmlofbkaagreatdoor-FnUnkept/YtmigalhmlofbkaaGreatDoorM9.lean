/- A part of the proof. -/
import Derived.Test.YtmigalhmlofbkaaGreatDoorInOkI
import Derived.Shelf.Pu.Clone
set_option linter.unusedVariables false
set_option maxRecDepth 10000
set_option maxHeartbeats 2000000
namespace Go.Proofs.YtmigalhmlofbkaaGreatDoor
open Go.ChangeShapes Go.WideShapes Go.ChangeAt Go.RowKit Go.Deep
def shS:Shape (Int×Int):=⟨167,2,fun x=>[.int .i64 x.1,.int .i64 x.2],fun _=>rfl,fun x v hv=>by simp at hv;rcases hv with rfl|rfl<;>rfl,(0,0),by decide⟩
def sAt (ss:List (Int×Int)) (i:Nat):Int×Int:=ss.getD i (0,0)
theorem info_S:(Tryz.prog.info? 167).map (fun i=>(i.zero,i.size,i.bytes))=some (some (.agg #[.int .i64 0,.int .i64 0]),2,16):=by kernel_rfl
theorem laidS:Laid shS 183 16:=by
 obtain ⟨ii,hi,hz0,hz1,hz2⟩:=info_parts info_S
 exact ⟨Tryz.underlying183,ii,_,hi,hz0,hz1,hz2,rfl⟩
theorem Rd.sp {w:World} {a:Option Addr} {n:Nat} {ss:List (Int×Int)} (h:Rd shS w a n ss) (i:Nat) (hi:i<n):∃ x,a=some x∧x.block<w.heap.size∧w.cell? (x.add (i*2))=some (.int .i64 (sAt ss i).1)∧w.cell? ⟨(x.add (i*2)).block,(x.add (i*2)).off+1,none⟩=some (.int .i64 (sAt ss i).2):=by
 obtain ⟨x,e,hb,hc⟩:=h.cell i hi
 refine ⟨x,e,hb,hc 0 (by decide),?_⟩
 rw [addr_step x (i*2) 1 (by omega)]
 exact hc 1 (by decide)
def sumS:List (Int×Int)→Int
 | []=>0
 | s :: r=>s.2 - s.1+sumS r
theorem sumS_append:∀ (l m:List (Int×Int)),sumS (l++m)=sumS l+sumS m
 | [],m=>by simp [sumS]
 | s :: r,m=>by
  simp only [List.cons_append,sumS,sumS_append r m]
  omega
theorem sAt_lt {ss:List (Int×Int)} {k:Nat} (h:k<ss.length):sAt ss k=ss[k]:=by simp [sAt,List.getD,List.getElem?_eq_getElem h]
theorem sumS_next (ss:List (Int×Int)) (k:Nat) (h:k<ss.length):sumS (ss.take (k+1))=sumS (ss.take k)+((sAt ss k).2 - (sAt ss k).1):=by
 rw [List.take_succ_eq_append_getElem h,sumS_append,sAt_lt h]
 simp [sumS]
theorem spans_at (q:Int) (ps:List (Int×ByteArray)) (k:Nat) (h:k<ps.length):sAt (spans q ps) k=spn q (pAt ps k):=by
 rw [sAt_lt (by rw [spans_len];exact h)]
 simp [spans,pAt,List.getD,List.getElem?_eq_getElem h]
theorem spansOf (q:Int) (d:ByteArray) (r:Int) (a:Option Addr) (n cap:Nat) (ps:List (Int×ByteArray)) (g:Good q d r n ps) (w:World) (R:Rd shP w a n ps) :
  Calls Tryz.prog 146 #[inVal q d (.slice a n cap) r] w fun e w'=>∃ b c,e=.returned (.slice (some ⟨b,0,none⟩) n c)∧Held shS w' w.heap.size b n c (spans q ps)∧Since w w':=by
 have hlen:=R.len
 obtain ⟨hq,hd,hr,hn,hp⟩:=g
 unfold inVal
 have T0:Held shS ((w.alloc (.cells #[.int .u32 q,.string d,.slice a n cap,.int .i64 r] 33)).alloc (.cells #[] 167)) (w.heap.size+1) (w.heap.size+1) 0 0 []:=by
  have:=Held.empty (S:=shS) (w.alloc (.cells #[.int .u32 q,.string d,.slice a n cap,.int .i64 r] 33))
  rwa [World.size_alloc] at this
 have G1:Since w (w.alloc (.cells #[.int .u32 q,.string d,.slice a n cap,.int .i64 r] 33)):=(Since.refl _).alloc _
 have A:=Blk.new w #[.int .u32 q,.string d,.slice a n cap,.int .i64 r] 33
 go_enter Tryz.func146,Tryz.ntmps146
 go_wp2
 go_loopw [3,10] (fun v i wr=>∃ (k b c:Nat),k≤n∧i=.int .i64 k∧v=.slice (some ⟨b,0,none⟩) k c∧Held shS wr (w.heap.size+1) b k c (spans q (ps.take k))∧Since (w.alloc (.cells #[.int .u32 q,.string d,.slice a n cap,.int .i64 r] 33)) wr) (fun _ i _=>n - (intOf i).toNat)
 case atStart=>exact ⟨0,w.heap.size+1,0,by omega,rfl,rfl,by rw [List.take_zero];exact T0,(Since.refl _).alloc _⟩
 case round=>
  obtain ⟨k,b,c,hk,rfl,rfl,T,Sr⟩:=hrel
  have A2:=A.since Sr
  have hsz:=Sr.le
  simp at hsz
  by_cases hlt:k<n
  ·have hlt':(k:Int)<(n:Int):=by omega
   obtain ⟨x,rfl,hb,p0,p1⟩:=(R.since (G1.trans Sr)).prt k hlt
   obtain ⟨hp1,hp2⟩:=hp k hlt
   have hspan:=fun wx=>spanOf q (pAt ps k) hq hp1 hp2 wx
   have hnx:spans q (ps.take (k+1))=spans q (ps.take k)++[spn q (pAt ps k)]:=by
    rw [shP.take_next ps k (by omega)]
    simp only [spans,List.map_append,List.map_cons,List.map_nil]
    rfl
   generalize pAt ps k=O at p0 p1 hspan hnx
   generalize spn q O=t at hspan hnx
   have g3:=(Since.refl wr).alloc (.cells #[.int .u32 O.1,.string O.2] 141)
   have b0':=(A2.since g3).cell 0
   simp at b0'
   unfold spVal at hspan
   replace hnx:Hid _:=hnx
   clear hp R T0
   go_wp2_with (first|(go_at_call 124;refine (hspan _).mono ?_;rintro _ w2 ⟨rfl,g2⟩;have hY:=(g3.trans g2).alloc (.cells #[.int .i64 t.1,.int .i64 t.2] 167);have TY:=T.since hY;have RY:=Rd.one (S:=shS) w2 t 167 w2.heap.size rfl;have hsz2:=(g3.trans g2).le)|(at_builtin;refine app_own (v:=.slice (some ⟨b,0,none⟩) k c) laidS rfl _ _ rfl rfl TY rfl RY (by omega) (by unfold maxLen;omega) (by omega) (by simp;omega) _ rfl ?_;intro g' c' w5 T5 hg5 hat5))
   have S5:=since_grown (Sr.trans hY) hg5 (fun j e=>by have:=T.low';have e':b=j:=(by simpa [Value.ownBlock] using e);simp;omega)
   go_roundw
   case rel=>exact ⟨k+1,g',c',by omega,by go_num,rfl,by rw [hnx.out];exact T5,S5⟩
   case measure=>simp [intOf];omega
  ·have hkn:k=n:=by omega
   subst hkn
   rw [List.take_of_length_le (by omega)] at T
   clear hp R T0
   go_wp2
   go_ret
   exact ⟨b,c,rfl,T.raise (by have:=T.low';omega),G1.trans Sr⟩
theorem bytesIn (a:Option Addr) (n cap:Nat) (ss:List (Int×Int)) (hn:n≤1048577) (hs:∀ i,i<n→-4294967296≤(sAt ss i).1∧(sAt ss i).1≤(sAt ss i).2∧(sAt ss i).2≤(sAt ss i).1+1048576∧(sAt ss i).2≤4294967296) (w:World) (R:Rd shS w a n ss) :
  Calls Tryz.prog 149 #[.slice a n cap] w fun e w'=>e=.returned (.int .i64 (sumS ss))∧Since w w':=by
 have hlen:=R.len
 go_enter Tryz.func149,Tryz.ntmps149
 go_wp2
 go_loopw [3,8] (fun v i wr=>∃ (k:Nat) (s:Int),k≤n∧i=.int .i64 k∧v=.int .i64 s∧0≤s∧s≤k*1048576∧Hid (s=sumS (ss.take k))∧Since w wr) (fun _ i _=>n - (intOf i).toNat)
 case atStart=>exact ⟨0,0,by omega,rfl,rfl,by omega,by omega,by simp [sumS,Hid],Since.refl _⟩
 case round=>
  obtain ⟨k,s,hk,rfl,rfl,hs0,hs1,hsum,Sr⟩:=hrel
  by_cases hlt:k<n
  ·have hlt':(k:Int)<(n:Int):=by omega
   obtain ⟨x,rfl,hb,p0,p1⟩:=(R.since Sr).sp k hlt
   obtain ⟨h1,h2,h3,h4⟩:=hs k hlt
   have hnx:=sumS_next ss k (by omega)
   rw [← hsum.out] at hnx
   generalize sAt ss k=t at p0 p1 h1 h2 h3 h4 hnx
   have hw1:IntKind.i64.wrap (t.2 - t.1)=t.2 - t.1:=by rw [IntWalk.i64_left];exact IntWalk.wrap64_in _ ⟨by omega,by omega⟩
   have hw2:IntKind.i64.wrap (s+(t.2 - t.1))=s+(t.2 - t.1):=by rw [IntWalk.i64_left];exact IntWalk.wrap64_in _ ⟨by omega,by omega⟩
   replace hnx:Hid _:=hnx
   clear hs R hsum
   go_wp2
   go_roundw
   case rel=>exact ⟨k+1,s+(t.2 - t.1),by omega,by go_num,rfl,by omega,by omega,hnx.out.symm,Sr.alloc _⟩
   case measure=>simp [intOf];omega
  ·have hkn:k=n:=by omega
   subst hkn
   have h:=hsum.out
   rw [List.take_of_length_le (by omega)] at h
   subst h
   clear hs R hsum
   go_wp2
   go_ret
   exact ⟨rfl,Sr⟩
def inHeld (q:Int) (d:ByteArray) (r:Int) (ps:List (Int×ByteArray)):Int:=if inOk q d r ps=true then sumS (spans q ps) else 0
theorem good_spans {q:Int} {d:ByteArray} {r:Int} {n:Nat} {ps:List (Int×ByteArray)} (g:Good q d r n ps) (hl:ps.length=n):∀ i,i<n→-4294967296≤(sAt (spans q ps) i).1∧(sAt (spans q ps) i).1≤(sAt (spans q ps) i).2∧(sAt (spans q ps) i).2≤(sAt (spans q ps) i).1+1048576∧(sAt (spans q ps) i).2≤4294967296:=fun i hi=>by
 rw [spans_at q ps i (by omega)]
 obtain ⟨h1,h2⟩:=g.hp i hi
 obtain ⟨k1,k2,_⟩:=distI_is q (pAt ps i).1
 unfold spn
 simp only
 omega
theorem implInHeld (q:Int) (d:ByteArray) (r:Int) (a:Option Addr) (n cap:Nat) (ps:List (Int×ByteArray)) (g:Good q d r n ps) (w:World) (R:Rd shP w a n ps) :
  Calls Tryz.prog 150 #[inVal q d (.slice a n cap) r] w fun e w'=>e=.returned (.int .i64 (inHeld q d r ps))∧Since w w':=by
 have ho:=fun wx Rx=>implInOk q d r a n cap ps g wx Rx
 have hsp:=fun wx Rx=>spansOf q d r a n cap ps g wx Rx
 have hn:=g.hn
 have hgs:=good_spans g R.len
 have hlen:=R.len
 have G:Since w (w.alloc (.cells #[.int .u32 q,.string d,.slice a n cap,.int .i64 r] 33)):=(Since.refl _).alloc _
 have A:=Blk.new w #[.int .u32 q,.string d,.slice a n cap,.int .i64 r] 33
 have ho1:=ho _ (R.since G)
 clear ho
 unfold inVal inHeld at *
 cases hk:inOk q d r ps
 ·rw [if_neg (by simp)]
  rw [hk] at ho1
  clear hsp hgs g R
  go_enter Tryz.func150,Tryz.ntmps150
  go_wp2_with (go_at_call 87;refine ho1.mono ?_;rintro _ w1 ⟨rfl,g1⟩)
  go_ret
  exact ⟨rfl,G.trans g1⟩
 ·rw [if_pos rfl]
  rw [hk] at ho1
  go_enter Tryz.func150,Tryz.ntmps150
  go_wp2_with (go_at_call 87;refine ho1.mono ?_;rintro _ w1 ⟨rfl,g1⟩;have c0:=(A.since g1).cell 0;have c1:=(A.since g1).cell 1;have c2:=(A.since g1).cell 2;have c3:=(A.since g1).cell 3;simp at c0 c1 c2 c3)
  refine (hsp _ (R.since (G.trans g1))).mono ?_
  rintro _ w2 ⟨b,c,rfl,T,g2⟩
  clear hsp c0 c1 c2 c3
  go_wp2_with (fail)
  refine (bytesIn _ n c (spans q ps) (by omega) hgs w2 T.reads).mono ?_
  rintro _ w3 ⟨rfl,g3⟩
  clear hgs g R
  go_wp2
  go_ret
  exact ⟨rfl,G.trans (g1.trans (g2.trans g3))⟩
def inRoomN (q:Int) (d:ByteArray) (r:Int) (ps:List (Int×ByteArray)):Int:=if inOk q d r ps=true then r - d.size else 0
theorem inOk_room {q:Int} {d:ByteArray} {r:Int} {ps:List (Int×ByteArray)} (h:inOk q d r ps=true):(1≤r∧r≤4096)∧(d.size:Int)≤r∧okB 0 (r - d.size) (spans q ps)=true:=by
 simpa [inOk] using h
theorem implInRoom (q:Int) (d:ByteArray) (r:Int) (a:Option Addr) (n cap:Nat) (ps:List (Int×ByteArray)) (g:Good q d r n ps) (w:World) (R:Rd shP w a n ps) :
  Calls Tryz.prog 47 #[inVal q d (.slice a n cap) r] w fun e w'=>e=.returned (.int .i64 (inRoomN q d r ps))∧Since w w':=by
 have ho:=fun wx Rx=>implInOk q d r a n cap ps g wx Rx
 have hd:=g.hd
 have G:Since w (w.alloc (.cells #[.int .u32 q,.string d,.slice a n cap,.int .i64 r] 33)):=(Since.refl _).alloc _
 have A:=Blk.new w #[.int .u32 q,.string d,.slice a n cap,.int .i64 r] 33
 have ho1:=ho _ (R.since G)
 clear ho
 unfold inRoomN
 cases hk:inOk q d r ps
 ·rw [if_neg (by simp)]
  rw [hk] at ho1
  unfold inVal at *
  clear g R
  go_enter Tryz.func47,Tryz.ntmps47
  go_wp2_with (go_at_call 87;refine ho1.mono ?_;rintro _ w1 ⟨rfl,g1⟩)
  go_ret
  exact ⟨rfl,G.trans g1⟩
 ·rw [if_pos rfl]
  rw [hk] at ho1
  have hm:=fun wx=>inRoom q d (.slice a n cap) r hd (by have:=(inOk_room hk).1;omega) wx
  unfold inVal at *
  clear g R
  go_enter Tryz.func47,Tryz.ntmps47
  go_wp2_with (first|(go_at_call 87;refine ho1.mono ?_;rintro _ w1 ⟨rfl,g1⟩;have c0:=(A.since g1).cell 0;have c1:=(A.since g1).cell 1;have c2:=(A.since g1).cell 2;have c3:=(A.since g1).cell 3;simp at c0 c1 c2 c3)|(go_at_call 94;refine (hm _).mono ?_;rintro _ w2 ⟨rfl,g2⟩))
  go_ret
  exact ⟨rfl,G.trans (g1.trans g2)⟩
end Go.Proofs.YtmigalhmlofbkaaGreatDoor
namespace Go.Proofs.YtmigalhmlofbkaaGreatDoor
open Go.ChangeShapes Go.WideShapes Go.ChangeAt Go.RowKit Go.Shelf
def cloneRen:Ren:=⟨fun _=>127,fun x=>if x=3 then 3 else if x=4 then 4 else if x=5 then 5 else if x=9 then 9 else if x=37 then 22 else if x=47 then 191 else 0,fun x=>x⟩
theorem cloneLays:LaysPu.n25 Tryz.prog cloneRen:=
 {mixed:=by kernel_rfl,f25:=by kernel_rfl,
  t0:=by kernel_rfl,
  a0:=fun _=>by kernel_rfl,
  z0:=fun _=>by kernel_rfl,
  v0:=fun _=>by kernel_rfl,
  i0:=by kernel_rfl,
  t3:=by kernel_rfl,
  a3:=fun _=>by kernel_rfl,
  z3:=fun _=>by kernel_rfl,
  v3:=fun _=>by kernel_rfl,
  i3:=by kernel_rfl,
  t4:=by kernel_rfl,
  a4:=fun _=>by kernel_rfl,
  z4:=fun _=>by kernel_rfl,
  v4:=fun _=>by kernel_rfl,
  i4:=by kernel_rfl,
  t5:=by kernel_rfl,
  a5:=fun _=>by kernel_rfl,
  z5:=fun _=>by kernel_rfl,
  v5:=fun _=>by kernel_rfl,
  i5:=by kernel_rfl,
  t9:=by kernel_rfl,
  a9:=fun _=>by kernel_rfl,
  z9:=fun _=>by kernel_rfl,
  v9:=fun _=>by kernel_rfl,
  i9:=by kernel_rfl,
  t37:=by kernel_rfl,
  a37:=fun _=>by kernel_rfl,
  z37:=fun _=>by kernel_rfl,
  v37:=fun _=>by kernel_rfl,
  i37:=by kernel_rfl,
  t47:=by kernel_rfl,
  a47:=fun _=>by kernel_rfl,
  z47:=fun _=>by kernel_rfl,
  v47:=fun _=>by kernel_rfl,
  i47:=by kernel_rfl}
theorem clone (s:ByteArray) (h:s.size≤1048576) (w:World) :
  Calls Tryz.prog 93 #[.string s] w fun e w'=>e=.returned (.string s)∧Since w w':=by
 have hc:∀ wx,Calls Tryz.prog 127 #[.string s] wx fun e w'=>e=.returned (.string s)∧Below wx.heap.size wx w':=fun wx=>AnyPu.stringslite_Clone cloneLays s wx (by omega)
 go_enter Tryz.func93,Tryz.ntmps93
 go_wp2_with (go_at_call 127;refine (hc _).mono ?_;rintro _ w1 ⟨rfl,g1⟩)
 go_ret
 exact ⟨rfl,g1⟩
end Go.Proofs.YtmigalhmlofbkaaGreatDoor
namespace Go.Proofs.YtmigalhmlofbkaaGreatDoor
open Go.ChangeShapes Go.WideShapes Go.ChangeAt Go.RowKit Go.Deep
theorem freshIn (q:Int) (d:ByteArray) (r:Int) (a:Option Addr) (n cap:Nat) (ps:List (Int×ByteArray)) (gd:Good q d r n ps) (w:World) (R:Rd shP w a n ps) :
  Calls Tryz.prog 61 #[inVal q d (.slice a n cap) r] w fun e w'=>∃ g,e=.returned (inVal q d (.slice (some ⟨g,0,none⟩) n n) r)∧Held shP w' w.heap.size g n n ps∧Since w w':=by
 obtain ⟨ii,hi,hz0,hz1,hz2⟩:=info_parts info_P
 obtain ⟨hq,hd,hr,hn,hp⟩:=gd
 have hlen:=R.len
 unfold inVal
 have G:Since w ((w.alloc (.cells #[.int .u32 q,.string d,.slice a n cap,.int .i64 r] 33)).alloc (.cells #[.int .u32 0,.string ⟨#[]⟩,.slice none 0 0,.int .i64 0] 33)):=((Since.refl _).alloc _).alloc _
 have A:=(Blk.new w #[.int .u32 q,.string d,.slice a n cap,.int .i64 r] 33).since ((Since.refl _).alloc (.cells #[.int .u32 0,.string ⟨#[]⟩,.slice none 0 0,.int .i64 0] 33))
 have B:=Blk.new (w.alloc (.cells #[.int .u32 q,.string d,.slice a n cap,.int .i64 r] 33)) #[.int .u32 0,.string ⟨#[]⟩,.slice none 0 0,.int .i64 0] 33
 simp only [World.size_alloc] at A B
 go_enter Tryz.func61,Tryz.ntmps61
 go_wp2_with (refine wpList_make_full _ rfl _ _ 31 rfl (w.heap.size+2) 141 ii (.agg #[.int .u32 0,.string ByteArray.empty]) 2 Tryz.underlying31 hi hz0 hz1 .i64 .i64 _ _ n rfl rfl rfl rfl ?c1 ?c2 ?c3 ?_)
 case c1=>rw [hz2];omega
 case c2=>unfold maxLen;omega
 case c3=>simp
 intro w1 hown hgrow
 have T0:=made_prt hown
 have S1:Since ((w.alloc (.cells #[.int .u32 q,.string d,.slice a n cap,.int .i64 r] 33)).alloc (.cells #[.int .u32 0,.string ⟨#[]⟩,.slice none 0 0,.int .i64 0] 33)) w1:=⟨hgrow.os,hgrow.tape,hgrow.output,hgrow.size,fun k hk=>hgrow.block k hk (by simp)⟩
 have A1:=A.since S1
 have c2:=A1.cell 2
 simp at c2
 try simp only [World.size_alloc] at T0
 try simp only [World.size_alloc]
 generalize hg:w.heap.size+1+1=g at T0 ⊢
 go_wp2
 go_loopw [13] (fun i wr=>∃ (k:Nat),k≤n∧i=.int .i64 k∧Held shP wr (w.heap.size+2) g n n (ps.take k++List.replicate (n - k) (0,ByteArray.empty))∧Since ((w.alloc (.cells #[.int .u32 q,.string d,.slice a n cap,.int .i64 r] 33)).alloc (.cells #[.int .u32 0,.string ⟨#[]⟩,.slice none 0 0,.int .i64 0] 33)) wr) (fun i _=>n - (intOf i).toNat)
 case atStart=>exact ⟨0,by omega,rfl,by simpa using T0.raise (B':=w.heap.size+2) (by omega),S1⟩
 case round=>
  obtain ⟨k,hk,rfl,T,S⟩:=hrel
  have A2:=A.since S
  have B2:=B.since S
  clear c2 A1 hown T0
  by_cases hlt:k<n
  ·have hlt':(k:Int)<(n:Int):=by omega
   obtain ⟨x,rfl,hb,p0,p1⟩:=(R.since (G.trans S)).prt k hlt
   obtain ⟨hp1,hp2⟩:=hp k hlt
   have hset:=shP.take_set ps n k R.len hlt
   rw [show shP.get ps k=((pAt ps k).1,(pAt ps k).2) from rfl,show shP.z=(0,ByteArray.empty) from rfl] at hset
   generalize pAt ps k=O at p0 p1 hp1 hp2 hset
   replace hset:Hid _:=hset
   have X:=Blk.new wr #[.int .u32 O.1,.string O.2] 141
   have SY:=S.alloc (.cells #[.int .u32 O.1,.string O.2] 141)
   have TY:=T.since ((Since.refl wr).alloc (.cells #[.int .u32 O.1,.string O.2] 141))
   have hgw:=T.lt
   go_wp2
   obtain ⟨Y,hY⟩:∃ Y,wr.alloc (.cells #[.int .u32 O.1,.string O.2] 141)=Y:=⟨_,rfl⟩
   rw [hY] at X SY TY ⊢
   clear hY p0 p1 hp R
   refine wp_region_tail (wb:=Y) 8 (fun i x v=>match i with
     | 0=>v=.slice (some ⟨g,0,none⟩) n n
     | 1=>v=.int .i64 k
     | 2=>v=.pointer (some ⟨wr.heap.size,0,none⟩)
     | 3=>v=.int .u32 O.1
     | 4=>v=.pointer (some ⟨wr.heap.size,1,none⟩)
     | 5=>v=.string O.2
     | 6=>v=.string O.2
     | 7=>v=.agg #[.int .u32 O.1,.string O.2]
     | _=>True) (fun v=>{tmps:=#[Value.agg #[Value.int IntKind.u32 q,Value.string d,Value.slice (some x) n cap,Value.int IntKind.i64 r],Value.pointer (some ⟨w.heap.size,0,none⟩),Value.pointer (some ⟨w.heap.size+1,0,none⟩),Value.slice (some ⟨g,0,none⟩) n n,Value.int IntKind.i64 (k:Int),Value.pointer (some ⟨wr.heap.size,0,none⟩),Value.pointer (some ⟨w.heap.size,2,none⟩),Value.slice (some x) n cap,Value.int IntKind.i64 (n:Int),Value.slice (some ⟨g,0,none⟩) n n,Value.pointer (some ⟨w.heap.size,2,none⟩),Value.slice (some x) n cap,Value.int IntKind.i64 (n:Int),Value.int IntKind.i64 (k:Int),Value.bool true,Value.int IntKind.i64 (k:Int),Value.pointer (some (x.add (k*2))),Value.agg #[Value.int IntKind.u32 O.fst,Value.string O.snd],v 0,v 1,v 2,v 3,v 4,v 5,v 6,v 7,u26,u27,undef,undef,undef,undef,undef,undef,undef,undef,undef],defers:=[]}) (by kernel_rfl) (by kernel_rfl) (by kernel_rfl) (Since.refl _) ?_ (fun vals=>by kernel_rfl) ?_ ?_
   case refine_1=>
    intro j x x' v h1 h2
    match j,h2 with
    | 0,h2|1,h2|2,h2|3,h2|4,h2|5,h2|6,h2|7,h2=>exact h2
    | n+8,_=>trivial
   case refine_2=>
    repeat (first|exact eachDoes_nil|refine eachDoes_cons ?_ ?_)
    all_goals intro vals x hx hv
    all_goals simp [Region.binds] at hv
    ·simp [does,doesUpon,go_sem,hv,Since.refl]
    ·simp [does,doesUpon,go_sem,hv]
     refine (clone O.2 hp2 x).mono ?_
     rintro _ x' ⟨rfl,h1⟩
     simp [h1]
    ·have e1:=(X.since hx).cell 1
     simp at e1
     simp [does,doesUpon,go_sem,hv,e1,Since.refl]
    ·simp [does,doesUpon,go_sem,Since.refl]
    ·have e0:=(X.since hx).cell 0
     simp at e0
     simp [does,doesUpon,go_sem,hv,e0,Since.refl]
    ·simp [does,doesUpon,go_sem,Since.refl]
    ·simp [does,doesUpon,go_sem,Since.refl]
    ·simp [does,doesUpon,go_sem,Since.refl]
   case refine_3=>
    intro vals x hx hv
    have h0:vals 0=_:=hv 0 (by decide)
    have h1:vals 1=_:=hv 1 (by decide)
    have h7:vals 7=_:=hv 7 (by decide)
    clear hv
    simp only [h0,h1,h7]
    have T2:=TY.since hx
    obtain ⟨d0,d1⟩:=T2.prt k hlt
    have f0:=T2.free (k*2)
    have f1:=T2.free (k*2+1)
    have hT:=T2.setP k hlt O.1 O.2
    rw [hset.out] at hT
    generalize vals 2=v2
    generalize vals 3=v3
    generalize vals 4=v4
    generalize vals 5=v5
    generalize vals 6=v6
    have hgl:=T2.low'
    go_wp2
    go_roundw
    case rel=>exact ⟨k+1,by omega,by go_num,hT,since_put1 (since_put1 (SY.trans hx) (by simp;omega) _ _) (by simp;omega) _ _⟩
    case measure=>simp [intOf];omega
  ·have hkn:k=n:=by omega
   have e:ps.take k++List.replicate (n - k) ((0,ByteArray.empty):Int×ByteArray)=ps:=by rw [hkn];simp [List.take_of_length_le (Nat.le_of_eq hlen)]
   rw [e] at T
   clear hp R e
   go_wp2
   refine wp_region_tail (wb:=wr) 9 (fun i x v=>match i with
     | 0=>v=.pointer (some ⟨w.heap.size,0,none⟩)
     | 1=>v=.int .u32 q
     | 2=>v=.pointer (some ⟨w.heap.size,1,none⟩)
     | 3=>v=.string d
     | 4=>v=.string d
     | 5=>v=.slice (some ⟨g,0,none⟩) n n
     | 6=>v=.pointer (some ⟨w.heap.size,3,none⟩)
     | 7=>v=.int .i64 r
     | 8=>v=.agg #[.int .u32 q,.string d,.slice (some ⟨g,0,none⟩) n n,.int .i64 r]
     | _=>True) (fun v=>{tmps:=#[Value.agg #[Value.int IntKind.u32 q,Value.string d,Value.slice a n cap,Value.int IntKind.i64 r],Value.pointer (some ⟨w.heap.size,0,none⟩),Value.pointer (some ⟨w.heap.size+1,0,none⟩),Value.slice (some ⟨g,0,none⟩) n n,u4,u5,Value.pointer (some ⟨w.heap.size,2,none⟩),Value.slice a n cap,Value.int IntKind.i64 (n:Int),Value.slice (some ⟨g,0,none⟩) n n,Value.pointer (some ⟨w.heap.size,2,none⟩),Value.slice a n cap,Value.int IntKind.i64 (n:Int),Value.int IntKind.i64 (k:Int),Value.bool false,u15,u16,u17,u18,u19,u20,u21,u22,u23,u24,u25,u26,u27,v 0,v 1,v 2,v 3,v 4,v 5,v 6,v 7,v 8],defers:=[]}) (by kernel_rfl) (by kernel_rfl) (by kernel_rfl) (Since.refl _) ?_ (fun vals=>by kernel_rfl) ?_ ?_
   case refine_1=>
    intro j x x' v h1 h2
    match j,h2 with
    | 0,h2|1,h2|2,h2|3,h2|4,h2|5,h2|6,h2|7,h2|8,h2=>exact h2
    | n+9,_=>trivial
   case refine_2=>
    repeat (first|exact eachDoes_nil|refine eachDoes_cons ?_ ?_)
    all_goals intro vals x hx hv
    all_goals simp [Region.binds] at hv
    ·simp [does,doesUpon,go_sem,hv,Since.refl]
    ·have e3:=(A2.since hx).cell 3
     simp at e3
     simp [does,doesUpon,go_sem,hv,e3,Since.refl]
    ·simp [does,doesUpon,go_sem,Since.refl]
    ·simp [does,doesUpon,go_sem,Since.refl]
    ·simp [does,doesUpon,go_sem,hv]
     refine (clone d hd x).mono ?_
     rintro _ x' ⟨rfl,h1⟩
     simp [h1]
    ·have e1:=(A2.since hx).cell 1
     simp at e1
     simp [does,doesUpon,go_sem,hv,e1,Since.refl]
    ·simp [does,doesUpon,go_sem,Since.refl]
    ·have e0:=(A2.since hx).cell 0
     simp at e0
     simp [does,doesUpon,go_sem,hv,e0,Since.refl]
    ·simp [does,doesUpon,go_sem,Since.refl]
   case refine_3=>
    intro vals x hx hv
    have h8:vals 8=_:=hv 8 (by decide)
    clear hv
    simp only [h8]
    generalize vals 0=v0
    generalize vals 1=v1
    generalize vals 2=v2
    generalize vals 3=v3
    generalize vals 4=v4
    generalize vals 5=v5
    generalize vals 6=v6
    generalize vals 7=v7
    have B3:=B2.since hx
    have b0:=B3.cell 0
    have b1:=B3.cell 1
    have b2:=B3.cell 2
    have b3:=B3.cell 3
    simp at b0 b1 b2 b3
    have z0:=B3.fz 0
    have z1:=B3.fz 1
    have z2:=B3.fz 2
    have z3:=B3.fz 3
    have B4:=(((B3.put 0 (.int .u32 q) (by simp)).put 1 (.string d) (by simp)).put 2 (.slice (some ⟨g,0,none⟩) n n) (by simp)).put 3 (.int .i64 r) (by simp)
    have y0:=B4.cell 0
    have y1:=B4.cell 1
    have y2:=B4.cell 2
    have y3:=B4.cell 3
    simp at y0 y1 y2 y3
    have T2:=T.since hx
    have hgl:=T2.low'
    go_wp2
    refine bodyPost_ret (v:=.agg #[.int .u32 q,.string d,.slice (some ⟨g,0,none⟩) n n,.int .i64 r]) ?_ rfl ⟨g,rfl,?_,?_⟩
    ·simp [results,go_sem,y0,y1,y2,y3]
    ·exact ((((T2.other (by omega) _ _).other (by omega) _ _).other (by omega) _ _).other (by omega) _ _).raise (by omega)
    ·exact since_put1 (since_put1 (since_put1 (since_put1 (G.trans (S.trans hx)) (by omega) _ _) (by omega) _ _) (by omega) _ _) (by omega) _ _
end Go.Proofs.YtmigalhmlofbkaaGreatDoor
namespace Go.Proofs.YtmigalhmlofbkaaGreatDoor
open Go.ChangeShapes Go.WideShapes Go.ChangeAt Go.RowKit
theorem bt_cut (s:ByteArray) (a b i:Nat) (hb:b≤s.size) (hi:a+i<b):byteAt (s.extract a b) i=byteAt s (a+i):=by
 rw [byteAt_in _ _ (by rw [ByteArray.size_extract];omega),byteAt_in _ _ (by omega),ByteArray.getElem_extract]
theorem bt_left (a b:ByteArray) (i:Nat) (h:i<a.size):byteAt (a++b) i=byteAt a i:=by
 rw [byteAt_in _ _ (by rw [ByteArray.size_append];omega),byteAt_in _ _ h,ByteArray.getElem_append_left h]
theorem bt_right (a b:ByteArray) (i:Nat) (h:i<b.size):byteAt (a++b) (a.size+i)=byteAt b i:=by
 rw [byteAt_in _ _ (by rw [ByteArray.size_append];omega),byteAt_in _ _ h,ByteArray.getElem_append_right (by omega)]
 simp
theorem textOf_ext (f g:Nat→Int) (n:Nat) (h:∀ i,i<n→f i=g i):textOf f n=textOf g n:=by
 unfold textOf
 congr 1
 apply List.map_congr_left
 intro i hi
 exact h i (List.mem_range.1 hi)
theorem textOf_is (f:Nat→Int) (n:Nat) (s:ByteArray) (hn:s.size=n) (h:∀ i,i<n→f i=byteAt s i):textOf f n=s:=by
 subst hn
 rw [textOf_ext f (byteAt s) _ h,textOf_bytes]
theorem textOf_join (f:Nat→Int) (n:Nat) (a b:ByteArray) (hn:a.size+b.size=n) (h1:∀ i,i<a.size→f i=byteAt a i) (h2:∀ i,i<b.size→f (a.size+i)=byteAt b i):textOf f n=a++b:=by
 refine textOf_is f n _ (by rw [ByteArray.size_append];exact hn) fun i hi=>?_
 by_cases h:i<a.size
 ·rw [h1 i h,bt_left _ _ _ h]
 ·obtain ⟨j,rfl⟩:∃ j,i=a.size+j:=⟨i - a.size,by omega⟩
  rw [h2 j (by omega),bt_right _ _ _ (by omega)]
end Go.Proofs.YtmigalhmlofbkaaGreatDoor
