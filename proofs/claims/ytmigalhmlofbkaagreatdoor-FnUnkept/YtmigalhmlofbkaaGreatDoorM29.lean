/- A part of the proof. -/
import Derived.Test.YtmigalhmlofbkaaGreatDoorM27
set_option linter.unusedVariables false
set_option maxRecDepth 10000
set_option maxHeartbeats 2000000
namespace Go.Proofs.YtmigalhmlofbkaaGreatDoor
open Go.ChangeShapes Go.WideShapes Go.ChangeAt Go.RowKit Go.Deep
def gQ (q:Int):List (Int×Int)→Int
 | []=>q
 | s :: _=>if s.1=0 then (q+s.2) % 4294967296 else q
def gD (d:ByteArray) (F:Nat→Int):List (Int×Int)→ByteArray
 | []=>d
 | s :: _=>if s.1=0 then d++textOf (fun i=>F (s.1.toNat+i)) (s.2 - s.1).toNat else d
def prtOf (q:Int) (F:Nat→Int) (s:Int×Int):Int×ByteArray:=((q+s.1) % 4294967296,textOf (fun i=>F (s.1.toNat+i)) (s.2 - s.1).toNat)
def gL (q:Int) (F:Nat→Int):List (Int×Int)→List (Int×ByteArray)
 | []=>[]
 | s :: r=>if s.1=0 then gL q F r else prtOf q F s :: gL q F r
theorem gL_snoc (q:Int) (F:Nat→Int):∀ (l:List (Int×Int)) (s:Int×Int),gL q F (l++[s])=gL q F l++(if s.1=0 then [] else [prtOf q F s])
 | [],s=>by
  simp only [List.nil_append,gL]
  try (split<;>rfl)
 | o :: r,s=>by
  simp only [List.cons_append,gL,gL_snoc q F r s]
  try (split<;>rfl)
theorem take_snoc (l:List (Int×Int)) (k:Nat) (h:k<l.length):l.take (k+1)=l.take k++[sAt l k]:=by
 rw [List.take_succ_eq_append_getElem h,sAt_lt h]
theorem okB_later (l:List (Int×Int)) (W:Int) (k:Nat) (h:okB (-1) W l=true) (hk:k<l.length) (h0:0<k):0<(sAt l k).1:=by
 match l,k,h0 with
 | s :: r,k+1,_=>
  simp only [okB,Bool.and_eq_true,decide_eq_true_eq] at h
  have:=okB_at r s.2 W k h.2 (by simpa using hk)
  have e1:sAt (s :: r) (k+1)=sAt r k:=by simp [sAt,List.getD]
  rw [e1]
  omega
theorem g_first (q:Int) (d:ByteArray) (F:Nat→Int) (l:List (Int×Int)) (W:Int) (k:Nat) (h:okB (-1) W l=true) (hk:k<l.length) (hs:(sAt l k).1=0) :
  k=0∧gQ q (l.take k)=q∧gD d F (l.take k)=d∧gQ q (l.take (k+1))=(q+(sAt l k).2) % 4294967296∧gD d F (l.take (k+1))=d++textOf (fun i=>F ((sAt l k).1.toNat+i)) ((sAt l k).2 - (sAt l k).1).toNat∧gL q F (l.take (k+1))=gL q F (l.take k):=by
 have h0:k=0:=by
  rcases Nat.eq_zero_or_pos k with h0|h0
  ·exact h0
  ·have:=okB_later l W k h hk h0
   omega
 refine ⟨h0,?_⟩
 have e:=take_snoc l k hk
 have e3:=gL_snoc q F (l.take k) (sAt l k)
 rw [if_pos hs,List.append_nil,← e] at e3
 refine ⟨?_,?_,?_,?_,e3⟩
 ·rw [h0]
  rfl
 ·rw [h0]
  rfl
 ·rw [e,h0,List.take_zero,List.nil_append]
  rw [h0] at hs
  simp only [gQ,if_pos hs]
 ·rw [e,h0,List.take_zero,List.nil_append]
  rw [h0] at hs
  simp only [gD,if_pos hs]
theorem g_later (q:Int) (d:ByteArray) (F:Nat→Int) (l:List (Int×Int)) (k:Nat) (hk:k<l.length) (hs:¬ (sAt l k).1=0) :
  gQ q (l.take (k+1))=gQ q (l.take k)∧gD d F (l.take (k+1))=gD d F (l.take k)∧gL q F (l.take (k+1))=gL q F (l.take k)++[prtOf q F (sAt l k)]:=by
 have e:=take_snoc l k hk
 have e3:=gL_snoc q F (l.take k) (sAt l k)
 rw [if_neg hs,← e] at e3
 refine ⟨?_,?_,e3⟩
 ·rw [e]
  cases hl:l.take k with
  | nil=>simp only [List.nil_append,gQ,if_neg hs]
  | cons o r=>rfl
 ·rw [e]
  cases hl:l.take k with
  | nil=>simp only [List.nil_append,gD,if_neg hs]
  | cons o r=>rfl
theorem okB_take:∀ (l:List (Int×Int)) (e W:Int) (k:Nat),okB e W l=true→okB e W (l.take k)=true
 | [],e,W,k,h=>by simp [okB]
 | s :: r,e,W,0,h=>by simp [okB]
 | s :: r,e,W,k+1,h=>by
  simp only [okB,Bool.and_eq_true,decide_eq_true_eq,List.take_succ_cons] at h ⊢
  exact ⟨h.1,okB_take r s.2 W k h.2⟩
theorem gD_size (d:ByteArray) (F:Nat→Int) (l:List (Int×Int)) (e W:Int) (h:okB e W l=true) (he:-1≤e) (hW:W≤4096) (hd:d.size≤4096):(gD d F l).size≤8192:=by
 cases l with
 | nil=>exact Nat.le_trans hd (by omega)
 | cons s r=>
  simp only [okB,Bool.and_eq_true,decide_eq_true_eq] at h
  simp only [gD]
  split
  ·rw [ByteArray.size_append,textOf_size]
   omega
  ·omega
theorem bytesFrom (f:Nat→Int) (off n cap b N:Nat) (w:World) (T:Byt w b N f) (h:off+n≤N) :
  (convert 22 9 (.slice (some ⟨b,off,none⟩) n cap)).run Tryz.prog w=.ok (.string (textOf (fun i=>f (off+i)) n)) w:=by
 refine run_convert_bytes_arg _ 22 5 Tryz.underlying22 Tryz.underlying5 b off n cap _ (by simp) ?_ 9 Tryz.underlying9
 intro i hi
 rw [T.cell (off+i) (by omega)]
 simp [List.getD,hi]
theorem gathered (q:Int) (d:ByteArray) (v0:Value) (r:Int) (c W nJ cJ:Nat) (la:Addr) (F:Nat→Int) (J:List (Int×Int)) (hq:IsWord q) (hd:d.size≤4096) (hW:W≤4096) (hok:okB (-1) W J=true) (w:World) (C:Byt w c W F) (R:Rd shS w (some la) nJ J) :
  Calls Tryz.prog 147 #[inVal q d v0 r,.slice (some ⟨c,0,none⟩) W W,.slice (some la) nJ cJ] w fun e w'=>∃ g m c',e=.returned (inVal (gQ q J) (gD d F J) (.slice (some ⟨g,0,none⟩) m c') r)∧Held shP w' w.heap.size g m c' (gL q F J)∧Since w w':=by
 have hlen:=R.len
 have hnJ:nJ≤4097:=by
  have:=okB_many J (-1) W hok (by omega)
  omega
 unfold inVal
 have G:Since w ((w.alloc (.cells #[.int .u32 q,.string d,v0,.int .i64 r] 33)).alloc (.cells #[.int .u32 0,.string ⟨#[]⟩,.slice none 0 0,.int .i64 0] 33)):=((Since.refl _).alloc _).alloc _
 have A:=(Blk.new w #[.int .u32 q,.string d,v0,.int .i64 r] 33).since ((Since.refl _).alloc (.cells #[.int .u32 0,.string ⟨#[]⟩,.slice none 0 0,.int .i64 0] 33))
 have B:=Blk.new (w.alloc (.cells #[.int .u32 q,.string d,v0,.int .i64 r] 33)) #[.int .u32 0,.string ⟨#[]⟩,.slice none 0 0,.int .i64 0] 33
 simp only [World.size_alloc] at B
 go_enter Tryz.func147,Tryz.ntmps147
 go_wp2_with (fail)
 obtain ⟨Z,hZ⟩:∃ Z,((w.alloc (.cells #[.int .u32 q,.string d,v0,.int .i64 r] 33)).alloc (.cells #[.int .u32 0,.string ⟨#[]⟩,.slice none 0 0,.int .i64 0] 33))=Z:=⟨_,rfl⟩
 have hZs:Z.heap.size=w.heap.size+2:=by rw [← hZ];simp
 rw [hZ] at A B G ⊢
 clear hZ
 refine wp_region_tail (wb:=Z) 10 (fun i x v=>match i with
   | 0=>v=.pointer (some ⟨w.heap.size,0,none⟩)
   | 1=>v=.int .u32 q
   | 2=>v=.pointer (some ⟨w.heap.size,1,none⟩)
   | 3=>v=.string d
   | 4=>v=.string d
   | 5=>∃ b,v=.slice (some ⟨b,0,none⟩) 0 0∧Held shP x (w.heap.size+2) b 0 0 []
   | 6=>v=.pointer (some ⟨w.heap.size,3,none⟩)
   | 7=>v=.int .i64 r
   | 8=>∃ b,v=.agg #[.int .u32 q,.string d,.slice (some ⟨b,0,none⟩) 0 0,.int .i64 r]∧Held shP x (w.heap.size+2) b 0 0 []
   | 9=>∃ p,v=.pointer (some ⟨p,0,none⟩)∧Blk p x #[.int .u32 0,.string ⟨#[]⟩,.slice none 0 0,.int .i64 0]∧w.heap.size+2≤p
   | _=>True) (fun v=>{tmps:=#[Value.agg #[Value.int IntKind.u32 q,Value.string d,v0,Value.int IntKind.i64 r],Value.slice (some ⟨c,0,none⟩) W W,Value.slice (some la) nJ cJ,Value.pointer (some ⟨w.heap.size,0,none⟩),undef,undef,Value.pointer (some ⟨w.heap.size+1,0,none⟩),v 9,undef,undef,undef,v 0,v 1,v 2,v 3,v 4,v 5,v 6,v 7,v 8,undef,undef,undef,undef,undef,undef,undef,undef,undef,undef,undef,undef,undef,undef,undef,undef,undef,undef,undef,undef,undef,undef,undef,undef,undef,undef,undef,undef,undef,undef,undef,undef,undef,undef,undef,undef,undef,undef,undef,undef,undef,undef,undef,undef,undef],defers:=[]}) (by kernel_rfl) (by kernel_rfl) (by kernel_rfl) (Since.refl _) ?_ (fun vals=>by kernel_rfl) ?_ ?_
 case refine_1=>
  intro j x x' v h1 h2
  match j,h2 with
  | 5,h2=>
   obtain ⟨b,e,H⟩:=h2
   exact ⟨b,e,H.since h1⟩
  | 8,h2=>
   obtain ⟨b,e,H⟩:=h2
   exact ⟨b,e,H.since h1⟩
  | 9,h2=>
   obtain ⟨p,e,H,h3⟩:=h2
   exact ⟨p,e,H.since h1,h3⟩
  | 0,h2|1,h2|2,h2|3,h2|4,h2|6,h2|7,h2=>exact h2
  | n+10,_=>trivial
 case refine_2=>
  repeat (first|exact eachDoes_nil|refine eachDoes_cons ?_ ?_)
  all_goals intro vals x hx hv
  all_goals simp [Region.binds] at hv
  ·simp [does,doesUpon,go_sem]
   exact ⟨(Since.refl _).alloc _,Blk.new x _ _,by have:=hx.le;omega⟩
  ·obtain ⟨h1,h4,⟨b,h5,H⟩,h7⟩:=hv
   simp [does,doesUpon,go_sem,h1,h4,h5,h7,Since.refl]
   exact H
  ·have e3:=(A.since hx).cell 3
   simp at e3
   simp [does,doesUpon,go_sem,hv,e3,Since.refl]
  ·simp [does,doesUpon,go_sem,Since.refl]
  ·simp [does,doesUpon,go_sem]
   exact ⟨(Since.refl _).alloc _,(Held.empty (S:=shP) x).raise (by have:=hx.le;omega)⟩
  ·simp [does,doesUpon,go_sem,hv]
   refine (clone d (by omega) x).mono ?_
   rintro _ x' ⟨rfl,h1⟩
   simp [h1]
  ·have e1:=(A.since hx).cell 1
   simp at e1
   simp [does,doesUpon,go_sem,hv,e1,Since.refl]
  ·simp [does,doesUpon,go_sem,Since.refl]
  ·have e0:=(A.since hx).cell 0
   simp at e0
   simp [does,doesUpon,go_sem,hv,e0,Since.refl]
  ·simp [does,doesUpon,go_sem,Since.refl]
 case refine_3=>
  intro vals x hx hv
  have h8:=hv 8 (by decide)
  have h9:=hv 9 (by decide)
  clear hv
  obtain ⟨b,h8,H⟩:=h8
  obtain ⟨p,h9,P,hpl⟩:=h9
  have hpb:p≠b:=by
   intro e
   obtain ⟨cur,h3,h6,_⟩:=H.heap
   have hc:=P.cell 0
   rw [e,cell_of_row x b 0 cur _ _ h3] at hc
   have hz:cur.size=0:=by simpa using h6
   rw [Array.getElem?_eq_none (by omega)] at hc
   simp at hc
  have i0:=P.cell 0
  have i1:=P.cell 1
  have i2:=P.cell 2
  have i3:=P.cell 3
  simp at i0 i1 i2 i3
  have j0:=P.fz 0
  have j1:=P.fz 1
  have j2:=P.fz 2
  have j3:=P.fz 3
  simp only [h8,h9]
  generalize vals 0=v1
  generalize vals 1=v2
  generalize vals 2=v3
  generalize vals 3=v4
  generalize vals 4=v5
  generalize vals 5=v6
  generalize vals 6=v7
  generalize vals 7=v8
  simp only [List.drop_succ_cons,List.drop_zero]
  have P1:=(((P.put 0 (.int .u32 q) (by simp)).put 1 (.string d) (by simp)).put 2 (.slice (some ⟨b,0,none⟩) 0 0) (by simp)).put 3 (.int .i64 r) (by simp)
  have H1:=(((H.other (Ne.symm hpb) 0 (.int .u32 q)).other (Ne.symm hpb) 1 (.string d)).other (Ne.symm hpb) 2 (.slice (some ⟨b,0,none⟩) 0 0)).other (Ne.symm hpb) 3 (.int .i64 r)
  have S1:Since Z _:=since_put1 (since_put1 (since_put1 (since_put1 hx (show Z.heap.size≤p by omega) 0 (.int .u32 q)) (show Z.heap.size≤p by omega) 1 (.string d)) (show Z.heap.size≤p by omega) 2 (.slice (some ⟨b,0,none⟩) 0 0)) (show Z.heap.size≤p by omega) 3 (.int .i64 r)
  have RZ:=R.since G
  have CZ:=C.since G
  go_wp2
  clear i0 i1 i2 i3 j0 j1 j2 j3
  go_loopw [22] (fun i wr=>∃ (k m g c1:Nat) (Q:Int) (D:ByteArray) (L:List (Int×ByteArray)),k≤nJ∧m≤k∧i=.int .i64 k∧Blk p wr #[.int .u32 Q,.string D,.slice (some ⟨g,0,none⟩) m c1,.int .i64 r]∧Held shP wr (w.heap.size+2) g m c1 L∧g≠p∧Hid (Q=gQ q (J.take k)∧D=gD d F (J.take k)∧L=gL q F (J.take k))∧Since Z wr) (fun i _=>nJ - (intOf i).toNat)
  case atStart=>exact ⟨0,0,b,0,q,d,[],by omega,by omega,rfl,by simpa using P1,H1,Ne.symm hpb,⟨rfl,rfl,rfl⟩,S1⟩
  case round=>
   clear P1 H1 S1 P H
   obtain ⟨k,m,g,c1,Q,D,L,hk,hmk,rfl,P,H,hgp,hall,S⟩:=hrel
   by_cases hlt:k<nJ
   ·have hlt':(k:Int)<(nJ:Int):=by omega
    obtain ⟨x',hx',hb,p0,p1⟩:=(RZ.since S).sp k hlt
    cases hx'
    have hat:=okB_at _ _ _ k hok (by omega)
    have hfst:=g_first q d F J W k hok (by omega)
    have hlat:=g_later q d F J k (by omega)
    have hDs:D.size≤8192:=by
     rw [hall.out.2.1]
     refine gD_size d F _ (-1) W ?_ (by omega) (by omega) hd
     exact okB_take J (-1) W k hok
    unfold prtOf at hlat
    generalize sAt J k=s at p0 p1 hat hfst hlat
    obtain ⟨s1,s2⟩:=s
    simp only at *
    obtain ⟨f,rfl⟩:=Int.eq_ofNat_of_zero_le (show 0≤s1 by omega)
    obtain ⟨t,rfl⟩:=Int.eq_ofNat_of_zero_le (show 0≤s2 by omega)
    rw [show (f:Int).toNat=f by omega,show ((t:Int) - (f:Int)).toNat=t - f by omega] at hfst hlat
    have hft:f<t:=by omega
    have htW:t≤W:=by omega
    have X:=Blk.new wr #[.int .i64 (f:Int),.int .i64 (t:Int)] 167
    have gY:=(Since.refl wr).alloc (.cells #[.int .i64 (f:Int),.int .i64 (t:Int)] 167)
    have SY:=S.trans gY
    have CY:=(CZ.since S).since gY
    have PY:=P.since gY
    have HY:=H.since gY
    have AY:=A.since SY
    have hpl2:=P.lt
    have hconv:=bytesFrom F f (t - f) (t - f) c W _ CY (by omega)
    have htxs:(textOf (fun i=>F (f+i)) (t - f)).size=t - f:=textOf_size _ _
    generalize textOf (fun i=>F (f+i)) (t - f)=tx at hconv hfst hlat htxs
    have hne:¬ t=f:=by omega
    have hle:f≤t:=by omega
    have htW2:t≤W:=htW
    have hsub1:((t:Int) - (f:Int)).toNat=t - f:=by omega
    clear hat
    by_cases hf0:(f:Int)=0
    ·have hfb:((f:Int) == 0)=true:=by rw [beq_iff_eq];exact hf0
     obtain ⟨hk0,e1,e2,e3,e4,e5⟩:=hfst hf0
     obtain ⟨hQ,hDD,hL⟩:=hall.out
     rw [e1] at hQ
     rw [e2] at hDD
     have hq2:Hid (gQ q (J.take (k+1))=(q+(t:Int)) % 4294967296):=e3
     have hd2:Hid (gD d F (J.take (k+1))=D++tx):=by rw [hDD];exact e4
     have hl2:Hid (gL q F (J.take (k+1))=L):=by rw [hL];exact e5
     have hadd:=fun wx=>run_string_add_sum (P:=Tryz.prog) wx D tx (by omega)
     clear hfst hlat hall e1 e2 e3 e4 e5 hQ hDD hL hk0 hf0
     have i1:=PY.cell 1
     simp at i1
     have j1:=PY.fz 1
     have S0:Since Z _:=since_put1 S (show Z.heap.size≤p by omega) 1 (.string (D++tx))
     have P0:=P.put 1 (.string (D++tx)) (by simp)
     have H0:=H.other hgp 1 (.string (D++tx))
     have A0:=A.since S0
     have gY1:=(Since.refl (wr.setCell ⟨p,1,none⟩ (.string (D++tx)))).alloc (.cells #[.int .i64 (f:Int),.int .i64 (t:Int)] 167)
     have X1:Blk wr.heap.size _ _:=(by simpa using Blk.new (wr.setCell ⟨p,1,none⟩ (.string (D++tx))) #[.int .i64 (f:Int),.int .i64 (t:Int)] 167)
     have P1:=P0.since gY1
     have H1:=H0.since gY1
     have A1:=A0.since gY1
     have S1:=S0.trans gY1
     clear gY1 P0 H0 A0 S0
     go_wp2
     obtain ⟨Y1,hY1⟩:∃ Y1,(wr.setCell ⟨p,1,none⟩ (.string (D++tx))).alloc (.cells #[.int .i64 (f:Int),.int .i64 (t:Int)] 167)=Y1:=⟨_,rfl⟩
     rw [hY1] at X1 P1 H1 A1 S1 ⊢
     clear hY1 i1 j1 hconv hadd
     refine wp_region_tail (wb:=Y1) 6 (fun i x v=>match i with
       | 0=>v=.pointer (some ⟨w.heap.size,0,none⟩)
       | 1=>v=.int .u32 q
       | 2=>v=.pointer (some ⟨wr.heap.size,1,none⟩)
       | 3=>v=.int .i64 t
       | 4=>v=.int .u32 t
       | 5=>v=.int .u32 ((q+t) % 4294967296)
       | _=>True) (fun v=>{tmps:=#[Value.agg #[Value.int IntKind.u32 q,Value.string d,v0,Value.int IntKind.i64 r],Value.slice (some ⟨c,0,none⟩) W W,Value.slice (some la) nJ cJ,Value.pointer (some ⟨w.heap.size,0,none⟩),undef,undef,Value.pointer (some ⟨w.heap.size+1,0,none⟩),Value.pointer (some ⟨p,0,none⟩),undef,Value.pointer (some ⟨wr.heap.size,0,none⟩),Value.string tx,v1,v2,v3,v4,v5,v6,v7,v8,Value.agg #[Value.int IntKind.u32 q,Value.string d,Value.slice (some ⟨b,0,none⟩) 0 0,Value.int IntKind.i64 r],Value.slice (some la) nJ cJ,Value.int IntKind.i64 (nJ:Int),Value.int IntKind.i64 (k:Int),Value.bool true,Value.pointer (some (la.add (k*2))),Value.agg #[Value.int IntKind.i64 (f:Int),Value.int IntKind.i64 (t:Int)],Value.slice (some ⟨c,0,none⟩) W W,Value.pointer (some ⟨wr.heap.size,0,none⟩),Value.int IntKind.i64 (f:Int),Value.pointer (some ⟨wr.heap.size,1,none⟩),Value.int IntKind.i64 (t:Int),Value.pointer (some ⟨wr.heap.size,1,none⟩),Value.int IntKind.i64 (t:Int),Value.slice (some ⟨c,f,none⟩) (t - f) (t - f),Value.string tx,Value.pointer (some ⟨wr.heap.size,0,none⟩),Value.int IntKind.i64 (f:Int),Value.bool true,Value.pointer (some ⟨p,1,none⟩),Value.string D,Value.string tx,Value.string (D++tx),Value.pointer (some ⟨p,1,none⟩),v 0,v 1,v 2,v 3,v 4,v 5,u49,u50,u51,u52,u53,u54,u55,u56,u57,u58,u59,u60,u61,u62,u63,undef],defers:=[]}) (by kernel_rfl) (by kernel_rfl) (by kernel_rfl) (Since.refl _) ?_ (fun vals=>by kernel_rfl) ?_ ?_
     case refine_1=>
      intro j x x' v h1 h2
      match j,h2 with
      | 0,h2|1,h2|2,h2|3,h2|4,h2|5,h2=>exact h2
      | n+6,_=>trivial
     case refine_2=>
      repeat (first|exact eachDoes_nil|refine eachDoes_cons ?_ ?_)
      all_goals intro vals x hx hv
      all_goals simp [Region.binds] at hv
      ·obtain ⟨h1,h4⟩:=hv
       simp [does,doesUpon,go_sem,h1,h4,Since.refl,IntKind.wrap,IntKind.bits,IntKind.signed]
      ·simp [does,doesUpon,go_sem,hv]
       refine (implWord t t (by unfold IsWordOf;omega) x).mono ?_
       rintro _ _ ⟨rfl,rfl⟩
       simp [Since.refl]
      ·have e1:=(X1.since hx).cell 1
       simp at e1
       simp [does,doesUpon,go_sem,hv,e1,Since.refl]
      ·simp [does,doesUpon,go_sem,Since.refl]
      ·have e0:=(A1.since hx).cell 0
       simp at e0
       simp [does,doesUpon,go_sem,hv,e0,Since.refl]
      ·simp [does,doesUpon,go_sem,Since.refl]
     case refine_3=>
      intro vals x hx hv
      have h5:vals 5=_:=hv 5 (by decide)
      clear hv
      simp only [h5]
      generalize vals 0=v1
      generalize vals 1=v2
      generalize vals 2=v3
      generalize vals 3=v4
      generalize vals 4=v5
      simp only [List.drop_succ_cons,List.drop_zero]
      have P2:=P1.since hx
      have i0:=P2.cell 0
      simp at i0
      have j0:=P2.fz 0
      have P3:=P2.put 0 (.int .u32 ((q+t) % 4294967296)) (by simp)
      have H3:=(H1.since hx).other (show g≠p by omega) 0 (.int .u32 ((q+t) % 4294967296))
      go_wp2
      go_roundw
      case rel=>exact ⟨k+1,m,g,c1,_,_,L,by omega,by omega,by go_num,by simpa using P3,H3,hgp,⟨hq2.out.symm,hd2.out.symm,hl2.out.symm⟩,since_put1 (S1.trans hx) (by omega) _ _⟩
      case measure=>simp [intOf];omega
    ·have hfb:((f:Int) == 0)=false:=by rw [beq_eq_false_iff_ne];exact hf0
     obtain ⟨e1,e2,e3⟩:=hlat hf0
     obtain ⟨hQ,hDD,hL⟩:=hall.out
     have hq2:Hid (gQ q (J.take (k+1))=Q):=by rw [hQ];exact e1
     have hd2:Hid (gD d F (J.take (k+1))=D):=by rw [hDD];exact e2
     have hl2:Hid (gL q F (J.take (k+1))=L++[((q+(f:Int)) % 4294967296,tx)]):=by rw [hL];exact e3
     clear hfst hlat hall e1 e2 e3 hQ hDD hL hf0
     go_wp2
     obtain ⟨Y,hY⟩:∃ Y,wr.alloc (.cells #[.int .i64 (f:Int),.int .i64 (t:Int)] 167)=Y:=⟨_,rfl⟩
     rw [hY] at X PY HY AY SY ⊢
     clear hY hconv gY CY
     refine wp_region_tail (wb:=Y) 11 (fun i x v=>match i with
       | 0=>v=.pointer (some ⟨p,2,none⟩)
       | 1=>v=.slice (some ⟨g,0,none⟩) m c1
       | 2=>v=.pointer (some ⟨w.heap.size,0,none⟩)
       | 3=>v=.int .u32 q
       | 4=>v=.pointer (some ⟨wr.heap.size,0,none⟩)
       | 5=>v=.int .i64 f
       | 6=>v=.int .u32 f
       | 7=>v=.int .u32 ((q+f) % 4294967296)
       | 8=>v=.string tx
       | 9=>v=.agg #[.int .u32 ((q+f) % 4294967296),.string tx]
       | 10=>∃ b,v=.slice (some ⟨b,0,none⟩) 1 1∧Rd shP x (some ⟨b,0,none⟩) 1 [((q+f) % 4294967296,tx)]
       | _=>True) (fun v=>{tmps:=#[Value.agg #[Value.int IntKind.u32 q,Value.string d,v0,Value.int IntKind.i64 r],Value.slice (some ⟨c,0,none⟩) W W,Value.slice (some la) nJ cJ,Value.pointer (some ⟨w.heap.size,0,none⟩),undef,undef,Value.pointer (some ⟨w.heap.size+1,0,none⟩),Value.pointer (some ⟨p,0,none⟩),undef,Value.pointer (some ⟨wr.heap.size,0,none⟩),Value.string tx,v1,v2,v3,v4,v5,v6,v7,v8,Value.agg #[Value.int IntKind.u32 q,Value.string d,Value.slice (some ⟨b,0,none⟩) 0 0,Value.int IntKind.i64 r],Value.slice (some la) nJ cJ,Value.int IntKind.i64 (nJ:Int),Value.int IntKind.i64 (k:Int),Value.bool true,Value.pointer (some (la.add (k*2))),Value.agg #[Value.int IntKind.i64 (f:Int),Value.int IntKind.i64 (t:Int)],Value.slice (some ⟨c,0,none⟩) W W,Value.pointer (some ⟨wr.heap.size,0,none⟩),Value.int IntKind.i64 (f:Int),Value.pointer (some ⟨wr.heap.size,1,none⟩),Value.int IntKind.i64 (t:Int),Value.pointer (some ⟨wr.heap.size,1,none⟩),Value.int IntKind.i64 (t:Int),Value.slice (some ⟨c,f,none⟩) (t - f) (t - f),Value.string tx,Value.pointer (some ⟨wr.heap.size,0,none⟩),Value.int IntKind.i64 (f:Int),Value.bool false,u38,u39,u40,u41,u42,u43,u44,u45,u46,u47,u48,u49,v 0,v 1,v 2,v 3,v 4,v 5,v 6,v 7,v 8,v 9,v 10,u61,u62,u63,undef],defers:=[]}) (by kernel_rfl) (by kernel_rfl) (by kernel_rfl) (Since.refl _) ?_ (fun vals=>by kernel_rfl) ?_ ?_
     case refine_1=>
      intro j x x' v h1 h2
      match j,h2 with
      | 10,h2=>
       obtain ⟨b,e,H⟩:=h2
       exact ⟨b,e,H.since h1⟩
      | 0,h2|1,h2|2,h2|3,h2|4,h2|5,h2|6,h2|7,h2|8,h2|9,h2=>exact h2
      | n+11,_=>trivial
     case refine_2=>
      repeat (first|exact eachDoes_nil|refine eachDoes_cons ?_ ?_)
      all_goals intro vals x hx hv
      all_goals simp [Region.binds] at hv
      ·simp [does,doesUpon,go_sem,hv]
       exact ⟨(Since.refl _).alloc _,Rd.one (S:=shP) x ((q+f) % 4294967296,tx) 141 x.heap.size rfl⟩
      ·simp [does,doesUpon,go_sem,hv,Since.refl]
      ·simp [does,doesUpon,go_sem,Since.refl]
      ·obtain ⟨h3,h6⟩:=hv
       simp [does,doesUpon,go_sem,h3,h6,Since.refl,IntKind.wrap,IntKind.bits,IntKind.signed]
      ·simp [does,doesUpon,go_sem,hv]
       refine (implWord f f (by unfold IsWordOf;omega) x).mono ?_
       rintro _ _ ⟨rfl,rfl⟩
       simp [Since.refl]
      ·have e0:=(X.since hx).cell 0
       simp at e0
       simp [does,doesUpon,go_sem,hv,e0,Since.refl]
      ·simp [does,doesUpon,go_sem,Since.refl]
      ·have e0:=(AY.since hx).cell 0
       simp at e0
       simp [does,doesUpon,go_sem,hv,e0,Since.refl]
      ·simp [does,doesUpon,go_sem,Since.refl]
      ·have e2:=(PY.since hx).cell 2
       simp at e2
       simp [does,doesUpon,go_sem,hv,e2,Since.refl]
      ·simp [does,doesUpon,go_sem,Since.refl]
     case refine_3=>
      intro vals x hx hv
      have h1:vals 1=_:=hv 1 (by decide)
      have h10:=hv 10 (by decide)
      clear hv
      obtain ⟨b,h10,R10⟩:=h10
      simp only [h1,h10]
      generalize vals 0=v1
      generalize vals 2=v3
      generalize vals 3=v4
      generalize vals 4=v5
      generalize vals 5=v6
      generalize vals 6=v7
      generalize vals 7=v8
      generalize vals 8=v9
      generalize vals 9=v10
      simp only [List.drop_succ_cons,List.drop_zero]
      have H2:=HY.since hx
      have P2:=PY.since hx
      have hxs:=hx.le
      have hYs:=SY.le
      go_wp2_with (at_builtin;refine app_own (v:=.slice (some ⟨g,0,none⟩) m c1) laidP rfl _ _ rfl rfl H2 rfl R10 (by omega) (by unfold maxLen;omega) (by omega) (by omega) _ rfl ?_;intro g' c' w5 T5 hg5 hat5;have t5:Touch g _ w5:=⟨hg5.os,hg5.tape,hg5.output,hg5.size,fun j hj hne=>hg5.block j hj (by simp [Value.ownBlock];omega)⟩;have P5:=P2.touch t5 (by omega);have i2:=P5.cell 2;simp at i2;have j2:=P5.fz 2)
      have P6:=P5.put 2 (.slice (some ⟨g',0,none⟩) (m+1) c') (by simp)
      have hgp':g'≠p:=by
       rcases hat5 with h|h
       ·have:g=g':=by simpa [Value.ownBlock] using h
        omega
       ·have:=P2.lt
        omega
      have T6:=T5.other hgp' 2 (.slice (some ⟨g',0,none⟩) (m+1) c')
      have S5:=(SY.trans hx).touch t5 (by have:=H2.low';omega)
      go_roundw
      case rel=>exact ⟨k+1,m+1,g',c',Q,D,_,by omega,by omega,by go_num,by simpa using P6,T6,hgp',⟨hq2.out.symm,hd2.out.symm,hl2.out.symm⟩,since_put1 S5 (by omega) _ _⟩
      case measure=>simp [intOf];omega
   ·have hkn:k=nJ:=by omega
    obtain ⟨hQ,hDD,hL⟩:=hall.out
    rw [List.take_of_length_le (by omega)] at hQ hDD hL
    replace hQ:Hid _:=hQ
    replace hDD:Hid _:=hDD
    replace hL:Hid _:=hL
    have B1:=B.since S
    have b0:=B1.cell 0
    have b1:=B1.cell 1
    have b2:=B1.cell 2
    have b3:=B1.cell 3
    have i0:=P.cell 0
    have i1:=P.cell 1
    have i2:=P.cell 2
    have i3:=P.cell 3
    simp at b0 b1 b2 b3 i0 i1 i2 i3
    have z0:=B1.fz 0
    have z1:=B1.fz 1
    have z2:=B1.fz 2
    have z3:=B1.fz 3
    have hgl:=H.low'
    have B4:=(((B1.put 0 (.int .u32 Q) (by simp)).put 1 (.string D) (by simp)).put 2 (.slice (some ⟨g,0,none⟩) m c1) (by simp)).put 3 (.int .i64 r) (by simp)
    have k0:=B4.cell 0
    have k1:=B4.cell 1
    have k2:=B4.cell 2
    have k3:=B4.cell 3
    simp at k0 k1 k2 k3
    clear hall
    go_wp2
    refine bodyPost_ret (v:=.agg #[.int .u32 Q,.string D,.slice (some ⟨g,0,none⟩) m c1,.int .i64 r]) ?_ rfl ⟨g,m,c1,by rw [← hQ.out,← hDD.out],by rw [← hL.out];exact ((((H.other (by omega) _ _).other (by omega) _ _).other (by omega) _ _).other (by omega) _ _).raise (by omega),?_⟩
    ·simp [results,go_sem,k0,k1,k2,k3]
    ·exact since_put1 (since_put1 (since_put1 (since_put1 (G.trans S) (by omega) _ _) (by omega) _ _) (by omega) _ _) (by omega) _ _
def putOk (q:Int) (d:ByteArray) (r:Int) (ps:List (Int×ByteArray)) (at':Int) (s:ByteArray):Prop:=inOk q d r ps=true∧s.size≤536∧-99999≤at'∧at'≤4095
instance (q:Int) (d:ByteArray) (r:Int) (ps:List (Int×ByteArray)) (at':Int) (s:ByteArray):Decidable (putOk q d r ps at' s):=by unfold putOk;infer_instance
def came (at':Int) (s:ByteArray) (W:Int):Int×Int:=(max at' 0,min (at'+s.size) W)
def pJ (q:Int) (ps:List (Int×ByteArray)) (at':Int) (s:ByteArray) (W:Int):List (Int×Int):=if (came at' s W).1<(came at' s W).2 then joinR (spans q ps) (came at' s W) else spans q ps
def base (at':Int) (s:ByteArray) (i:Nat):Int:=if at'≤(i:Int)∧(i:Int)<at'+s.size then byteAt s ((i:Int) - at').toNat else -1
def pF (q:Int) (ps:List (Int×ByteArray)) (at':Int) (s:ByteArray):Nat→Int:=lay q ps (base at' s)
def pQ (q:Int) (d:ByteArray) (r:Int) (ps:List (Int×ByteArray)) (at':Int) (s:ByteArray):Int:=if putOk q d r ps at' s then gQ q (pJ q ps at' s (r - d.size)) else q
def pD (q:Int) (d:ByteArray) (r:Int) (ps:List (Int×ByteArray)) (at':Int) (s:ByteArray):ByteArray:=if putOk q d r ps at' s then gD d (pF q ps at' s) (pJ q ps at' s (r - d.size)) else d
def pL (q:Int) (d:ByteArray) (r:Int) (ps:List (Int×ByteArray)) (at':Int) (s:ByteArray):List (Int×ByteArray):=if putOk q d r ps at' s then gL q (pF q ps at' s) (pJ q ps at' s (r - d.size)) else ps
def pM (q:Int) (d:ByteArray) (r:Int) (ps:List (Int×ByteArray)) (at':Int) (s:ByteArray):Int:=if putOk q d r ps at' s then sumS (pJ q ps at' s (r - d.size)) - sumS (spans q ps) else 0
theorem okB_lower:∀ (l:List (Int×Int)) (e e' W:Int),okB e W l=true→e'≤e→okB e' W l=true
 | [],e,e',W,h,_=>rfl
 | s :: r,e,e',W,h,he=>by
  simp only [okB,Bool.and_eq_true,decide_eq_true_eq] at h ⊢
  exact ⟨by omega,h.2⟩
theorem pJ_ok (q:Int) (ps:List (Int×ByteArray)) (at':Int) (s:ByteArray) (W:Int) (h:okB 0 W (spans q ps)=true):okB (-1) W (pJ q ps at' s W)=true:=by
 unfold pJ
 split
 ·rename_i hc
  exact joinR_ok _ _ (-1) 0 W h (by unfold came;simp only;omega) (by omega) hc (by unfold came;simp only;omega)
 ·exact okB_lower _ 0 (-1) W h (by omega)
theorem pJ_cov (q:Int) (ps:List (Int×ByteArray)) (at':Int) (s:ByteArray) (W:Int) (h:okB 0 W (spans q ps)=true) (i:Nat):cov (pJ q ps at' s W) i=(cov (spans q ps) i || inS (came at' s W) i):=by
 unfold pJ
 split
 ·rename_i hc
  exact joinR_cov i _ _ 0 W h hc
 ·rename_i hc
  have:inS (came at' s W) i=false:=by
   cases hh:inS (came at' s W) i
   ·rfl
   ·rw [inS_iff] at hh
    omega
  rw [this,Bool.or_false]
theorem mem_cov:∀ (l:List (Int×Int)) (s:Int×Int) (i:Nat),s∈l→inS s i=true→cov l i=true
 | o :: r,s,i,h,hi=>by
  simp only [cov,Bool.or_eq_true]
  rcases List.mem_cons.1 h with rfl|h
  ·exact .inl hi
  ·exact .inr (mem_cov r s i h hi)
theorem okB_mem:∀ (l:List (Int×Int)) (e W:Int),okB e W l=true→∀ s∈l,e<s.1∧s.1<s.2∧s.2≤W
 | o :: r,e,W,h,s,hs=>by
  simp only [okB,Bool.and_eq_true,decide_eq_true_eq] at h
  rcases List.mem_cons.1 hs with rfl|hs
  ·exact h.1
  ·have:=okB_mem r o.2 W h.2 s hs
   omega
theorem prtOf_congr (q:Int) (F F':Nat→Int) (l:List (Int×Int)) (e W:Int) (h:okB e W l=true) (he:-1≤e) (hF:∀ i,cov l i=true→F i=F' i) (s:Int×Int) (hs:s∈l):textOf (fun i=>F (s.1.toNat+i)) (s.2 - s.1).toNat=textOf (fun i=>F' (s.1.toNat+i)) (s.2 - s.1).toNat:=by
 have hk:=okB_mem l e W h s hs
 apply textOf_ext
 intro i hi
 refine hF _ (mem_cov l s _ hs ?_)
 rw [inS_iff]
 omega
theorem gD_congr (d:ByteArray) (q:Int) (F F':Nat→Int) (l:List (Int×Int)) (e W:Int) (h:okB e W l=true) (he:-1≤e) (hF:∀ i,cov l i=true→F i=F' i):gD d F l=gD d F' l:=by
 cases l with
 | nil=>rfl
 | cons s r=>
  simp only [gD]
  rw [prtOf_congr q F F' (s :: r) e W h he hF s List.mem_cons_self]
theorem gL_congr (q:Int) (F F':Nat→Int):∀ (l:List (Int×Int)) (e W:Int),okB e W l=true→-1≤e→(∀ i,cov l i=true→F i=F' i)→gL q F l=gL q F' l
 | [],e,W,_,_,_=>rfl
 | s :: r,e,W,h,he,hF=>by
  have h':=h
  simp only [okB,Bool.and_eq_true,decide_eq_true_eq] at h
  have ih:=gL_congr q F F' r s.2 W h.2 (by omega) (fun i hi=>hF i (by simp [cov,hi]))
  simp only [gL,ih]
  have:prtOf q F s=prtOf q F' s:=by
   unfold prtOf
   rw [prtOf_congr q F F' (s :: r) e W h' he hF s List.mem_cons_self]
  rw [this]
theorem gL_self (q:Int) (F:Nat→Int) (hq:IsWord q):∀ (ps:List (Int×ByteArray)) (e W:Int),okB e W (spans q ps)=true→0≤e→(∀ p∈ps,IsWord p.1∧∀ i,i<p.2.size→F ((distI q p.1).toNat+i)=byteAt p.2 i)→gL q F (spans q ps)=ps
 | [],e,W,_,_,_=>rfl
 | p :: r,e,W,h,he,hF=>by
  simp only [spans,List.map_cons,okB,Bool.and_eq_true,decide_eq_true_eq] at h
  have h2:okB (spn q p).2 W (spans q r)=true:=h.2
  have ih:=gL_self q F hq r (spn q p).2 W h2 (by omega) (fun x hx=>hF x (List.mem_cons_of_mem _ hx))
  obtain ⟨hw,hb⟩:=hF p List.mem_cons_self
  have hne:¬ (spn q p).1=0:=by omega
  show gL q F (spn q p :: spans q r)=_
  simp only [gL,if_neg hne,ih]
  congr 1
  unfold prtOf spn
  simp only
  obtain ⟨p1,p2⟩:=p
  simp only at *
  refine Prod.ext ?_ ?_
  ·show (q+distI q p1) % 4294967296=p1
   obtain ⟨k1,k2,k3⟩:=distI_is q p1
   obtain ⟨w1,w2⟩:=hw
   obtain ⟨q1,q2⟩:=hq
   omega
  ·show textOf _ (distI q p1+(p2.size:Int) - distI q p1).toNat=p2
   rw [show (distI q p1+(p2.size:Int) - distI q p1).toNat=p2.size by omega]
   exact textOf_is _ _ _ rfl fun i hi=>hb i hi
theorem gQ_self (q:Int) (ps:List (Int×ByteArray)) (W:Int) (h:okB 0 W (spans q ps)=true):gQ q (spans q ps)=q:=by
 cases ps with
 | nil=>rfl
 | cons p r=>
  simp only [spans,List.map_cons,okB,Bool.and_eq_true,decide_eq_true_eq] at h
  simp only [spans,List.map_cons,gQ]
  rw [if_neg (by omega)]
theorem gD_self (q:Int) (d:ByteArray) (F:Nat→Int) (ps:List (Int×ByteArray)) (W:Int) (h:okB 0 W (spans q ps)=true):gD d F (spans q ps)=d:=by
 cases ps with
 | nil=>rfl
 | cons p r=>
  simp only [spans,List.map_cons,okB,Bool.and_eq_true,decide_eq_true_eq] at h
  simp only [spans,List.map_cons,gD]
  rw [if_neg (by omega)]
theorem lay_take (q:Int) (ps:List (Int×ByteArray)) (k:Nat) (h:k<ps.length) (f:Nat→Int):lay q (ps.take (k+1)) f=over (lay q (ps.take k) f) (distI q (pAt ps k).1).toNat (pAt ps k).2.size (byteAt (pAt ps k).2):=by
 rw [shP.take_next ps k h,lay_snoc]
 rfl
theorem laid (q:Int) (d:ByteArray) (r:Int) (a:Option Addr) (n cap:Nat) (ps:List (Int×ByteArray)) (gd:Good q d r n ps) (hok:inOk q d r ps=true) (W cf ct cp:Nat) (ad:Addr) (g:Nat→Int) (hW:r - d.size=(W:Int)) (hc1:cf<ct) (hc2:ct≤W) (w:World) (R:Rd shP w a n ps)
  (hsrc:∀ j,j<ct - cf→w.cell? (ad.add j)=some (.int .u8 (g j))) (had:ad.block<w.heap.size) :
  Calls Tryz.prog 148 #[inVal q d (.slice a n cap) r,spVal (cf,ct),.slice (some ad) (ct - cf) cp] w fun e w'=>∃ c,e=.returned (.slice (some ⟨c,0,none⟩) W W)∧Byt w' c W (lay q ps (over (fun _=>0) cf (ct - cf) g))∧w.heap.size≤c∧Since w w':=by
 obtain ⟨⟨hr1,hr2⟩,hr3,hkb⟩:=inOk_room hok
 obtain ⟨hq,hd,hr,hn,hp⟩:=gd
 have hlen:=R.len
 have hroom:=fun wx=>inRoom q d (.slice a n cap) r hd (by omega) wx
 rw [hW] at hroom
 unfold inVal spVal at *
 simp only at *
 have G:Since w ((w.alloc (.cells #[.int .u32 q,.string d,.slice a n cap,.int .i64 r] 33)).alloc (.cells #[.int .i64 (cf:Int),.int .i64 (ct:Int)] 167)):=((Since.refl _).alloc _).alloc _
 have A:=(Blk.new w #[.int .u32 q,.string d,.slice a n cap,.int .i64 r] 33).since ((Since.refl _).alloc (.cells #[.int .i64 (cf:Int),.int .i64 (ct:Int)] 167))
 have B:=Blk.new (w.alloc (.cells #[.int .u32 q,.string d,.slice a n cap,.int .i64 r] 33)) #[.int .i64 (cf:Int),.int .i64 (ct:Int)] 167
 simp only [World.size_alloc] at B
 obtain ⟨ii,hi,hz0,hz1,hz2⟩:=info_parts info_B
 obtain ⟨F,hF⟩:∃ F,Hid (over (fun _=>0) cf (ct - cf) g=F):=⟨_,rfl⟩
 rw [hF.out]
 have hsrc2:∀ wx,Since w wx→∀ j,j<ct - cf→wx.cell? (ad.add j)=some (.int .u8 (g j)):=fun wx hx j hj=>(Below.cell hx (p:=ad.add j) (by rw [add_block];exact had)).trans (hsrc j hj)
 replace hsrc2:Hid _:=hsrc2
 replace hkb:Hid _:=hkb
 clear hsrc hok
 go_enter Tryz.func148,Tryz.ntmps148
 go_wp2_with (first|(go_at_call 94;refine (hroom _).mono ?_;rintro _ w1 ⟨rfl,g1⟩;have hsz:=g1.le;simp at hsz)|(refine wpList_make_full _ rfl (.tmp 11) (.tmp 11) 22 rfl (w.heap.size+2) 5 ii (.int .u8 0) 1 Tryz.underlying22 hi hz0 hz1 .i64 .i64 _ _ W rfl rfl rfl rfl ?c1 ?c2 ?c3 ?_))
 case c1=>rw [hz2];omega
 case c2=>unfold maxLen;omega
 case c3=>omega
 intro w2 hown hgrow
 have C2:Byt w2 w1.heap.size W (fun _=>0):=made_byt (B:=w.heap.size+2) (by rw [Nat.mul_one];exact hown)
 have S2:Since w1 w2:=⟨hgrow.os,hgrow.tape,hgrow.output,hgrow.size,fun k hk=>hgrow.block k hk (by simp)⟩
 have S12:=g1.trans S2
 have b0:=(B.since S12).cell 0
 simp at b0
 obtain ⟨c,hc⟩:∃ c,w1.heap.size=c:=⟨_,rfl⟩
 rw [hc] at C2 ⊢
 have hcw:w.heap.size+2≤c:=by omega
 clear hown
 have hmin:ct - cf=Nat.min (ct - cf) (W - cf):=(Nat.min_eq_left (by omega)).symm
 replace hmin:Hid _:=hmin
 have hcW:¬ W=cf:=by omega
 have hs2:=hsrc2.out w2 (G.trans S12)
 replace hs2:Hid _:=hs2
 have Rw:=R.since G
 have aa2:=(A.since S12).cell 2
 simp at aa2
 go_wp2_with (refine copy_byt rfl (.tmp 16) (.tmp 17) rfl C2 (off:=cf) (g:=g) (some ⟨c,cf,none⟩) (some ad) (W - cf) (W - cf) (ct - cf) cp (ct - cf) rfl rfl hmin.out (fun _=>⟨rfl,_,rfl,hs2.out⟩) (by omega) ?_;intro w3 C3 t3;have A3:=(A.since S12).touch t3 (by omega);have a2:=A3.cell 2;simp at a2)
 rw [hF.out] at C3
 have S3:=S12.touch t3 (by simp;omega)
 clear b0 aa2 hs2 hsrc2 a2 A3
 go_loopw [22] (fun i wr=>∃ (k:Nat),k≤n∧i=.int .i64 k∧Byt wr c W (lay q (ps.take k) F)∧Since ((w.alloc (.cells #[.int .u32 q,.string d,.slice a n cap,.int .i64 r] 33)).alloc (.cells #[.int .i64 (cf:Int),.int .i64 (ct:Int)] 167)) wr) (fun i _=>n - (intOf i).toNat)
 case atStart=>exact ⟨0,by omega,rfl,by rw [List.take_zero];exact C3,S3⟩
 case round=>
  obtain ⟨k,hk,rfl,C,S⟩:=hrel
  by_cases hlt:k<n
  ·have hlt':(k:Int)<(n:Int):=by omega
   obtain ⟨x,rfl,hb,p0,p1⟩:=(Rw.since S).prt k hlt
   obtain ⟨hp1,hp2⟩:=hp k hlt
   have hat:=okB_at _ _ _ k hkb.out (by rw [spans_len];omega)
   rw [spans_at q ps k (by omega)] at hat
   have hlay:=lay_take q ps k (by omega) F
   have hdist:=fun wx=>implDist q (pAt ps k).1 (distI q (pAt ps k).1) hq hp1 (distI_is _ _) wx
   generalize pAt ps k=O at p0 p1 hp1 hp2 hlay hdist hat
   unfold spn at hat
   simp only at hat
   obtain ⟨tn,htn⟩:=Int.eq_ofNat_of_zero_le (show 0≤distI q O.1 by omega)
   rw [htn] at hlay hdist hat
   rw [show ((tn:Nat):Int).toNat=tn by omega] at hlay
   replace hlay:Hid _:=hlay
   have htW:tn+O.2.size≤W:=by omega
   have htn2:tn<W:=by omega
   have htn3:¬ W=tn:=by omega
   have htn4:tn≤W:=by omega
   have X:=Blk.new wr #[.int .u32 O.1,.string O.2] 141
   have SY:=S.alloc (.cells #[.int .u32 O.1,.string O.2] 141)
   have CY:=C.since ((Since.refl wr).alloc (.cells #[.int .u32 O.1,.string O.2] 141))
   have AY:=A.since SY
   clear htn hat
   go_wp2
   obtain ⟨Y,hY⟩:∃ Y,wr.alloc (.cells #[.int .u32 O.1,.string O.2] 141)=Y:=⟨_,rfl⟩
   rw [hY] at X SY CY AY ⊢
   clear hY p0 p1 hp R Rw
   refine wp_region_tail (wb:=Y) 9 (fun i x v=>match i with
     | 0=>v=.slice (some ⟨c,0,none⟩) W W
     | 1=>v=.pointer (some ⟨w.heap.size,0,none⟩)
     | 2=>v=.int .u32 q
     | 3=>v=.pointer (some ⟨wr.heap.size,0,none⟩)
     | 4=>v=.int .u32 O.1
     | 5=>v=.int .i64 tn
     | 6=>v=.slice (some ⟨c,tn,none⟩) (W - tn) (W - tn)
     | 7=>v=.pointer (some ⟨wr.heap.size,1,none⟩)
     | 8=>v=.string O.2
     | _=>True) (fun v=>{tmps:=#[Value.agg #[Value.int IntKind.u32 q,Value.string d,Value.slice (some x) n cap,Value.int IntKind.i64 r],Value.agg #[Value.int IntKind.i64 (cf:Int),Value.int IntKind.i64 (ct:Int)],Value.slice (some ad) (ct - cf) cp,Value.pointer (some ⟨w.heap.size,0,none⟩),Value.pointer (some ⟨w.heap.size+1,0,none⟩),undef,Value.slice none 0 0,Value.slice (some ⟨c,0,none⟩) W W,undef,Value.pointer (some ⟨wr.heap.size,0,none⟩),Value.agg #[Value.int IntKind.u32 q,Value.string d,Value.slice (some x) n cap,Value.int IntKind.i64 r],Value.int IntKind.i64 (W:Int),Value.slice (some ⟨c,0,none⟩) W W,Value.slice (some ⟨c,0,none⟩) W W,Value.pointer (some ⟨w.heap.size+1,0,none⟩),Value.int IntKind.i64 (cf:Int),Value.slice (some ⟨c,cf,none⟩) (W - cf) (W - cf),Value.slice (some ad) (ct - cf) cp,Value.int IntKind.i64 ((ct - cf:Nat):Int),Value.pointer (some ⟨w.heap.size,2,none⟩),Value.slice (some x) n cap,Value.int IntKind.i64 (n:Int),Value.int IntKind.i64 (k:Int),Value.bool true,Value.pointer (some (x.add (k*2))),Value.agg #[Value.int IntKind.u32 O.fst,Value.string O.snd],v 0,v 1,v 2,v 3,v 4,v 5,v 6,v 7,v 8,u35,u36,undef],defers:=[]}) (by kernel_rfl) (by kernel_rfl) (by kernel_rfl) (Since.refl _) ?_ (fun vals=>by kernel_rfl) ?_ ?_
   case refine_1=>
    intro j x x' v h1 h2
    match j,h2 with
    | 0,h2|1,h2|2,h2|3,h2|4,h2|5,h2|6,h2|7,h2|8,h2=>exact h2
    | n+9,_=>trivial
   case refine_2=>
    repeat (first|exact eachDoes_nil|refine eachDoes_cons ?_ ?_)
    all_goals intro vals x hx hv
    all_goals simp [Region.binds] at hv
    ·have e1:=(X.since hx).cell 1
     simp at e1
     simp [does,doesUpon,go_sem,hv,e1,Since.refl]
    ·simp [does,doesUpon,go_sem,Since.refl]
    ·obtain ⟨h0,h5⟩:=hv
     simp [does,doesUpon,go_sem,h0,h5,Since.refl,htn3,htn4]
    ·obtain ⟨h2,h4⟩:=hv
     simp [does,doesUpon,go_sem,h2,h4]
     refine (hdist x).mono ?_
     rintro _ _ ⟨rfl,rfl⟩
     simp [Since.refl]
    ·have e0:=(X.since hx).cell 0
     simp at e0
     simp [does,doesUpon,go_sem,hv,e0,Since.refl]
    ·simp [does,doesUpon,go_sem,Since.refl]
    ·have e0:=(AY.since hx).cell 0
     simp at e0
     simp [does,doesUpon,go_sem,hv,e0,Since.refl]
    ·simp [does,doesUpon,go_sem,Since.refl]
    ·simp [does,doesUpon,go_sem,Since.refl]
   case refine_3=>
    intro vals x hx hv
    have h6:vals 6=_:=hv 6 (by decide)
    have h8:vals 8=_:=hv 8 (by decide)
    clear hv
    simp only [h6,h8]
    generalize vals 0=v0
    generalize vals 1=v1
    generalize vals 2=v2
    generalize vals 3=v3
    generalize vals 4=v4
    generalize vals 5=v5
    generalize vals 7=v7
    have CY2:=CY.since hx
    simp only [List.drop_succ_cons,List.drop_zero]
    go_wp2_with (refine copy_text rfl (.tmp 32) (.tmp 34) rfl CY2 (W - tn) (W - tn) O.2 rfl rfl (by omega) (by omega) ?_)
    intro w5 C5 t5
    rw [← hlay.out] at C5
    have S5:=(SY.trans hx).touch t5 (by simp;omega)
    go_wp2
    go_roundw
    case rel=>exact ⟨k+1,by omega,by go_num,C5,S5⟩
    case measure=>simp [intOf];omega
  ·have hkn:k=n:=by omega
   rw [List.take_of_length_le (by omega)] at C
   clear hp R Rw
   go_wp2
   go_ret
   exact ⟨c,rfl,C,by omega,G.trans S⟩
end Go.Proofs.YtmigalhmlofbkaaGreatDoor
