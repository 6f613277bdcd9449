/- A part of the proof. -/
import Derived.Test.YtmigalhmlofbkaaGreatDoorMH
set_option linter.unusedVariables false
set_option maxRecDepth 10000
set_option maxHeartbeats 2000000
namespace Go.Proofs.YtmigalhmlofbkaaGreatDoor
open Go.ChangeShapes Go.WideShapes Go.ChangeAt Go.RowKit Go.Deep
theorem specInRoom (q:Int) (d:ByteArray) (r:Int) (a:Option Addr) (n cap:Nat) (ps:List (Int×ByteArray)) (g:Good q d r n ps) (w:World) (R:Rd shP w a n ps) :
  Calls Tryz.prog 131 #[inVal q d (.slice a n cap) r] w fun e w'=>e=.returned (.int .i64 (inRoomN q d r ps))∧Since w w':=by
 have ho:=fun wx Rx=>specInOk q d r a n cap ps g wx Rx
 have hd:=g.hd
 have G:Since w (w.alloc (.cells #[.int .u32 q,.string d,.slice a n cap,.int .i64 r] 33)):=(Since.refl _).alloc _
 have A:=Blk.new w #[.int .u32 q,.string d,.slice a n cap,.int .i64 r] 33
 have ho1:=ho _ (R.since G)
 clear ho
 unfold inRoomN
 cases hk:inOk q d r ps
 ·rw [if_neg (by simp)]
  rw [hk] at ho1
  unfold inVal at *
  clear g R
  go_enter Tryz.func131,Tryz.ntmps131
  go_wp2_with (go_at_call 155;refine ho1.mono ?_;rintro _ w1 ⟨rfl,g1⟩)
  go_ret
  exact ⟨rfl,G.trans g1⟩
 ·rw [if_pos rfl]
  rw [hk] at ho1
  obtain ⟨⟨h1,h2⟩,h3,_⟩:=inOk_room hk
  have hsub:IntKind.i64.wrap (r - (d.size:Int))=r - (d.size:Int):=by rw [IntWalk.i64_left];exact IntWalk.wrap64_in _ ⟨by omega,by omega⟩
  unfold inVal at *
  clear g R
  go_enter Tryz.func131,Tryz.ntmps131
  go_wp2_with (go_at_call 155;refine ho1.mono ?_;rintro _ w1 ⟨rfl,g1⟩;have c1:=(A.since g1).cell 1;have c3:=(A.since g1).cell 3;simp at c1 c3)
  go_ret
  exact ⟨rfl,G.trans g1⟩
structure ChainE {α:Type} (g:Nat) (w:World) (k b:Nat) (L:List Nat) (C0:Array Value) (C1:α→Array Value) (H:α→World→Prop) (E:Nat→α→Value→Prop) (f:Nat→Bool) (vals:Nat→Value) (x:World):Prop where
 touch:Touch g w x
 pre:f b=true→f k=true∧∀ j,L.contains j=true→f j=true
 old:f b=false→Blk g x C0
 const:f k=false→∀ j,f j=true→∀ a,E j a (vals j)
 ex:f k=true→∃ a,H a x∧(∀ j,f j=true→E j a (vals j))∧(f b=true→Blk g x (C1 a))
section
variable {α:Type} {g:Nat} {w x z:World} {k b:Nat} {L:List Nat} {C0:Array Value} {C1:α→Array Value} {H:α→World→Prop} {E:Nat→α→Value→Prop} {f:Nat→Bool} {vals:Nat→Value}
theorem ChainE.start (B:Blk g w C0) (hf:∀ j,f j=false):ChainE g w k b L C0 C1 H E f vals w.drew:=
 ⟨(Touch.refl g w).drew,(fun h=>by rw [hf] at h;cases h),(fun _=>B.since ((Since.refl _).drew)),(fun _ j h=>by rw [hf] at h;cases h),(fun h=>by rw [hf] at h;cases h)⟩
theorem ChainE.val [Inhabited α] (h:ChainE g w k b L C0 C1 H E f vals x) {j:Nat} (hj:f j=true) {v:Value} (hc:∀ a u,E j a u→u=v):vals j=v:=by
 cases e:f k with
 | false=>exact hc default _ (h.const e j hj default)
 | true=>
  obtain ⟨a,_,he,_⟩:=h.ex e
  exact hc a _ (he j hj)
theorem ChainE.no_b (h:ChainE g w k b L C0 C1 H E f vals x) {i:Nat} (hf:f i=false) (hi:L.contains i=true):f b=false:=by
 cases e:f b with
 | false=>rfl
 | true=>rw [(h.pre e).2 i hi] at hf;cases hf
theorem ChainE.step (h:ChainE g w k b L C0 C1 H E f vals x) (i:Nat) (hb:b≠i) (hk:k≠i) (u:Value) (hu:∀ a,E i a u):ChainE g w k b L C0 C1 H E (andDone f i) (putVal vals i u) x:=by
 have eb:andDone f i b=f b:=if_neg hb
 have ek:andDone f i k=f k:=if_neg hk
 have hE:∀ a,(∀ j,f j=true→E j a (vals j))→∀ j,andDone f i j=true→E j a (putVal vals i u j):=by
  intro a ha j hj
  by_cases e:j=i
  ·subst e
   rw [show putVal vals j u j=u from if_pos rfl]
   exact hu a
  ·rw [show putVal vals i u j=vals j from if_neg e]
   exact ha j (by rw [show andDone f i j=f j from if_neg e] at hj;exact hj)
 refine ⟨h.touch,?_,by rw [eb];exact h.old,?_,?_⟩
 ·rw [eb,ek]
  intro e
  obtain ⟨h1,h2⟩:=h.pre e
  refine ⟨h1,fun j hj=>?_⟩
  unfold andDone
  split
  ·rfl
  ·exact h2 j hj
 ·rw [ek]
  intro e j hj a
  exact hE a (fun j hj=>h.const e j hj a) j hj
 ·rw [ek,eb]
  intro e
  obtain ⟨a,h1,h2,h3⟩:=h.ex e
  exact ⟨a,h1,hE a h2,h3⟩
theorem ChainE.dep (h:ChainE g w k b L C0 C1 H E f vals x) (i:Nat) (hb:b≠i) (hk:k≠i) (u:Value) (hf:f k=true) (a:α) (Ha:H a x) (Ea:∀ j,f j=true→E j a (vals j)) (Ba:f b=true→Blk g x (C1 a)) (hu:E i a u):ChainE g w k b L C0 C1 H E (andDone f i) (putVal vals i u) x:=by
 have eb:andDone f i b=f b:=if_neg hb
 have ek:andDone f i k=f k:=if_neg hk
 refine ⟨h.touch,?_,by rw [eb];exact h.old,(fun e=>by rw [ek,hf] at e;cases e),fun _=>⟨a,Ha,?_,by rw [eb];exact Ba⟩⟩
 ·rw [eb,ek]
  intro e
  obtain ⟨h1,h2⟩:=h.pre e
  refine ⟨h1,fun j hj=>?_⟩
  unfold andDone
  split
  ·rfl
  ·exact h2 j hj
 ·intro j hj
  by_cases e:j=i
  ·subst e
   rw [show putVal vals j u j=u from if_pos rfl]
   exact hu
  ·rw [show putVal vals i u j=vals j from if_neg e]
   exact Ea j (by rw [show andDone f i j=f j from if_neg e] at hj;exact hj)
theorem ChainE.call (h:ChainE g w k b L C0 C1 H E f vals x) (hne:b≠k) (hf:f k=false) (u:Value) (a:α) (s:Since x z) (Ha:H a z) (hu:E k a u):ChainE g w k b L C0 C1 H E (andDone f k) (putVal vals k u) z:=by
 have eb:andDone f k b=f b:=if_neg hne
 have ek:andDone f k k=true:=if_pos rfl
 have hb:f b=false:=by
  cases e:f b with
  | false=>rfl
  | true=>rw [(h.pre e).1] at hf;cases hf
 refine ⟨h.touch.trans (touch_of s),(fun e=>by rw [eb,hb] at e;cases e),(fun _=>(h.old hb).since s),(fun e=>by rw [ek] at e;cases e),fun _=>⟨a,Ha,?_,(fun e=>by rw [eb,hb] at e;cases e)⟩⟩
 intro j hj
 by_cases e:j=k
 ·subst e
  rw [show putVal vals j u j=u from if_pos rfl]
  exact hu
 ·rw [show putVal vals k u j=vals j from if_neg e]
  exact h.const hf j (by rw [show andDone f k j=f j from if_neg e] at hj;exact hj) a
theorem ChainE.put (h:ChainE g w k b L C0 C1 H E f vals x) (hne:k≠b) (hk:f k=true) (hl:∀ j,L.contains j=true→f j=true) (a:α) (Ea:∀ j,f j=true→E j a (vals j)) (t:Touch g x z) (B:Blk g z (C1 a)) (Ha:H a z) (u:Value) (hu:E b a u):ChainE g w k b L C0 C1 H E (andDone f b) (putVal vals b u) z:=by
 have ek:andDone f b k=true:=(if_neg hne).trans hk
 have eb:andDone f b b=true:=if_pos rfl
 refine ⟨h.touch.trans t,fun _=>⟨ek,fun j hj=>?_⟩,(fun e=>by rw [eb] at e;cases e),(fun e=>by rw [ek] at e;cases e),fun _=>⟨a,Ha,?_,fun _=>B⟩⟩
 ·unfold andDone
  split
  ·rfl
  ·exact hl j hj
 ·intro j hj
  by_cases e:j=b
  ·subst e
   rw [show putVal vals j u j=u from if_pos rfl]
   exact hu
  ·rw [show putVal vals b u j=vals j from if_neg e]
   exact Ea j (by rw [show andDone f b j=f j from if_neg e] at hj;exact hj)
end
def inS (s:Int×Int) (i:Nat):Bool:=decide (s.1≤(i:Int)∧(i:Int)<s.2)
def cov:List (Int×Int)→Nat→Bool
 | [],_=>false
 | s :: r,i=>inS s i || cov r i
theorem inS_iff (s:Int×Int) (i:Nat):inS s i=true↔s.1≤(i:Int)∧(i:Int)<s.2:=by simp [inS]
theorem cov_low:∀ (l:List (Int×Int)) (e W:Int) (i:Nat),okB e W l=true→cov l i=true→e<(i:Int)∧(i:Int)<W
 | [],e,W,i,h,hc=>by simp [cov] at hc
 | s :: r,e,W,i,h,hc=>by
  simp only [okB,Bool.and_eq_true,decide_eq_true_eq] at h
  simp only [cov,Bool.or_eq_true,inS_iff] at hc
  rcases hc with hc|hc
  ·omega
  ·have:=cov_low r s.2 W i h.2 hc
   omega
def joinR:List (Int×Int)→Int×Int→List (Int×Int)
 | [],s=>[s]
 | o :: r,s=>if o.2<s.1 then o :: joinR r s else if s.2<o.1 then s :: joinR r o else joinR r (min s.1 o.1,max s.2 o.2)
theorem joinR_ok:∀ (l:List (Int×Int)) (s:Int×Int) (e0 e W:Int),okB e W l=true→e0<s.1→e0≤e→s.1<s.2→s.2≤W→okB e0 W (joinR l s)=true
 | [],s,e0,e,W,_,h1,_,h3,h4=>by
  simp only [joinR,okB,Bool.and_true,decide_eq_true_eq]
  omega
 | o :: r,s,e0,e,W,h,h1,h2,h3,h4=>by
  simp only [okB,Bool.and_eq_true,decide_eq_true_eq] at h
  obtain ⟨⟨k1,k2,k3⟩,k4⟩:=h
  unfold joinR
  by_cases c1:o.2<s.1
  ·rw [if_pos c1]
   simp only [okB,Bool.and_eq_true,decide_eq_true_eq]
   exact ⟨by omega,joinR_ok r s o.2 o.2 W k4 c1 (by omega) h3 h4⟩
  ·rw [if_neg c1]
   by_cases c2:s.2<o.1
   ·rw [if_pos c2]
    simp only [okB,Bool.and_eq_true,decide_eq_true_eq]
    exact ⟨by omega,joinR_ok r o s.2 o.2 W k4 c2 (by omega) k2 k3⟩
   ·rw [if_neg c2]
    exact joinR_ok r _ e0 o.2 W k4 (by simp only;omega) (by omega) (by simp only;omega) (by simp only;omega)
theorem joinR_cov (i:Nat):∀ (l:List (Int×Int)) (s:Int×Int) (e W:Int),okB e W l=true→s.1<s.2→cov (joinR l s) i=(cov l i || inS s i)
 | [],s,e,W,_,_=>by simp [joinR,cov]
 | o :: r,s,e,W,h,hs=>by
  simp only [okB,Bool.and_eq_true,decide_eq_true_eq] at h
  obtain ⟨⟨k1,k2,k3⟩,k4⟩:=h
  unfold joinR
  by_cases c1:o.2<s.1
  ·rw [if_pos c1]
   simp only [cov,joinR_cov i r s o.2 W k4 hs,Bool.or_assoc]
  ·rw [if_neg c1]
   by_cases c2:s.2<o.1
   ·rw [if_pos c2]
    simp only [cov,joinR_cov i r o o.2 W k4 k2]
    cases inS s i<;>cases inS o i<;>cases cov r i<;>rfl
   ·rw [if_neg c2,joinR_cov i r _ o.2 W k4 (by simp only;omega)]
    have e1:inS (min s.1 o.1,max s.2 o.2) i=(inS o i || inS s i):=by
     rw [Bool.eq_iff_iff]
     simp only [inS_iff,Bool.or_eq_true]
     omega
    rw [e1]
    simp only [cov]
    cases inS s i<;>cases inS o i<;>cases cov r i<;>rfl
def cnt (p:Nat→Bool):Nat→Nat
 | 0=>0
 | n+1=>cnt p n+(p n).toNat
theorem cnt_congr (p q:Nat→Bool):∀ n,(∀ i,i<n→p i=q i)→cnt p n=cnt q n
 | 0,_=>rfl
 | n+1,h=>by rw [cnt,cnt,cnt_congr p q n (fun i hi=>h i (by omega)),h n (by omega)]
theorem cnt_or (p q:Nat→Bool):∀ n,cnt (fun i=>p i || q i) n=cnt p n+cnt (fun i=>!p i && q i) n
 | 0=>rfl
 | n+1=>by
  simp only [cnt,cnt_or p q n]
  generalize cnt p n=x
  generalize cnt (fun i=>!p i && q i) n=y
  generalize p n=u
  generalize q n=v
  cases u<;>cases v<;>simp [Bool.toNat]<;>omega
theorem cnt_none (n:Nat):cnt (fun _=>false) n=0:=by
 induction n with
 | zero=>rfl
 | succ n ih=>simp [cnt,ih]
theorem cnt_le (p:Nat→Bool):∀ n,cnt p n≤n
 | 0=>Nat.le_refl _
 | n+1=>by
  have:=cnt_le p n
  unfold cnt
  cases p n<;>simp [Bool.toNat]<;>omega
theorem cnt_between (a b:Int) (h0:0≤a) (hab:a≤b):∀ n:Nat,(cnt (inS (a,b)) n:Int)=min (max ((n:Int) - a) 0) (b - a)
 | 0=>by simp [cnt];omega
 | n+1=>by
  have ih:=cnt_between a b h0 hab n
  simp only [cnt,Int.natCast_add,ih]
  cases h:inS (a,b) n
  ·have h':¬ (a≤(n:Int)∧(n:Int)<b):=fun hh=>by rw [(inS_iff (a,b) n).2 hh] at h;cases h
   simp [Bool.toNat]
   omega
  ·have h':=(inS_iff (a,b) n).1 h
   simp [Bool.toNat]
   simp only at h'
   omega
theorem sumS_cnt:∀ (l:List (Int×Int)) (e:Int) (W:Nat),okB e W l=true→-1≤e→sumS l=(cnt (cov l) W:Int)
 | [],e,W,_,_=>by
  have:cnt (cov []) W=0:=(cnt_congr (cov []) (fun _=>false) W (fun i _=>rfl)).trans (cnt_none W)
  simp [sumS,this]
 | s :: r,e,W,h,he=>by
  have h':=h
  simp only [okB,Bool.and_eq_true,decide_eq_true_eq] at h
  obtain ⟨⟨k1,k2,k3⟩,k4⟩:=h
  have ih:=sumS_cnt r s.2 W k4 (by omega)
  have e1:cnt (cov (s :: r)) W=cnt (inS s) W+cnt (fun i=>!inS s i && cov r i) W:=by
   rw [← cnt_or]
   rfl
  have e2:cnt (fun i=>!inS s i && cov r i) W=cnt (cov r) W:=by
   apply cnt_congr
   intro i _
   cases hc:cov r i
   ·simp
   ·have:=cov_low r s.2 W i k4 hc
    have:inS s i=false:=by simp [inS];omega
    simp [this]
  have e3:=cnt_between s.1 s.2 (by omega) (by omega) W
  rw [sumS,ih,e1,e2]
  have:(cnt (inS s) W:Int)=s.2 - s.1:=by
   rw [show inS s=inS (s.1,s.2) from rfl,e3]
   omega
  omega
def lay (q:Int):List (Int×ByteArray)→(Nat→Int)→Nat→Int
 | [],f=>f
 | p :: r,f=>lay q r (over f (distI q p.1).toNat p.2.size (byteAt p.2))
theorem lay_snoc (q:Int):∀ (ps:List (Int×ByteArray)) (p:Int×ByteArray) (f:Nat→Int),lay q (ps++[p]) f=over (lay q ps f) (distI q p.1).toNat p.2.size (byteAt p.2)
 | [],p,f=>rfl
 | o :: r,p,f=>by
  show lay q (r++[p]) _=_
  rw [lay_snoc q r p]
  rfl
theorem over_or (f:Nat→Int) (off k:Nat) (g:Nat→Int) (i:Nat):over f off k g i=if off≤i∧i<off+k then g (i - off) else f i:=rfl
theorem lay_out (q:Int) (i:Nat):∀ (ps:List (Int×ByteArray)) (f:Nat→Int) (e W:Int),okB e W (spans q ps)=true→-1≤e→cov (spans q ps) i=false→lay q ps f i=f i
 | [],f,e,W,_,_,_=>rfl
 | p :: r,f,e,W,h,he,hc=>by
  simp only [spans,List.map_cons,okB,Bool.and_eq_true,decide_eq_true_eq] at h
  simp only [spans,List.map_cons,cov,Bool.or_eq_false_iff] at hc
  show lay q r _ i=_
  rw [lay_out q i r _ (spn q p).2 W h.2 (by omega) hc.2,over_or,if_neg]
  intro hh
  have:inS (spn q p) i=true:=by
   rw [inS_iff]
   unfold spn at h ⊢
   simp only at h ⊢
   omega
  rw [this] at hc
  cases hc.1
theorem lay_in (q:Int) (i:Nat):∀ (ps:List (Int×ByteArray)) (f g:Nat→Int) (e W:Int),okB e W (spans q ps)=true→-1≤e→cov (spans q ps) i=true→lay q ps f i=lay q ps g i∧0≤lay q ps f i∧lay q ps f i<256
 | [],f,g,e,W,_,_,hc=>by simp [spans,cov] at hc
 | p :: r,f,g,e,W,h,he,hc=>by
  simp only [spans,List.map_cons,okB,Bool.and_eq_true,decide_eq_true_eq] at h
  have h2:okB (spn q p).2 W (spans q r)=true:=h.2
  show lay q r _ i=lay q r _ i∧0≤lay q r _ i∧lay q r _ i<256
  by_cases hr:cov (spans q r) i=true
  ·exact lay_in q i r _ _ (spn q p).2 W h2 (by omega) hr
  ·have hr':cov (spans q r) i=false:=by simpa using hr
   have hs:inS (spn q p) i=true:=by
    simp only [spans,List.map_cons,cov,Bool.or_eq_true] at hc
    rcases hc with hc|hc
    ·exact hc
    ·exact absurd hc hr
   rw [inS_iff] at hs
   rw [lay_out q i r _ (spn q p).2 W h2 (by omega) hr',lay_out q i r _ (spn q p).2 W h2 (by omega) hr',over_or,over_or]
   unfold spn at hs h
   simp only at hs h
   rw [if_pos (by omega),if_pos (by omega)]
   exact ⟨rfl,byteAt_range _ _⟩
theorem lay_part (q:Int):∀ (ps:List (Int×ByteArray)) (f:Nat→Int) (e W:Int),okB e W (spans q ps)=true→-1≤e→∀ p∈ps,∀ i,i<p.2.size→lay q ps f ((distI q p.1).toNat+i)=byteAt p.2 i
 | [],f,e,W,_,_,p,hp,i,hi=>by cases hp
 | o :: r,f,e,W,h,he,p,hp,i,hi=>by
  simp only [spans,List.map_cons,okB,Bool.and_eq_true,decide_eq_true_eq] at h
  have h2:okB (spn q o).2 W (spans q r)=true:=h.2
  show lay q r _ _=_
  rcases List.mem_cons.1 hp with rfl|hp
  ·have hr:cov (spans q r) ((distI q p.1).toNat+i)=false:=by
    cases hc:cov (spans q r) ((distI q p.1).toNat+i)
    ·rfl
    ·have:=cov_low _ _ W _ h2 hc
     unfold spn at this h
     simp only at this h
     omega
   rw [lay_out q _ r _ (spn q p).2 W h2 (by omega) hr,over_or,if_pos (by omega)]
   congr 1
   omega
  ·exact lay_part q r _ (spn q o).2 W h2 (by omega) p hp i hi
theorem okB_at:∀ (l:List (Int×Int)) (e W:Int) (k:Nat),okB e W l=true→k<l.length→e<(sAt l k).1∧(sAt l k).1<(sAt l k).2∧(sAt l k).2≤W
 | [],e,W,k,h,hk=>by simp at hk
 | s :: r,e,W,0,h,hk=>by
  simp only [okB,Bool.and_eq_true,decide_eq_true_eq] at h
  simpa [sAt] using h.1
 | s :: r,e,W,k+1,h,hk=>by
  simp only [okB,Bool.and_eq_true,decide_eq_true_eq] at h
  have:=okB_at r s.2 W k h.2 (by simpa using hk)
  have e1:sAt (s :: r) (k+1)=sAt r k:=by simp [sAt,List.getD]
  rw [e1]
  omega
theorem spanWith (s o:Int×Int) (w:World) :
  Calls Tryz.prog 164 #[spVal s,spVal o] w fun e w'=>e=.returned (spVal (min s.1 o.1,max s.2 o.2))∧Since w w':=by
 unfold spVal
 obtain ⟨s1,s2⟩:=s
 obtain ⟨o1,o2⟩:=o
 simp only
 obtain ⟨x,hx⟩:∃ x,min s1 o1=x:=⟨_,rfl⟩
 obtain ⟨y,hy⟩:∃ y,max s2 o2=y:=⟨_,rfl⟩
 have hx':(if o1<s1 then o1 else s1)=x:=by rw [← hx];split<;>omega
 have hy':(if s2<o2 then o2 else s2)=y:=by rw [← hy];split<;>omega
 rw [hx,hy]
 go_enter Tryz.func164,Tryz.ntmps164
 go_wp2
 refine bodyPost_ret (v:=.agg #[.int .i64 x,.int .i64 y]) ?_ rfl ⟨rfl,?_⟩
 ·simp [results,go_sem]
 ·repeat (first|exact Since.refl _|refine since_put1 ?_ (by simp;try omega) _ _|refine Since.alloc ?_ _)
theorem spanWithin (s:Int×Int) (n:Int) (w:World) :
  Calls Tryz.prog 144 #[spVal s,.int .i64 n] w fun e w'=>e=.returned (spVal (max s.1 0,min s.2 n))∧Since w w':=by
 unfold spVal
 obtain ⟨s1,s2⟩:=s
 simp only
 obtain ⟨x,hx⟩:∃ x,max s1 0=x:=⟨_,rfl⟩
 obtain ⟨y,hy⟩:∃ y,min s2 n=y:=⟨_,rfl⟩
 have hx':(if s1<0 then 0 else s1)=x:=by rw [← hx];split<;>omega
 have hy':(if n<s2 then n else s2)=y:=by rw [← hy];split<;>omega
 rw [hx,hy]
 go_enter Tryz.func144,Tryz.ntmps144
 go_wp2
 refine bodyPost_ret (v:=.agg #[.int .i64 x,.int .i64 y]) ?_ rfl ⟨rfl,?_⟩
 ·simp [results,go_sem]
 ·repeat (first|exact Since.refl _|refine since_put1 ?_ (by simp;try omega) _ _|refine Since.alloc ?_ _)
theorem joinR_step {l:List (Int×Int)} {k:Nat} (h:k<l.length) (s:Int×Int):joinR (l.drop k) s=if (sAt l k).2<s.1 then sAt l k :: joinR (l.drop (k+1)) s else if s.2<(sAt l k).1 then s :: joinR (l.drop (k+1)) (sAt l k) else joinR (l.drop (k+1)) (min s.1 (sAt l k).1,max s.2 (sAt l k).2):=by
 rw [List.drop_eq_getElem_cons h,joinR,sAt_lt h]
theorem joined (a:Option Addr) (n cap:Nat) (l:List (Int×Int)) (s0:Int×Int) (hn:n≤1048576) (w:World) (R:Rd shS w a n l) :
  Calls Tryz.prog 145 #[.slice a n cap,spVal s0] w fun e w'=>∃ b m c,e=.returned (.slice (some ⟨b,0,none⟩) m c)∧Held shS w' w.heap.size b m c (joinR l s0)∧Since w w':=by
 have hlen:=R.len
 unfold spVal
 have T0:=Held.empty (S:=shS) (w.alloc (.cells #[.int .i64 s0.1,.int .i64 s0.2] 167))
 have A0:=(Blk.new w #[.int .i64 s0.1,.int .i64 s0.2] 167).since ((Since.refl _).alloc (.cells #[] 167))
 have G0:Since w ((w.alloc (.cells #[.int .i64 s0.1,.int .i64 s0.2] 167)).alloc (.cells #[] 167)):=((Since.refl _).alloc _).alloc _
 simp only [World.size_alloc] at T0
 obtain ⟨J,hJ⟩:∃ J,Hid (joinR l s0=J):=⟨_,rfl⟩
 rw [hJ.out]
 go_enter Tryz.func145,Tryz.ntmps145
 go_wp2
 go_loopw [5,11] (fun v i wr=>∃ (k g m c:Nat) (out:List (Int×Int)) (s:Int×Int),k≤n∧m≤k∧i=.int .i64 k∧v=.slice (some ⟨g,0,none⟩) m c∧Held shS wr (w.heap.size+1) g m c out∧Blk w.heap.size wr #[.int .i64 s.1,.int .i64 s.2]∧Hid (out++joinR (l.drop k) s=J)∧Since w wr) (fun _ i _=>n - (intOf i).toNat)
 case atStart=>exact ⟨0,w.heap.size+1,0,0,[],s0,by omega,by omega,rfl,rfl,T0,A0,by simpa using hJ,G0⟩
 case round=>
  obtain ⟨k,g,m,c,out,s,hk,hm,rfl,rfl,T,A,hj,Sr⟩:=hrel
  have hlo:=T.low'
  have hhi:=T.lt
  have hAl:=A.lt
  by_cases hlt:k<n
  ·have hlt':(k:Int)<(n:Int):=by omega
   obtain ⟨x,rfl,hb,p0,p1⟩:=(R.since Sr).sp k hlt
   have hj2:=hj.out
   rw [joinR_step (by omega)] at hj2
   generalize sAt l k=o at p0 p1 hj2
   have gY:=(Since.refl wr).alloc (.cells #[.int .i64 o.1,.int .i64 o.2] 167)
   have TY:=T.since gY
   have AY:=A.since gY
   have XY:=Blk.new wr #[.int .i64 o.1,.int .i64 o.2] 167
   have a0:=AY.cell 0
   have a1:=AY.cell 1
   simp at a0 a1
   have z0:=AY.fz 0
   have z1:=AY.fz 1
   clear R T0 A0 hj hJ
   by_cases c1:o.2<s.1
   ·rw [if_pos c1] at hj2
    replace hj2:Hid _:=hj2
    have gZ:=gY.alloc (.cells #[.int .i64 o.1,.int .i64 o.2] 167)
    have TZ:=T.since gZ
    have AZ:=A.since gZ
    have RZ:=Rd.one (S:=shS) (wr.alloc (.cells #[.int .i64 o.1,.int .i64 o.2] 167)) o 167 (wr.heap.size+1) (by simp)
    go_wp2_with (at_builtin;refine app_own (v:=.slice (some ⟨g,0,none⟩) m c) laidS rfl _ _ rfl rfl TZ rfl RZ (by omega) (by unfold maxLen;omega) (by omega) (by simp;omega) _ rfl ?_;intro g' c' w5 T5 hg5 hat5)
    have t5:Touch g _ w5:=⟨hg5.os,hg5.tape,hg5.output,hg5.size,fun j hj hne=>hg5.block j hj (by simp [Value.ownBlock];omega)⟩
    have A5:=AZ.touch t5 (by omega)
    have S5:=(Sr.trans gZ).touch t5 (by omega)
    go_roundw
    case rel=>exact ⟨k+1,g',m+1,c',out++[o],s,by omega,by omega,by go_num,rfl,T5,A5,by rw [Hid,List.append_assoc];exact hj2.out,S5⟩
    case measure=>simp [intOf];omega
   ·rw [if_neg c1] at hj2
    by_cases c2:s.2<o.1
    ·rw [if_pos c2] at hj2
     replace hj2:Hid _:=hj2
     have gZ:=gY.alloc (.cells #[.int .i64 s.1,.int .i64 s.2] 167)
     have TZ:=T.since gZ
     have AZ:=A.since gZ
     have XZ:=XY.since ((Since.refl _).alloc (.cells #[.int .i64 s.1,.int .i64 s.2] 167))
     have RZ:=Rd.one (S:=shS) (wr.alloc (.cells #[.int .i64 o.1,.int .i64 o.2] 167)) s 167 (wr.heap.size+1) (by simp)
     go_wp2_with (at_builtin;refine app_own (v:=.slice (some ⟨g,0,none⟩) m c) laidS rfl _ _ rfl rfl TZ rfl RZ (by omega) (by unfold maxLen;omega) (by omega) (by simp;omega) _ rfl ?_;intro g' c' w5 T5 hg5 hat5;have t5:Touch g _ w5:=⟨hg5.os,hg5.tape,hg5.output,hg5.size,fun j hj hne=>hg5.block j hj (by simp [Value.ownBlock];omega)⟩;have A5:=AZ.touch t5 (by omega);have X5:=XZ.touch t5 (by omega);have x0:=X5.cell 0;have x1:=X5.cell 1;have y0:=A5.cell 0;have y1:=A5.cell 1;simp at x0 x1 y0 y1;have u0:=A5.fz 0;have u1:=A5.fz 1)
     have S5:=(Sr.trans gZ).touch t5 (by omega)
     have hgl:=T5.low'
     have A6:=(A5.put 0 (.int .i64 o.1) (by simp)).put 1 (.int .i64 o.2) (by simp)
     have T6:=(T5.other (show g'≠w.heap.size by omega) 0 (.int .i64 o.1)).other (show g'≠w.heap.size by omega) 1 (.int .i64 o.2)
     go_roundw
     case rel=>exact ⟨k+1,g',m+1,c',out++[s],o,by omega,by omega,by go_num,rfl,T6,by simpa using A6,by rw [Hid,List.append_assoc];exact hj2.out,since_put1 (since_put1 S5 (by omega) _ _) (by omega) _ _⟩
     case measure=>simp [intOf];omega
    ·rw [if_neg c2] at hj2
     replace hj2:Hid _:=hj2
     have hw:=fun wx=>spanWith s o wx
     unfold spVal at hw
     generalize min s.1 o.1=m1 at hw hj2
     generalize max s.2 o.2=m2 at hw hj2
     have x0:=XY.cell 0
     have x1:=XY.cell 1
     simp at x0 x1
     go_wp2_with (go_at_call 164;refine (hw _).mono ?_;rintro _ w5 ⟨rfl,g5⟩;have A5:=AY.since g5;have y0:=A5.cell 0;have y1:=A5.cell 1;simp at y0 y1;have u0:=A5.fz 0;have u1:=A5.fz 1)
     have A6:=(A5.put 0 (.int .i64 m1) (by simp)).put 1 (.int .i64 m2) (by simp)
     have T6:=((TY.since g5).other (show g≠w.heap.size by omega) 0 (.int .i64 m1)).other (show g≠w.heap.size by omega) 1 (.int .i64 m2)
     go_roundw
     case rel=>exact ⟨k+1,g,m,c,out,(m1,m2),by omega,by omega,by go_num,rfl,T6,by simpa using A6,hj2,since_put1 (since_put1 (Sr.trans (gY.trans g5)) (by omega) _ _) (by omega) _ _⟩
     case measure=>simp [intOf];omega
  ·have hkn:k=n:=by omega
   have hj2:=hj.out
   rw [List.drop_eq_nil_of_le (by omega),joinR] at hj2
   replace hj2:Hid _:=hj2
   have a0:=A.cell 0
   have a1:=A.cell 1
   simp at a0 a1
   have gZ:=(Since.refl wr).alloc (.cells #[.int .i64 s.1,.int .i64 s.2] 167)
   have TZ:=T.since gZ
   have RZ:=Rd.one (S:=shS) wr s 167 wr.heap.size rfl
   clear R T0 A0 hj hJ
   go_wp2_with (at_builtin;refine app_own (v:=.slice (some ⟨g,0,none⟩) m c) laidS rfl _ _ rfl rfl TZ rfl RZ (by omega) (by unfold maxLen;omega) (by omega) (by simp;omega) _ rfl ?_;intro g' c' w5 T5 hg5 hat5)
   have S5:=since_grown (Sr.trans gZ) hg5 (fun j e=>by have e':g=j:=(by simpa [Value.ownBlock] using e);omega)
   have hgl:=T5.low'
   go_ret
   exact ⟨g',m+1,c',rfl,by rw [← hj2.out];exact T5.raise (by omega),S5⟩
end Go.Proofs.YtmigalhmlofbkaaGreatDoor
namespace Go.Proofs.YtmigalhmlofbkaaGreatDoor
open Go.ChangeShapes Go.WideShapes Go.ChangeAt Go.RowKit
def IsWordOf (n v:Int):Prop:=0≤v∧v<4294967296∧(n - v) % 4294967296=0
theorem implWord (n v:Int) (hv:IsWordOf n v) (w:World) :
  Calls Tryz.prog 58 #[.int .i64 n] w fun e w'=>e=.returned (.int .u32 v)∧w=w':=by
 obtain ⟨h1,h2,h3⟩:=hv
 have e1:n % 4294967296=v:=by omega
 go_enter Tryz.func58,Tryz.ntmps58
 go_wp2
 go_ret
 exact ⟨by simp [e1],rfl⟩
theorem tmod_way (n m:Int) (hm:0<m):(n.tmod m - n) % m=0∧-m<n.tmod m∧n.tmod m<m:=by
 have h1:=Int.tmod_add_mul_tdiv n m
 have h2:=Int.tmod_lt_of_pos n hm
 have h3:-m<n.tmod m:=by
  by_cases h:0≤n
  ·have:=Int.tmod_nonneg m h
   omega
  ·have:=Int.tmod_lt_of_pos (-n) hm
   rw [Int.neg_tmod] at this
   omega
 refine ⟨?_,h3,h2⟩
 have h4:n.tmod m - n=m*(-(n.tdiv m)):=by
  rw [Int.mul_neg]
  omega
 rw [h4]
 exact Int.mul_emod_right _ _
theorem specWord (n v:Int) (hv:IsWordOf n v) (w:World) :
  Calls Tryz.prog 129 #[.int .i64 n] w fun e w'=>e=.returned (.int .u32 v)∧w=w':=by
 obtain ⟨h1,h2,h3⟩:=hv
 obtain ⟨t1,t2,t3⟩:=tmod_way n 4294967296 (by omega)
 generalize ht:n.tmod 4294967296=t at t1 t2 t3
 by_cases h:t<0
 ·go_enter Tryz.func129,Tryz.ntmps129
  go_wp2
  go_ret
  have e1:t+4294967296=v:=by omega
  exact ⟨by simp [e1],rfl⟩
 ·go_enter Tryz.func129,Tryz.ntmps129
  go_wp2
  go_ret
  have e1:t=v:=by omega
  exact ⟨by simp [e1],rfl⟩
end Go.Proofs.YtmigalhmlofbkaaGreatDoor
namespace Go.Proofs.YtmigalhmlofbkaaGreatDoor
open Go.ChangeShapes Go.WideShapes Go.ChangeAt Go.RowKit Go.Deep
theorem laidP:Laid shP 31 24:=by
 obtain ⟨ii,hi,hz0,hz1,hz2⟩:=info_parts info_P
 exact ⟨Tryz.underlying31,ii,_,hi,hz0,hz1,hz2,rfl⟩
def readN (q:Int) (d:ByteArray) (r:Int) (ps:List (Int×ByteArray)) (n:Int):Nat:=if inOk q d r ps=true∧0≤n∧n≤4096 then min n.toNat d.size else 0
def readD (q:Int) (d:ByteArray) (r:Int) (ps:List (Int×ByteArray)) (n:Int):ByteArray:=if inOk q d r ps=true∧0≤n∧n≤4096 then d.extract (readN q d r ps n) d.size else d
def readT (q:Int) (d:ByteArray) (r:Int) (ps:List (Int×ByteArray)) (n:Int):ByteArray:=if inOk q d r ps=true∧0≤n∧n≤4096 then d.extract 0 (readN q d r ps n) else ⟨#[]⟩
end Go.Proofs.YtmigalhmlofbkaaGreatDoor
