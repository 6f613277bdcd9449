/- A part of the proof. -/
import Derived.Test.YtmigalhmlofbkaaGreatDoorConnS1
import Derived.Test.YtmigalhmlofbkaaGreatDoorM20
import Derived.Test.YtmigalhmlofbkaaGreatDoorMF
set_option linter.unusedVariables false
set_option maxRecDepth 10000
namespace Go.Proofs.YtmigalhmlofbkaaGreatDoor
open Go.ChangeShapes Go.WideShapes Go.ChangeAt Go.RowKit
section
variable {P:Program} {ops:Array Oper} {Q:Exit→Act→World→Prop} {a0:Act} {wb:World} {V:Nat→World→Value→Prop}
theorem Kept.put_any {listed:Array Bool} {vals:Nat→Value} {a:Act} {w w':World} (h:Kept ops a0 wb V listed vals a w) (hsi:Since wb w') (hstab:∀ j v,V j w v→V j w' v)
  (hs:settled ops a0.tmps.size=true) {i:Nat} {o:Oper} (ho:ops[i]?=some o) {u:Value} (hu:V i w' u) :
  Kept ops a0 wb V (listed.setIfInBounds i true) (fun j=>if j=i then u else vals j) (a.put o.dst u) w':=by
 obtain ⟨_,_,hd,_⟩:=settled_at hs ho
 refine ⟨hsi,?_,?_,?_,?_,?_⟩
 ·cases hdst:o.dst<;>simp [Act.put,h.defers]
 ·cases hdst:o.dst<;>simp [Act.put,h.size]
 ·intro t ht
  cases hdst:o.dst with
  | none=>exact h.base t ht
  | some d=>
   have hne:d≠t:=fun e=>by
    subst e
    rw [(hd d hdst).1] at ht
    cases ht
   simp only [Act.put,Array.getElem?_setIfInBounds_ne hne]
   exact h.base t ht
 ·intro t j hj hl hlt
  by_cases hji:j=i
  ·subst hji
   simp only [if_true]
   have hdst:o.dst=some t:=by
    have:=List.find?_some hj
    simpa [ho] using this
   have hta:t<a.tmps.size:=by rw [h.size];exact hlt
   simp only [Act.put,hdst]
   simp [hta]
  ·have hl':listed.getD j false=true:=(getD_set_or hl).resolve_left hji
   simp only [hji,if_false]
   cases hdst:o.dst with
   | none=>exact h.made t j hj hl' hlt
   | some d=>
    have hne:d≠t:=fun e=>by
     subst e
     rw [(hd d hdst).1] at hj
     exact hji (by simpa using hj.symm)
    simp only [Act.put,Array.getElem?_setIfInBounds_ne hne]
    exact h.made t j hj hl' hlt
 ·intro j hl
  by_cases hji:j=i
  ·subst hji
   simpa using hu
  ·simp only [hji,if_false]
   exact hstab j _ (h.has j ((getD_set_or hl).resolve_left hji))
theorem wpAny_store {s:Nat} {S:(Nat→Value)→World→Prop} (hs0:s<ops.size) (hs:settled ops a0.tmps.size=true) (hst:∀ j w w' v,Since w w'→V j w v→V j w' v)
  (hS1:∀ vals w w',Since w w'→S vals w→S vals w') (hS2:∀ vals vals' w,(∀ o,ops[s]?=some o→∀ e∈o.after,Region.binds .any e=true→vals e.on=vals' e.on)→S vals w→S vals' w) (hVs:∀ w v,V s w v)
  (hopS:∀ o,ops[s]?=some o→∀ vals w,Since wb w→(∀ e∈o.after,Region.binds .any e=true→V e.on w (vals e.on))→does P o (filled ops a0 vals) w fun v w'=>Since wb w'∧(∀ j u,V j w u→V j w' u)∧S vals w')
  (hop:∀ i o,ops[i]?=some o→i≠s→∀ vals w,Since wb w→(∀ e∈o.after,Region.binds .any e=true→V e.on w (vals e.on))→does P o (filled ops a0 vals) w fun v w'=>Since w w'∧V i w' v)
  (hfin:∀ vals w,Since wb w→(∀ i,i<ops.size→V i w (vals i))→S vals w→Q .normal (filled ops a0 vals) w) :
  ∀ (fuel:Nat) (U:List Nat) (listed:Array Bool) (vals:Nat→Value) (a:Act) (w:World),listed.size=ops.size→(∀ j,j<ops.size→listed.getD j true=false→j∈U)→U.length≤fuel→
   Kept ops a0 wb V listed vals a w→Shut ops listed→(listed.getD s false=true→S vals w)→wpAny P .any ops Q fuel listed a w:=by
 have fin:∀ (listed:Array Bool) (vals:Nat→Value) (a:Act) (w:World),listed.size=ops.size→Region.ready .any ops listed=[]→Kept ops a0 wb V listed vals a w→(listed.getD s false=true→S vals w)→Q .normal a w:=by
  intro listed vals a w hsz hr hk hkS
  have hall:∀ n j,j≤n→j<ops.size→listed.getD j false=true:=by
   intro n
   induction n with
   | zero=>
    intro j hj hlt
    obtain rfl:j=0:=by omega
    refine Classical.byContradiction fun hno=>?_
    have:0∈Region.ready .any ops listed:=mem_ready.2 ⟨by simp [hsz,hlt] at hno ⊢;exact hno,ops[0],by simp [hlt],fun e he hb=>by
     have:=(settled_at hs (j:=0) (o:=ops[0]) (by simp [hlt])).2.1 e he hb
     omega⟩
    rw [hr] at this
    cases this
   | succ n ih=>
    intro j hj hlt
    by_cases hjn:j≤n
    ·exact ih j hjn hlt
    ·refine Classical.byContradiction fun hno=>?_
     have:j∈Region.ready .any ops listed:=mem_ready.2 ⟨by simp [hsz,hlt] at hno ⊢;exact hno,ops[j],by simp [hlt],fun e he hb=>by
      have:=(settled_at hs (j:=j) (o:=ops[j]) (by simp [hlt])).2.1 e he hb
      exact ih e.on (by omega) (by omega)⟩
     rw [hr] at this
     cases this
  have hV:∀ i,i<ops.size→V i w (vals i):=fun i hi=>hk.has i (hall i i (Nat.le_refl _) hi)
  have ha:a=filled ops a0 vals:=by
   have ht:a.tmps=(filled ops a0 vals).tmps:=by
    apply Array.ext_getElem?
    intro t
    by_cases hlt:t<a0.tmps.size
    ·rw [filled_at _ _ _ hlt]
     cases hm:maker ops t with
     | none=>rw [hk.base t hm];simp [hlt]
     | some k=>
      have hk2:k<ops.size:=by
       have:=List.mem_of_find?_eq_some hm
       simpa using this
      exact hk.made t k hm (hall k k (Nat.le_refl _) hk2) hlt
    ·rw [Array.getElem?_eq_none (by rw [hk.size];omega),Array.getElem?_eq_none (by simp [filled];omega)]
   cases a
   simp only [filled] at ht ⊢
   have:=hk.defers
   simp_all
  rw [ha]
  exact hfin vals w hk.since hV (hkS (hall s s (Nat.le_refl _) hs0))
 intro fuel
 induction fuel with
 | zero=>
  intro U listed vals a w hsz hU hl hk hsh hkS
  have hr:Region.ready .any ops listed=[]:=by
   refine List.eq_nil_iff_forall_not_mem.2 fun j hj=>?_
   obtain ⟨h0,o,ho,_⟩:=mem_ready.1 hj
   have:=hU j (Array.getElem?_eq_some_iff.1 ho).1 h0
   have hnil:U=[]:=List.length_eq_zero_iff.1 (by omega)
   rw [hnil] at this
   cases this
  exact ⟨hr,fin listed vals a w hsz hr hk hkS⟩
 | succ fuel ih=>
  intro U listed vals a w hsz hU hl hk hsh hkS
  refine ⟨fun hr=>fin listed vals a w hsz hr hk hkS,fun i hi=>?_⟩
  obtain ⟨h0,o,ho,hr⟩:=mem_ready.1 hi
  have hlt:i<ops.size:=(Array.getElem?_eq_some_iff.1 ho).1
  have hU':∀ j,j<ops.size→(listed.setIfInBounds i true).getD j true=false→j∈U.erase i:=fun j hj hun=>by
   have hji:j≠i:=fun e=>by
    subst e
    simp [hsz,hj] at hun
   rw [getD_set_ne true (Ne.symm hji)] at hun
   exact (List.mem_erase_of_ne hji).2 (hU j hj hun)
  have hl':(U.erase i).length≤fuel:=by
   rw [List.length_erase_of_mem (hU i hlt h0)]
   omega
  have hi0:listed.getD i false=false:=by
   simp [hsz,hlt] at h0 ⊢
   exact h0
  unfold wpOp
  simp only [ho]
  have hg:=(settled_at hs ho).1
  have hwant:Region.wanted o (yielded ops a.tmps)=true:=by simp [Region.wanted,hg]
  rw [if_pos hwant]
  refine .inl ?_
  by_cases his:i=s
  ·subst his
   have hd:=hopS o ho vals w hk.since (fun e he hb=>hk.has _ (hr e he hb))
   have hnext:∀ u w',Since wb w'→(∀ j u,V j w u→V j w' u)→S vals w'→wpAny P .any ops Q fuel (listed.setIfInBounds i true) (a.put o.dst u) w':=fun u w' h1 h2 h3=>
    ih (U.erase i) _ _ _ _ (by simp [hsz]) hU' hl' (hk.put_any h1 h2 hs ho (hVs w' u)) (hsh.put ho hr) (fun _=>hS2 vals _ w' (fun o' ho' e he hb=>by
     obtain rfl:o=o':=by simpa [ho] using ho'
     have:=(settled_at hs ho).2.1 e he hb
     simp [show e.on≠i by omega]) h3)
   unfold does at hd
   rw [← hk.exec hs ho hr] at hd
   unfold Oper.wp
   generalize (execOp a.eval o).run P w=r at hd
   cases r with
   | ok n w'=>
    cases n<;>simp only [doesUpon] at hd<;>simp only [Oper.upon]
    case value u=>exact hnext u w' hd.1 hd.2.1 hd.2.2
    case skip=>exact hnext undef w' hd.1 hd.2.1 hd.2.2
    case enter f args=>exact hd.mono fun e w'' ⟨v,he,h1,h2,h3⟩=>by subst he;exact hnext v w'' h1 h2 h3
   | halt x w'=>simp only [doesUpon] at hd
  ·have hd:=hop i o ho his vals w hk.since (fun e he hb=>hk.has _ (hr e he hb))
   have hnext:∀ u w',Since w w'→V i w' u→wpAny P .any ops Q fuel (listed.setIfInBounds i true) (a.put o.dst u) w':=fun u w' h1 h2=>
    ih (U.erase i) _ _ _ _ (by simp [hsz]) hU' hl' (hk.put hst hs ho h1 h2) (hsh.put ho hr) (fun hls=>by
     have hls':listed.getD s false=true:=(getD_set_or hls).resolve_left (Ne.symm his)
     refine hS2 vals _ w' (fun o' ho' e he hb=>?_) (hS1 vals w w' h1 (hkS hls'))
     have hpl:=hsh s o' hls' ho' e he hb
     have:e.on≠i:=fun h=>by
      rw [h,hi0] at hpl
      cases hpl
     simp [this])
   unfold does at hd
   rw [← hk.exec hs ho hr] at hd
   unfold Oper.wp
   generalize (execOp a.eval o).run P w=r at hd
   cases r with
   | ok n w'=>
    cases n<;>simp only [doesUpon] at hd<;>simp only [Oper.upon]
    case value u=>exact hnext u w' hd.1 hd.2
    case skip=>exact hnext undef w' hd.1 hd.2
    case enter f args=>exact hd.mono fun e w'' ⟨v,he,h1,h2⟩=>by subst he;exact hnext v w'' h1 h2
   | halt x w'=>simp only [doesUpon] at hd
end
def eachBut (P:Program) (V:Nat→World→Value→Prop) (F:(Nat→Value)→Act) (wb:World) (s:Nat):Nat→List Oper→Prop
 | _,[]=>True
 | k,o :: rest=>(k=s∨∀ vals x,Since wb x→(∀ e∈o.after,Region.binds .any e=true→V e.on x (vals e.on))→does P o (F vals) x fun v w'=>Since x w'∧V k w' v)∧eachBut P V F wb s (k+1) rest
theorem eachBut_nil {P:Program} {V:Nat→World→Value→Prop} {F:(Nat→Value)→Act} {wb:World} {s k:Nat}:eachBut P V F wb s k []:=trivial
theorem eachBut_skip {P:Program} {V:Nat→World→Value→Prop} {F:(Nat→Value)→Act} {wb:World} {s:Nat} {o:Oper} {rest:List Oper} (h:eachBut P V F wb s (s+1) rest):eachBut P V F wb s s (o :: rest):=⟨.inl rfl,h⟩
theorem eachBut_cons {P:Program} {V:Nat→World→Value→Prop} {F:(Nat→Value)→Act} {wb:World} {s k:Nat} {o:Oper} {rest:List Oper} (h:eachBut P V F wb s (k+1) rest)
  (h1:∀ vals x,Since wb x→(∀ e∈o.after,Region.binds .any e=true→V e.on x (vals e.on))→does P o (F vals) x fun v w'=>Since x w'∧V k w' v):eachBut P V F wb s k (o :: rest):=⟨.inr h1,h⟩
theorem eachBut_at {P:Program} {V:Nat→World→Value→Prop} {F:(Nat→Value)→Act} {wb:World} {s:Nat}:∀ (l:List Oper) (k:Nat),eachBut P V F wb s k l→∀ i o,l[i]?=some o→k+i≠s→∀ vals x,Since wb x→
  (∀ e∈o.after,Region.binds .any e=true→V e.on x (vals e.on))→does P o (F vals) x fun v w'=>Since x w'∧V (k+i) w' v
 | [],_,_,i,o,h=>by cases h
 | o :: rest,k,h,0,o',hi=>by
  obtain rfl:o=o':=by simpa using hi
  intro hne
  exact h.1.resolve_left hne
 | o :: rest,k,h,i+1,o',hi=>by
  have:=eachBut_at rest (k+1) h.2 i o' (by simpa using hi)
  rw [show k+(i+1)=k+1+i by omega]
  exact this
theorem wp_region_store {P:Program} {id:Nat} {Q:Exit→Act→World→Prop} {a:Act} {w wb:World} {l:List Oper} (s:Nat) (V:Nat→World→Value→Prop) (S:(Nat→Value)→World→Prop) (F:(Nat→Value)→Act) (hm:P.follows .mixedOrders=true) (hs0:s<l.length) (hs:settled l.toArray a.tmps.size=true) (h0:Since wb w)
  (hF:∀ vals,F vals=filled l.toArray a vals) (hst:∀ j w w' v,Since w w'→V j w v→V j w' v) (hVs:∀ w v,V s w v)
  (hS1:∀ vals w w',Since w w'→S vals w→S vals w') (hS2:∀ vals vals' w,(∀ o,l[s]?=some o→∀ e∈o.after,Region.binds .any e=true→vals e.on=vals' e.on)→S vals w→S vals' w)
  (hop:eachBut P V F wb s 0 l)
  (hopS:∀ o,l[s]?=some o→∀ vals w,Since wb w→(∀ e∈o.after,Region.binds .any e=true→V e.on w (vals e.on))→does P o (F vals) w fun v w'=>Since wb w'∧(∀ j u,V j w u→V j w' u)∧S vals w')
  (hfin:∀ vals w,Since wb w→(∀ i,i<l.length→V i w (vals i))→S vals w→Q .normal (F vals) w):(Code.region id l.toArray true).wp P Q a w:=by
 refine wp_region_any hm (wpAny_store (V:=V) (S:=S) (s:=s) (a0:=a) (wb:=wb) (by simpa using hs0) hs hst hS1 ?_ hVs ?_ ?_ ?_ _ (List.range l.length) _ (fun _=>undef) _ _ (by simp) (fun j hj _=>by simpa using hj) (by simp) ⟨h0.drew,rfl,rfl,fun _ _=>rfl,?_,?_⟩ ?_ ?_)
 ·intro vals vals' w h hS
  exact hS2 vals vals' w (fun o ho=>h o (by simpa using ho)) hS
 ·intro o ho vals w hw hv
  have:=hopS o (by simpa using ho) vals w hw hv
  rw [hF] at this
  exact this
 ·intro i o ho hi vals w hw hv
  have:=eachBut_at l 0 hop i o (by simpa using ho) (by simpa using hi) vals w hw hv
  rw [Nat.zero_add,hF] at this
  exact this
 ·intro vals w hw hv hS
  have:=hfin vals w hw (fun i hi=>hv i (by simpa using hi)) hS
  rw [hF] at this
  exact this
 ·intro t j _ hl
  rw [none_listed] at hl
  cases hl
 ·intro j hl
  rw [none_listed] at hl
  cases hl
 ·intro j o hl
  rw [none_listed] at hl
  cases hl
 ·intro hl
  rw [none_listed] at hl
  cases hl
structure Wd (c:Cn):Prop where
 w_iss:IsWord c.iss
 w_una:IsWord c.una
 w_nxt:IsWord c.nxt
 w_mx:IsWord c.mx
 w_wsq:IsWord c.wsq
 w_wak:IsWord c.wak
 w_oF:IsWord c.oF
 w_iN:IsWord c.iN
 w_fsq:IsWord c.fsq
 w_cR:IsWord c.cR
 w_tsq:IsWord c.tsq
 hod:c.oD.size≤1048576
def conf1 (c:Cn) (s:Sg):Cn:=if c.st=2∧0<distI c.iss s.ak then {c with st:=3} else c
def uptoC (c:Cn) (s:Sg):Int:=if c.fsn=true∧0<distI c.fsq s.ak then c.fsq else s.ak
def conf2 (c:Cn) (u:Int):Cn:={c with oF:=doneF c.oF c.oD c.oR u (distI c.oF u),oD:=doneD c.oD c.oR (distI c.oF u)}
def conf3 (c:Cn) (s:Sg) (now:Int):Cn:=if c.tmg=true∧0<distI c.tsq s.ak then timedC c now else {c with rD:=0}
def conf4 (c:Cn) (s:Sg):Cn:={c with una:=s.ak,nxt:=(if 0<distI c.nxt s.ak then s.ak else c.nxt),trs:=0,agn:=0}
def conf5 (c:Cn) (now:Int):Cn:=if c.una=c.mx then c else {c with agn:=now+waitOf c.rA c.rS c.rV c.rD}
def okA (c:Cn) (n:Int):Bool:=congOk c.cX c.cT c.cD && decide (0≤n∧n≤8000)
def conf6 (c:Cn) (n:Int) (a:Int):Cn:={c with cX:=ackX (okA c n) c.cF (decide (0≤distI c.cR a)) c.cX c.cT n,cD:=ackD (okA c n) c.cF (decide (0≤distI c.cR a)) c.cD,cF:=ackF (okA c n) c.cF (decide (0≤distI c.cR a))}
def conf7 (c:Cn) (b:Bool):Cn:=if b then {c with nxt:=c.una} else c
def agn6 (c:Cn) (n:Int) (a:Int):Bool:=ackB (okA c n) c.cF (decide (0≤distI c.cR a))
def confN (c:Cn) (s:Sg) (now:Int):Cn:=
 conf7 (conf6 (conf5 (conf4 (conf3 (conf2 c (uptoC c s)) s now) s) now) (distI c.una s.ak) s.ak) (agn6 (conf5 (conf4 (conf3 (conf2 c (uptoC c s)) s now) s) now) (distI c.una s.ak) s.ak)
def dupN (c:Cn):Int:=min (max (distI c.una c.mx) 0) 8000
def dupB (c:Cn):Bool:=third (okA c (dupN c)) c.cF c.cD
def dupA (c:Cn):Cn:={c with cX:=dupX (okA c (dupN c)) c.cF c.cX c.cD (dupN c),cT:=dupT (okA c (dupN c)) c.cF c.cT c.cD (dupN c),cD:=dupD (okA c (dupN c)) c.cF c.cD,cF:=dupF (okA c (dupN c)) c.cF c.cD,cR:=dupR (okA c (dupN c)) c.cF c.cD c.cR c.mx}
def dupC (c:Cn) (b:Bool):Cn:=if b then {c with nxt:=c.una,tmg:=false} else c
def confD (c:Cn) (s:Sg):Cn:=if s.d=ByteArray.empty∧s.wn=c.wnd∧¬ c.una=c.mx then dupC (dupA c) (dupB c) else c
def confirmed (c:Cn) (s:Sg) (now:Int):Cn:=if 0<distI c.una s.ak then confN (conf1 c s) s now else confD (conf1 c s) s
theorem word_if {a b:Int} (p:Prop) [Decidable p] (ha:IsWord a) (hb:IsWord b):IsWord (if p then a else b):=by split<;>assumption
theorem wd_conf1 {c:Cn} {s:Sg} (h:Wd c):Wd (conf1 c s):=by
 unfold conf1
 split
 ·exact ⟨h.w_iss,h.w_una,h.w_nxt,h.w_mx,h.w_wsq,h.w_wak,h.w_oF,h.w_iN,h.w_fsq,h.w_cR,h.w_tsq,h.hod⟩
 ·exact h
theorem wd_upto {c:Cn} {s:Sg} (h:Wd c) (ha:IsWord s.ak):IsWord (uptoC c s):=word_if _ h.w_fsq ha
theorem done_size (d:ByteArray) (r at':Int):(doneD d r at').size≤d.size:=by
 unfold doneD
 split
 ·simp
 ·exact Nat.le_refl _
theorem wd_conf2 {c:Cn} {u:Int} (h:Wd c) (hu:IsWord u):Wd (conf2 c u):=
 ⟨h.w_iss,h.w_una,h.w_nxt,h.w_mx,h.w_wsq,h.w_wak,word_if _ hu h.w_oF,h.w_iN,h.w_fsq,h.w_cR,h.w_tsq,Nat.le_trans (done_size _ _ _) h.hod⟩
theorem wd_conf3 {c:Cn} {s:Sg} {now:Int} (h:Wd c):Wd (conf3 c s now):=by
 unfold conf3 timedC
 split
 ·exact ⟨h.w_iss,h.w_una,h.w_nxt,h.w_mx,h.w_wsq,h.w_wak,h.w_oF,h.w_iN,h.w_fsq,h.w_cR,h.w_tsq,h.hod⟩
 ·exact ⟨h.w_iss,h.w_una,h.w_nxt,h.w_mx,h.w_wsq,h.w_wak,h.w_oF,h.w_iN,h.w_fsq,h.w_cR,h.w_tsq,h.hod⟩
theorem wd_conf4 {c:Cn} {s:Sg} (h:Wd c) (ha:IsWord s.ak):Wd (conf4 c s):=
 ⟨h.w_iss,ha,word_if _ ha h.w_nxt,h.w_mx,h.w_wsq,h.w_wak,h.w_oF,h.w_iN,h.w_fsq,h.w_cR,h.w_tsq,h.hod⟩
theorem wd_conf5 {c:Cn} {now:Int} (h:Wd c):Wd (conf5 c now):=by
 unfold conf5
 split
 ·exact h
 ·exact ⟨h.w_iss,h.w_una,h.w_nxt,h.w_mx,h.w_wsq,h.w_wak,h.w_oF,h.w_iN,h.w_fsq,h.w_cR,h.w_tsq,h.hod⟩
theorem wait_in (a:Bool) (s v d:Int):2≤waitOf a s v d∧waitOf a s v d≤600:=by
 unfold waitOf
 split
 ·rename_i hk
  have hb:=ok_bounds hk
  have h2:2≤baseOf a s v:=by unfold baseOf;split<;>omega
  have h3:baseOf a s v≤1000000:=by unfold baseOf;split<;>omega
  generalize baseOf a s v=p at h2 h3
  have hd:d=0∨d=1∨d=2∨d=3∨d=4∨d=5∨d=6∨d=7∨d=8:=by omega
  rcases hd with rfl|rfl|rfl|rfl|rfl|rfl|rfl|rfl|rfl<;>simp<;>omega
 ·omega
end Go.Proofs.YtmigalhmlofbkaaGreatDoor
namespace Go.Proofs.YtmigalhmlofbkaaGreatDoor
open Go.ChangeShapes Go.WideShapes Go.ChangeAt Go.RowKit Go.Deep
theorem implOutPut (f:Int) (d:ByteArray) (r:Int) (s:ByteArray) (hf:IsWord f) (hd:d.size≤1048576) (hs:s.size≤1048576) (w:World) :
  Calls Tryz.prog 34 #[outVal f d r,.string s] w fun e w'=>e=.returned (.tuple #[outVal f (putD d r s) r,.int .i64 (putN d r s)])∧Since w w':=by
 have ho:=fun wx=>implOutOk f d r wx
 have hfr:=fun wx=>freshOut f d r hd wx
 have G:Since w ((w.alloc (.cells #[.int .u32 f,.string d,.int .i64 r] 30)).alloc (.cells #[.int .u32 0,.string ⟨#[]⟩,.int .i64 0] 30)):=((Since.refl _).alloc _).alloc _
 have A:=(Blk.new w #[.int .u32 f,.string d,.int .i64 r] 30).since ((Since.refl _).alloc (.cells #[.int .u32 0,.string ⟨#[]⟩,.int .i64 0] 30))
 have B:=Blk.new (w.alloc (.cells #[.int .u32 f,.string d,.int .i64 r] 30)) #[.int .u32 0,.string ⟨#[]⟩,.int .i64 0] 30
 simp only [World.size_alloc] at A B
 unfold putD putN
 cases hk:outOk d r
 ·rw [if_neg (by simp)]
  rw [if_neg (by simp)]
  rw [hk] at ho
  unfold outVal at *
  go_enter Tryz.func34,Tryz.ntmps34
  go_wp2_with (first|(go_at_call 77;refine (ho _).mono ?_;rintro _ w1 ⟨rfl,g1⟩;replace G:=G.trans g1;replace A:=A.since g1;replace B:=B.since g1;have a0:=A.cell 0;have a1:=A.cell 1;have a2:=A.cell 2;simp at a0 a1 a2)|(go_at_call 60;refine (hfr _).mono ?_;rintro _ w2 ⟨rfl,g2⟩;replace G:=G.trans g2;replace B:=B.since g2;have b0:=B.cell 0;have b1:=B.cell 1;have b2:=B.cell 2;simp at b0 b1 b2;have z0:=B.fz 0;have z1:=B.fz 1;have z2:=B.fz 2))
  refine bodyPost_ret (v:=.tuple #[.agg #[.int .u32 f,.string d,.int .i64 r],.int .i64 0]) ?_ rfl ⟨rfl,?_⟩
  ·simp [results,go_sem,(stored3 B (.int .u32 f) (.string d) (.int .i64 r)).1,(stored3 B (.int .u32 f) (.string d) (.int .i64 r)).2.1,(stored3 B (.int .u32 f) (.string d) (.int .i64 r)).2.2]
  ·exact since_put3 G (by omega) _ _ _
 ·obtain ⟨h1,h2,h3⟩:=(outOk_iff d r).1 hk
  obtain ⟨m,rfl⟩:=Int.eq_ofNat_of_zero_le (show 0≤r by omega)
  rw [if_pos rfl,if_pos rfl]
  rw [hk] at ho
  have hri:=fun wx=>ringOf f d m hf (by omega) (by omega) (by omega) wx
  obtain ⟨n,hn⟩:∃ n,min (((m:Nat):Int).toNat - d.size) s.size=n:=⟨_,rfl⟩
  rw [hn]
  obtain ⟨L,hL⟩:∃ L,min s.size m=L:=⟨_,rfl⟩
  have hif:(if (m:Int)<(s.size:Int) then (m:Int) else (s.size:Int))=(L:Int):=by split<;>omega
  have hmin:min (s.size:Int) (m:Int)=(L:Int):=by omega
  have hLs:(s.extract 0 L).size=L:=by rw [ByteArray.size_extract];omega
  have hL1:L≤s.size:=by omega
  have hnL:n≤L:=by omega
  have hn2:d.size+n≤m:=by omega
  have hn3:n=L∨d.size+n=m:=by omega
  have hns:n≤s.size:=by omega
  replace hn3:Hid _:=hn3
  clear hn hL hk hfr
  unfold outVal at *
  go_enter Tryz.func34,Tryz.ntmps34
  go_wp2_with (fail)
  refine (ho _).mono ?_
  rintro _ w1 ⟨rfl,g1⟩
  replace G:=G.trans g1
  replace A:=A.since g1
  replace B:=B.since g1
  have a0:=A.cell 0
  have a1:=A.cell 1
  have a2:=A.cell 2
  simp at a0 a1 a2
  go_wp2_with (fail)
  refine (hri _).mono ?_
  rintro _ w3 ⟨rg,c,f3,fi,rfl,hr1,hc1,R3,hf3,g3⟩
  have hlow:=G.le
  have hAB:=B.lt
  replace a2:=(A.since g3).cell 2
  simp at a2
  replace hf3:Hid _:=hf3
  obtain ⟨cap,w4,hconv,hcap,g4,hsz,hcell⟩:=bytesText (s.extract 0 L) w3
  rw [hLs] at hconv hcap hcell
  have R4:=R3.since g4
  have hput:=put rg c m fi d.size f3 (byteAt (s.extract 0 L)) w3.heap.size L cap n hnL hn2 hn3.out hcap (by omega) w4 R4 hcell (by omega) (by have:=R3.cells.lt;omega) w1.heap.size hr1 hc1 (Nat.le_trans g3.le g4.le)
  replace hcell:Hid _:=hcell
  clear R4
  go_wp2_with (fail)
  refine hput.mono ?_
  rintro _ w5 ⟨rfl,hB5,f5,R5,hold,hnew⟩
  have hD:textOf (fun j=>f5 ((fi+j) % m)) (d.size+n)=d++s.extract 0 n:=by
   refine textOf_join _ _ _ _ (by rw [ByteArray.size_extract];omega) (fun i hi=>?_) (fun i hi=>?_)
   ·exact (hold i hi).trans (hf3.out i hi)
   ·rw [ByteArray.size_extract] at hi
    refine (hnew i (by omega)).trans ?_
    rw [bt_cut s 0 L i hL1 (by omega),bt_cut s 0 n i hns (by omega)]
  replace hD:Hid _:=hD
  have S5:Since w1 w5:=Below.trans (Since.trans g3 g4) hB5
  clear hold hnew hf3 hconv hcell hput g4 hsz a2 a0 a1
  replace A:=A.since S5
  replace B:=B.since S5
  replace G:=G.trans S5
  have hs5:=S5.le
  go_wp2_with (fail)
  refine wp_region_keep (wb:=w5) (w.heap.size+1) #[.int .u32 f,.string (d++s.extract 0 n),.int .i64 m] (fun i x v=>match i with
    | 0=>v=.pointer (some ⟨w.heap.size,0,none⟩)
    | 1=>v=.int .u32 f
    | 2=>v=.pointer (some ⟨rg,0,none⟩)
    | 3=>∃ b,(∃ cap,v=.slice (some ⟨b,0,none⟩) (d.size+n) cap)∧w.heap.size+1<b∧∀ j,j<d.size+n→x.cell? ⟨b,j,none⟩=some (.int .u8 (f5 ((fi+j) % m)))
    | 4=>v=.string (d++s.extract 0 n)
    | 5=>v=.pointer (some ⟨w.heap.size,2,none⟩)
    | 6=>v=.int .i64 m
    | 7=>v=.agg #[.int .u32 f,.string (d++s.extract 0 n),.int .i64 m]
    | 8=>v=.int .i64 n
    | 9=>Blk (w.heap.size+1) x #[.int .u32 f,.string (d++s.extract 0 n),.int .i64 m]
    | 10=>v=.int .i64 n
    | _=>True) (fun v=>{tmps:=#[Value.agg #[Value.int IntKind.u32 f,Value.string d,Value.int IntKind.i64 (m:Int)],Value.string s,Value.pointer (some ⟨w.heap.size,0,none⟩),undef,Value.pointer (some ⟨w.heap.size+1,0,none⟩),v 10,Value.pointer (some ⟨rg,0,none⟩),Value.int IntKind.i64 (n:Int),Value.agg #[Value.int IntKind.u32 f,Value.string d,Value.int IntKind.i64 (m:Int)],Value.bool true,Value.bool false,undef,undef,Value.agg #[Value.int IntKind.u32 f,Value.string d,Value.int IntKind.i64 (m:Int)],Value.pointer (some ⟨rg,0,none⟩),Value.pointer (some ⟨rg,0,none⟩),Value.string s,Value.string s,Value.int IntKind.i64 (s.size:Int),Value.pointer (some ⟨w.heap.size,2,none⟩),Value.int IntKind.i64 (m:Int),Value.int IntKind.i64 (L:Int),Value.string (s.extract 0 L),Value.slice (some ⟨w3.heap.size,0,none⟩) L cap,Value.int IntKind.i64 (n:Int),v 0,v 1,v 2,v 3,v 4,v 5,v 6,v 7,v 8],defers:=[]}) (by kernel_rfl) (by kernel_rfl) (by kernel_rfl) (KeepB.refl _ _ _) ?_ (fun vals=>by kernel_rfl) ?_ ?_
  case refine_1=>
   intro j x x' v h1 h2
   match j,h2 with
   | 3,h2=>
    obtain ⟨b,e,hlb,hc⟩:=h2
    exact ⟨b,e,hlb,fun j hj=>(h1.touch.cell (p:=⟨b,j,none⟩) (show b≠w.heap.size+1 by omega) (World.block_lt_of_cell? _ _ (hc j hj))).trans (hc j hj)⟩
   | 9,h2=>
    exact h1.done h2
   | 0,h2|1,h2|2,h2|4,h2|5,h2|6,h2|7,h2|8,h2|10,h2=>exact h2
   | n+11,_=>trivial
  case refine_2=>
   repeat (first|exact eachDoesR_nil|refine eachDoesR_cons ?_ ?_)
   all_goals intro vals x hx hv
   all_goals simp [Region.binds] at hv
   ·simp [does,doesUpon,go_sem,hv,KeepB.refl]
   ·have hraw:Raw (w.heap.size+1) 3 x:=hx.raw (show Raw (w.heap.size+1) 3 _ from ⟨_,rfl,B⟩)
    obtain ⟨u0,e0⟩:=hraw.cell 0 (by decide)
    obtain ⟨u1,e1⟩:=hraw.cell 1 (by decide)
    obtain ⟨u2,e2⟩:=hraw.cell 2 (by decide)
    have z0:=hraw.fz 0
    have z1:=hraw.fz 1
    have z2:=hraw.fz 2
    simp [does,doesUpon,go_sem,hv,e0,e1,e2,z0,z1,z2]
    exact hraw.store3 _ _ _
   ·simp [does,doesUpon,go_sem,KeepB.refl]
   ·simp [does,doesUpon,go_sem,hv,KeepB.refl]
   ·have e:=(A.touch hx.touch (by omega)).cell 2
    simp at e
    simp [does,doesUpon,go_sem,hv,e,KeepB.refl]
   ·simp [does,doesUpon,go_sem,KeepB.refl]
   ·obtain ⟨b,⟨cap,e⟩,hlb,hc⟩:=hv
    have hb:=bytesBack (fun j=>f5 ((fi+j) % m)) (d.size+n) cap b x hc
    rw [hD.out] at hb
    simp [does,doesUpon,go_sem,e,hb,KeepB.refl]
   ·simp [does,doesUpon,go_sem,hv]
    refine (ringAll rg c m fi (d.size+n) f5 x (R5.touch hx.touch (by omega) (by omega))).mono ?_
    rintro _ x' ⟨b,cap,rfl,hc,hlb,h1⟩
    exact ⟨_,rfl,KeepB.of_since h1,b,⟨cap,rfl⟩,by have:=hx.touch.size;omega,hc⟩
   ·simp [does,doesUpon,go_sem,KeepB.refl]
   ·have e:=(A.touch hx.touch (by omega)).cell 0
    simp at e
    simp [does,doesUpon,go_sem,hv,e,KeepB.refl]
   ·simp [does,doesUpon,go_sem,KeepB.refl]
  case refine_3=>
   intro vals x hx hv
   have hst:=hv 9 (by decide)
   have hl:vals 10=_:=hv 10 (by decide)
   clear hv
   have b0:=hst.cell 0
   have b1:=hst.cell 1
   have b2:=hst.cell 2
   simp at b0 b1 b2
   replace hst:Hid _:=hst
   simp only [hl]
   go_wp2
   refine bodyPost_ret (v:=.tuple #[.agg #[.int .u32 f,.string (d++s.extract 0 n),.int .i64 m],.int .i64 n]) ?_ rfl ⟨rfl,?_⟩
   ·simp [results,go_sem,b0,b1,b2]
   ·exact KeepB.since G hx (by omega)
theorem place_dist (f q m at':Int) (n:Nat) (hm:IsAhead f q m) (ha:IsDist f q at') (hn:n≤1048576):decide (m<(n:Int)+1)=decide (0≤at'∧at'≤(n:Int)):=by
 obtain ⟨h1,h2,h3⟩:=hm
 obtain ⟨k1,k2,k3⟩:=ha
 have:(m<(n:Int)+1)↔(0≤at'∧at'≤(n:Int)):=by omega
 simp [this]
theorem implOutTake (f:Int) (d:ByteArray) (r q n at':Int) (hf:IsWord f) (hq:IsWord q) (ha:IsDist f q at') (hd:d.size≤1048576) (hn:IsInt n) (w:World) :
  Calls Tryz.prog 152 #[outVal f d r,.int .u32 q,.int .i64 n] w fun e w'=>e=.returned (.string (takeT f d r q n at'))∧Since w w':=by
 have ho:=fun wx=>implOutOk f d r wx
 have hi1:=fun wx=>isAmount n wx
 have hdist:=fun wx=>implDist f q at' hf hq ha wx
 obtain ⟨mm,hm⟩:=isAhead_ex f q
 have hpl:=fun wx=>hasPlace f d r q mm hf hq hm hd wx
 rw [place_dist f q mm at' d.size hm ha hd] at hpl
 have G:Since w (w.alloc (.cells #[.int .u32 f,.string d,.int .i64 r] 30)):=(Since.refl _).alloc _
 have A:=Blk.new w #[.int .u32 f,.string d,.int .i64 r] 30
 clear hm
 unfold takeT
 cases hk:outOk d r
 ·rw [if_neg (by simp)]
  rw [hk] at ho
  unfold outVal at *
  go_enter Tryz.func152,Tryz.ntmps152
  go_wp2_with (first|(go_at_call 77;refine (ho _).mono ?_;rintro _ w1 ⟨rfl,g1⟩;replace G:=G.trans g1;replace A:=A.since g1;have a0:=A.cell 0;have a1:=A.cell 1;have a2:=A.cell 2;simp at a0 a1 a2)|(go_at_call 92;refine (hi1 _).mono ?_;rintro _ _ ⟨rfl,rfl⟩)|(go_at_call 159;refine (hpl _).mono ?_;rintro _ w4 ⟨rfl,g4⟩;replace G:=G.trans g4;replace A:=A.since g4))
  go_ret
  exact ⟨rfl,G⟩
 ·rw [hk] at ho
  obtain ⟨h1,h2,h3⟩:=(outOk_iff d r).1 hk
  obtain ⟨m,rfl⟩:=Int.eq_ofNat_of_zero_le (show 0≤r by omega)
  by_cases c1:0≤n∧n≤4096
  ·rw [show decide (0≤n∧n≤4096)=true by simp;omega] at hi1
   by_cases c2:0≤at'∧at'≤d.size
   ·rw [show decide (0≤at'∧at'≤(d.size:Int))=true by simp;omega] at hpl
    rw [if_pos ⟨rfl,c1,c2⟩]
    obtain ⟨k,rfl⟩:=Int.eq_ofNat_of_zero_le c2.1
    obtain ⟨nn,rfl⟩:=Int.eq_ofNat_of_zero_le c1.1
    obtain ⟨_,c3⟩:=c2
    obtain ⟨_,c5⟩:=c1
    have hri:=fun wx=>ringOf f d m hf (by omega) (by omega) (by omega) wx
    rw [show ((k:Nat):Int).toNat=k by omega]
    obtain ⟨t,ht⟩:∃ t,min ((nn:Nat):Int).toNat (d.size - k)=t:=⟨_,rfl⟩
    rw [ht]
    have ht1:t≤nn:=by omega
    have ht2:k+t≤d.size:=by omega
    have ht3:t=nn∨k+t=d.size:=by omega
    replace ht3:Hid _:=ht3
    have hD:textOf (fun j=>byteAt d (k+j)) t=d.extract k (k+t):=textOf_is _ _ _ (by rw [ByteArray.size_extract];omega) fun i hi=>(bt_cut d k (k+t) i (by omega) (by omega)).symm
    replace hD:Hid _:=hD
    clear ht hk ha hn
    unfold outVal at *
    go_enter Tryz.func152,Tryz.ntmps152
    go_wp2_with (first|(go_at_call 77;refine (ho _).mono ?_;rintro _ w1 ⟨rfl,g1⟩;replace G:=G.trans g1;replace A:=A.since g1;have a0:=A.cell 0;have a1:=A.cell 1;have a2:=A.cell 2;simp at a0 a1 a2)|(go_at_call 92;refine (hi1 _).mono ?_;rintro _ _ ⟨rfl,rfl⟩)|(go_at_call 159;refine (hpl _).mono ?_;rintro _ w4 ⟨rfl,g4⟩;replace G:=G.trans g4;replace A:=A.since g4))
    refine wp_region_each (wb:=w4) (fun i x v=>match i with
      | 0=>v=.agg #[.int .u32 f,.string d,.int .i64 m]
      | 1=>∃ rg,v=.pointer (some ⟨rg,0,none⟩)∧∃ c f3 fi,Ring x rg c m fi d.size f3∧∀ j,j<d.size→f3 ((fi+j) % m)=byteAt d j
      | 2=>v=.pointer (some ⟨w.heap.size,0,none⟩)
      | 3=>v=.int .u32 f
      | 4=>v=.int .u32 q
      | 5=>v=.int .i64 k
      | 6=>v=.int .i64 nn
      | 7=>∃ b,(∃ cap,v=.slice (some ⟨b,0,none⟩) t cap)∧∀ j,j<t→x.cell? ⟨b,j,none⟩=some (.int .u8 (byteAt d (k+j)))
      | 8=>v=.string (d.extract k (k+t))
      | 9=>v=.string (d.extract k (k+t))
      | _=>True) (fun v=>{tmps:=#[Value.agg #[Value.int IntKind.u32 f,Value.string d,Value.int IntKind.i64 (m:Int)],Value.int IntKind.u32 q,Value.int IntKind.i64 (nn:Int),Value.pointer (some ⟨w.heap.size,0,none⟩),undef,undef,v 9,Value.agg #[Value.int IntKind.u32 f,Value.string d,Value.int IntKind.i64 (m:Int)],Value.bool true,Value.bool false,Value.bool false,Value.int IntKind.i64 (nn:Int),Value.bool true,Value.bool false,Value.bool false,Value.bool false,Value.agg #[Value.int IntKind.u32 f,Value.string d,Value.int IntKind.i64 (m:Int)],Value.int IntKind.u32 q,Value.bool true,Value.bool false,Value.bool false,v 0,v 1,v 2,v 3,v 4,v 5,v 6,v 7,v 8],defers:=[]}) (by kernel_rfl) (by kernel_rfl) (Since.refl _) ?_ (fun vals=>by kernel_rfl) ?_ ?_
    case refine_1=>
     intro j x x' v h1 h2
     match j,h2 with
     | 1,h2=>
      obtain ⟨rg,e,c,f3,fi,R3,hb⟩:=h2
      exact ⟨rg,e,c,f3,fi,R3.since h1,hb⟩
     | 7,h2=>
      obtain ⟨b,e,hc⟩:=h2
      exact ⟨b,e,fun j hj=>(Below.cell h1 (p:=⟨b,j,none⟩) (World.block_lt_of_cell? _ _ (hc j hj))).trans (hc j hj)⟩
     | 0,h2|2,h2|3,h2|4,h2|5,h2|6,h2|8,h2|9,h2=>exact h2
     | n+10,_=>trivial
    case refine_2=>
     repeat (first|exact eachDoes_nil|refine eachDoes_cons ?_ ?_)
     all_goals intro vals x hx hv
     all_goals simp [Region.binds] at hv
     ·simp [does,doesUpon,go_sem,hv,Since.refl]
     ·obtain ⟨b,⟨cap,e⟩,hc⟩:=hv
      have hb:=bytesBack (fun j=>byteAt d (k+j)) t cap b x hc
      rw [hD.out] at hb
      simp [does,doesUpon,go_sem,e,hb,Since.refl]
     ·obtain ⟨⟨rg,e,c,f3,fi,R3,hb⟩,h5,h6⟩:=hv
      simp [does,doesUpon,go_sem,e,h5,h6]
      refine (taken rg c m fi d.size f3 k nn t (by omega) ht1 ht2 ht3.out (by omega) x R3).mono ?_
      rintro _ x' ⟨b,cap,rfl,hc,_,h1⟩
      exact ⟨_,rfl,h1,b,⟨cap,rfl⟩,fun j hj=>by rw [hc j hj,hb (k+j) (by omega)]⟩
     ·simp [does,doesUpon,go_sem,Since.refl]
     ·obtain ⟨h3,h4⟩:=hv
      simp [does,doesUpon,go_sem,h3,h4]
      refine (hdist x).mono ?_
      rintro _ _ ⟨rfl,rfl⟩
      simp [Since.refl]
     ·simp [does,doesUpon,go_sem,Since.refl]
     ·have e:=(A.since hx).cell 0
      simp at e
      simp [does,doesUpon,go_sem,hv,e,Since.refl]
     ·simp [does,doesUpon,go_sem,Since.refl]
     ·simp [does,doesUpon,go_sem,hv]
      refine (hri x).mono ?_
      rintro _ x' ⟨rg,c,f3,fi,rfl,_,_,R3,hb,h1⟩
      exact ⟨_,rfl,h1,rg,rfl,c,f3,fi,R3,hb⟩
     ·have e0:=(A.since hx).cell 0
      have e1:=(A.since hx).cell 1
      have e2:=(A.since hx).cell 2
      simp at e0 e1 e2
      simp [does,doesUpon,go_sem,e0,e1,e2,Since.refl]
    case refine_3=>
     intro vals x hx hv
     have h9:vals 9=_:=hv 9 (by decide)
     clear hv
     simp only [h9]
     go_wp2
     go_ret
     exact ⟨rfl,G.trans hx⟩
   ·rw [show decide (0≤at'∧at'≤(d.size:Int))=false by simp;omega] at hpl
    rw [if_neg (fun h=>c2 h.2.2)]
    clear c2 ha hn
    unfold outVal at *
    go_enter Tryz.func152,Tryz.ntmps152
    go_wp2_with (first|(go_at_call 77;refine (ho _).mono ?_;rintro _ w1 ⟨rfl,g1⟩;replace G:=G.trans g1;replace A:=A.since g1;have a0:=A.cell 0;have a1:=A.cell 1;have a2:=A.cell 2;simp at a0 a1 a2)|(go_at_call 92;refine (hi1 _).mono ?_;rintro _ _ ⟨rfl,rfl⟩)|(go_at_call 159;refine (hpl _).mono ?_;rintro _ w4 ⟨rfl,g4⟩;replace G:=G.trans g4;replace A:=A.since g4))
    go_ret
    exact ⟨rfl,G⟩
  ·rw [show decide (0≤n∧n≤4096)=false by simp;omega] at hi1
   rw [if_neg (fun h=>c1 h.2.1)]
   clear c1 ha hn
   unfold outVal at *
   go_enter Tryz.func152,Tryz.ntmps152
   go_wp2_with (first|(go_at_call 77;refine (ho _).mono ?_;rintro _ w1 ⟨rfl,g1⟩;replace G:=G.trans g1;replace A:=A.since g1;have a0:=A.cell 0;have a1:=A.cell 1;have a2:=A.cell 2;simp at a0 a1 a2)|(go_at_call 92;refine (hi1 _).mono ?_;rintro _ _ ⟨rfl,rfl⟩)|(go_at_call 159;refine (hpl _).mono ?_;rintro _ w4 ⟨rfl,g4⟩;replace G:=G.trans g4;replace A:=A.since g4))
   go_ret
   exact ⟨rfl,G⟩
end Go.Proofs.YtmigalhmlofbkaaGreatDoor
