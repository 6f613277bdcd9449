/-
  Regions that leave their order open and hold one operation that writes (into a block that came in the region): each operation is shown once; what the writer leaves may be told by the values of those that it waits for.
-/
import Derived.Test.YtnbopjlpemmkcaaGreatM3
namespace Go.Proofs.YtnbopjlpemmkcaaGreat
open Go.ChangeShapes Go.WideShapes Go.ChangeAt Go.RowKit
set_option linter.unusedVariables false
set_option maxRecDepth 10000

section
variable {P:Program} {ops:Array Oper} {Q:Exit→Act→World→Prop} {a0:Act} {wb:World} {V:Nat→World→Value→Prop}

theorem Kept.put_any {listed:Array Bool} {vals:Nat→Value} {a:Act} {w w':World} (h:Kept ops a0 wb V listed vals a w) (hsi:Since wb w') (hstab:∀ j v,V j w v→V j w' v)
  (hs:settled ops a0.tmps.size=true) {i:Nat} {o:Oper} (ho:ops[i]?=some o) {u:Value} (hu:V i w' u) :
  Kept ops a0 wb V (listed.setIfInBounds i true) (fun j=>if j=i then u else vals j) (a.put o.dst u) w':=by
 obtain ⟨_,_,hd,_⟩:=settled_at hs ho
 refine ⟨hsi,?_,?_,?_,?_,?_⟩
 ·cases hdst:o.dst<;>simp [Act.put,h.defers]
 ·cases hdst:o.dst<;>simp [Act.put,h.size]
 ·intro t ht
  cases hdst:o.dst with
  | none=>exact h.base t ht
  | some d=>
   have hne:d≠t:=fun e=>by
    subst e
    rw [(hd d hdst).1] at ht
    cases ht
   simp only [Act.put,Array.getElem?_setIfInBounds_ne hne]
   exact h.base t ht
 ·intro t j hj hl hlt
  by_cases hji:j=i
  ·subst hji
   simp only [if_true]
   have hdst:o.dst=some t:=by
    have:=List.find?_some hj
    simpa [ho] using this
   have hta:t<a.tmps.size:=by rw [h.size];exact hlt
   simp only [Act.put,hdst]
   simp [hta]
  ·have hl':listed.getD j false=true:=(getD_set_or hl).resolve_left hji
   simp only [hji,if_false]
   cases hdst:o.dst with
   | none=>exact h.made t j hj hl' hlt
   | some d=>
    have hne:d≠t:=fun e=>by
     subst e
     rw [(hd d hdst).1] at hj
     exact hji (by simpa using hj.symm)
    simp only [Act.put,Array.getElem?_setIfInBounds_ne hne]
    exact h.made t j hj hl' hlt
 ·intro j hl
  by_cases hji:j=i
  ·subst hji
   simpa using hu
  ·simp only [hji,if_false]
   exact hstab j _ (h.has j ((getD_set_or hl).resolve_left hji))

theorem wpAny_store {s:Nat} {S:(Nat→Value)→World→Prop} (hs0:s<ops.size) (hs:settled ops a0.tmps.size=true) (hst:∀ j w w' v,Since w w'→V j w v→V j w' v)
  (hS1:∀ vals w w',Since w w'→S vals w→S vals w') (hS2:∀ vals vals' w,(∀ o,ops[s]?=some o→∀ e∈o.after,Region.binds .any e=true→vals e.on=vals' e.on)→S vals w→S vals' w) (hVs:∀ w v,V s w v)
  (hopS:∀ o,ops[s]?=some o→∀ vals w,Since wb w→(∀ e∈o.after,Region.binds .any e=true→V e.on w (vals e.on))→does P o (filled ops a0 vals) w fun v w'=>Since wb w'∧(∀ j u,V j w u→V j w' u)∧S vals w')
  (hop:∀ i o,ops[i]?=some o→i≠s→∀ vals w,Since wb w→(∀ e∈o.after,Region.binds .any e=true→V e.on w (vals e.on))→does P o (filled ops a0 vals) w fun v w'=>Since w w'∧V i w' v)
  (hfin:∀ vals w,Since wb w→(∀ i,i<ops.size→V i w (vals i))→S vals w→Q .normal (filled ops a0 vals) w) :
  ∀ (fuel:Nat) (U:List Nat) (listed:Array Bool) (vals:Nat→Value) (a:Act) (w:World),listed.size=ops.size→(∀ j,j<ops.size→listed.getD j true=false→j∈U)→U.length≤fuel→
   Kept ops a0 wb V listed vals a w→Shut ops listed→(listed.getD s false=true→S vals w)→wpAny P .any ops Q fuel listed a w:=by
 have fin:∀ (listed:Array Bool) (vals:Nat→Value) (a:Act) (w:World),listed.size=ops.size→Region.ready .any ops listed=[]→Kept ops a0 wb V listed vals a w→(listed.getD s false=true→S vals w)→Q .normal a w:=by
  intro listed vals a w hsz hr hk hkS
  have hall:∀ n j,j≤n→j<ops.size→listed.getD j false=true:=by
   intro n
   induction n with
   | zero=>
    intro j hj hlt
    obtain rfl:j=0:=by omega
    refine Classical.byContradiction fun hno=>?_
    have:0∈Region.ready .any ops listed:=mem_ready.2 ⟨by simp [hsz,hlt] at hno ⊢;exact hno,ops[0],by simp [hlt],fun e he hb=>by
     have:=(settled_at hs (j:=0) (o:=ops[0]) (by simp [hlt])).2.1 e he hb
     omega⟩
    rw [hr] at this
    cases this
   | succ n ih=>
    intro j hj hlt
    by_cases hjn:j≤n
    ·exact ih j hjn hlt
    ·refine Classical.byContradiction fun hno=>?_
     have:j∈Region.ready .any ops listed:=mem_ready.2 ⟨by simp [hsz,hlt] at hno ⊢;exact hno,ops[j],by simp [hlt],fun e he hb=>by
      have:=(settled_at hs (j:=j) (o:=ops[j]) (by simp [hlt])).2.1 e he hb
      exact ih e.on (by omega) (by omega)⟩
     rw [hr] at this
     cases this
  have hV:∀ i,i<ops.size→V i w (vals i):=fun i hi=>hk.has i (hall i i (Nat.le_refl _) hi)
  have ha:a=filled ops a0 vals:=by
   have ht:a.tmps=(filled ops a0 vals).tmps:=by
    apply Array.ext_getElem?
    intro t
    by_cases hlt:t<a0.tmps.size
    ·rw [filled_at _ _ _ hlt]
     cases hm:maker ops t with
     | none=>rw [hk.base t hm];simp [hlt]
     | some k=>
      have hk2:k<ops.size:=by
       have:=List.mem_of_find?_eq_some hm
       simpa using this
      exact hk.made t k hm (hall k k (Nat.le_refl _) hk2) hlt
    ·rw [Array.getElem?_eq_none (by rw [hk.size];omega),Array.getElem?_eq_none (by simp [filled];omega)]
   cases a
   simp only [filled] at ht ⊢
   have:=hk.defers
   simp_all
  rw [ha]
  exact hfin vals w hk.since hV (hkS (hall s s (Nat.le_refl _) hs0))
 intro fuel
 induction fuel with
 | zero=>
  intro U listed vals a w hsz hU hl hk hsh hkS
  have hr:Region.ready .any ops listed=[]:=by
   refine List.eq_nil_iff_forall_not_mem.2 fun j hj=>?_
   obtain ⟨h0,o,ho,_⟩:=mem_ready.1 hj
   have:=hU j (Array.getElem?_eq_some_iff.1 ho).1 h0
   have hnil:U=[]:=List.length_eq_zero_iff.1 (by omega)
   rw [hnil] at this
   cases this
  exact ⟨hr,fin listed vals a w hsz hr hk hkS⟩
 | succ fuel ih=>
  intro U listed vals a w hsz hU hl hk hsh hkS
  refine ⟨fun hr=>fin listed vals a w hsz hr hk hkS,fun i hi=>?_⟩
  obtain ⟨h0,o,ho,hr⟩:=mem_ready.1 hi
  have hlt:i<ops.size:=(Array.getElem?_eq_some_iff.1 ho).1
  have hU':∀ j,j<ops.size→(listed.setIfInBounds i true).getD j true=false→j∈U.erase i:=fun j hj hun=>by
   have hji:j≠i:=fun e=>by
    subst e
    simp [hsz,hj] at hun
   rw [getD_set_ne true (Ne.symm hji)] at hun
   exact (List.mem_erase_of_ne hji).2 (hU j hj hun)
  have hl':(U.erase i).length≤fuel:=by
   rw [List.length_erase_of_mem (hU i hlt h0)]
   omega
  have hi0:listed.getD i false=false:=by
   simp [hsz,hlt] at h0 ⊢
   exact h0
  unfold wpOp
  simp only [ho]
  have hg:=(settled_at hs ho).1
  have hwant:Region.wanted o (yielded ops a.tmps)=true:=by simp [Region.wanted,hg]
  rw [if_pos hwant]
  refine .inl ?_
  by_cases his:i=s
  ·subst his
   have hd:=hopS o ho vals w hk.since (fun e he hb=>hk.has _ (hr e he hb))
   have hnext:∀ u w',Since wb w'→(∀ j u,V j w u→V j w' u)→S vals w'→wpAny P .any ops Q fuel (listed.setIfInBounds i true) (a.put o.dst u) w':=fun u w' h1 h2 h3=>
    ih (U.erase i) _ _ _ _ (by simp [hsz]) hU' hl' (hk.put_any h1 h2 hs ho (hVs w' u)) (hsh.put ho hr) (fun _=>hS2 vals _ w' (fun o' ho' e he hb=>by
     obtain rfl:o=o':=by simpa [ho] using ho'
     have:=(settled_at hs ho).2.1 e he hb
     simp [show e.on≠i by omega]) h3)
   unfold does at hd
   rw [← hk.exec hs ho hr] at hd
   unfold Oper.wp
   generalize (execOp a.eval o).run P w=r at hd
   cases r with
   | ok n w'=>
    cases n<;>simp only [doesUpon] at hd<;>simp only [Oper.upon]
    case value u=>exact hnext u w' hd.1 hd.2.1 hd.2.2
    case skip=>exact hnext undef w' hd.1 hd.2.1 hd.2.2
    case enter f args=>exact hd.mono fun e w'' ⟨v,he,h1,h2,h3⟩=>by subst he;exact hnext v w'' h1 h2 h3
   | halt x w'=>simp only [doesUpon] at hd
  ·have hd:=hop i o ho his vals w hk.since (fun e he hb=>hk.has _ (hr e he hb))
   have hnext:∀ u w',Since w w'→V i w' u→wpAny P .any ops Q fuel (listed.setIfInBounds i true) (a.put o.dst u) w':=fun u w' h1 h2=>
    ih (U.erase i) _ _ _ _ (by simp [hsz]) hU' hl' (hk.put hst hs ho h1 h2) (hsh.put ho hr) (fun hls=>by
     have hls':listed.getD s false=true:=(getD_set_or hls).resolve_left (Ne.symm his)
     refine hS2 vals _ w' (fun o' ho' e he hb=>?_) (hS1 vals w w' h1 (hkS hls'))
     have hpl:=hsh s o' hls' ho' e he hb
     have:e.on≠i:=fun h=>by
      rw [h,hi0] at hpl
      cases hpl
     simp [this])
   unfold does at hd
   rw [← hk.exec hs ho hr] at hd
   unfold Oper.wp
   generalize (execOp a.eval o).run P w=r at hd
   cases r with
   | ok n w'=>
    cases n<;>simp only [doesUpon] at hd<;>simp only [Oper.upon]
    case value u=>exact hnext u w' hd.1 hd.2
    case skip=>exact hnext undef w' hd.1 hd.2
    case enter f args=>exact hd.mono fun e w'' ⟨v,he,h1,h2⟩=>by subst he;exact hnext v w'' h1 h2
   | halt x w'=>simp only [doesUpon] at hd
end

def eachBut (P:Program) (V:Nat→World→Value→Prop) (F:(Nat→Value)→Act) (wb:World) (s:Nat):Nat→List Oper→Prop
 | _,[]=>True
 | k,o :: rest=>(k=s∨∀ vals x,Since wb x→(∀ e∈o.after,Region.binds .any e=true→V e.on x (vals e.on))→does P o (F vals) x fun v w'=>Since x w'∧V k w' v)∧eachBut P V F wb s (k+1) rest

theorem eachBut_nil {P:Program} {V:Nat→World→Value→Prop} {F:(Nat→Value)→Act} {wb:World} {s k:Nat}:eachBut P V F wb s k []:=trivial

theorem eachBut_skip {P:Program} {V:Nat→World→Value→Prop} {F:(Nat→Value)→Act} {wb:World} {s:Nat} {o:Oper} {rest:List Oper} (h:eachBut P V F wb s (s+1) rest):eachBut P V F wb s s (o :: rest):=⟨.inl rfl,h⟩

theorem eachBut_cons {P:Program} {V:Nat→World→Value→Prop} {F:(Nat→Value)→Act} {wb:World} {s k:Nat} {o:Oper} {rest:List Oper} (h:eachBut P V F wb s (k+1) rest)
  (h1:∀ vals x,Since wb x→(∀ e∈o.after,Region.binds .any e=true→V e.on x (vals e.on))→does P o (F vals) x fun v w'=>Since x w'∧V k w' v):eachBut P V F wb s k (o :: rest):=⟨.inr h1,h⟩

theorem eachBut_at {P:Program} {V:Nat→World→Value→Prop} {F:(Nat→Value)→Act} {wb:World} {s:Nat}:∀ (l:List Oper) (k:Nat),eachBut P V F wb s k l→∀ i o,l[i]?=some o→k+i≠s→∀ vals x,Since wb x→
  (∀ e∈o.after,Region.binds .any e=true→V e.on x (vals e.on))→does P o (F vals) x fun v w'=>Since x w'∧V (k+i) w' v
 | [],_,_,i,o,h=>by cases h
 | o :: rest,k,h,0,o',hi=>by
  obtain rfl:o=o':=by simpa using hi
  intro hne
  exact h.1.resolve_left hne
 | o :: rest,k,h,i+1,o',hi=>by
  have:=eachBut_at rest (k+1) h.2 i o' (by simpa using hi)
  rw [show k+(i+1)=k+1+i by omega]
  exact this

theorem wp_region_store {P:Program} {id:Nat} {Q:Exit→Act→World→Prop} {a:Act} {w wb:World} {l:List Oper} (s:Nat) (V:Nat→World→Value→Prop) (S:(Nat→Value)→World→Prop) (F:(Nat→Value)→Act) (hm:P.follows .mixedOrders=true) (hs0:s<l.length) (hs:settled l.toArray a.tmps.size=true) (h0:Since wb w)
  (hF:∀ vals,F vals=filled l.toArray a vals) (hst:∀ j w w' v,Since w w'→V j w v→V j w' v) (hVs:∀ w v,V s w v)
  (hS1:∀ vals w w',Since w w'→S vals w→S vals w') (hS2:∀ vals vals' w,(∀ o,l[s]?=some o→∀ e∈o.after,Region.binds .any e=true→vals e.on=vals' e.on)→S vals w→S vals' w)
  (hop:eachBut P V F wb s 0 l)
  (hopS:∀ o,l[s]?=some o→∀ vals w,Since wb w→(∀ e∈o.after,Region.binds .any e=true→V e.on w (vals e.on))→does P o (F vals) w fun v w'=>Since wb w'∧(∀ j u,V j w u→V j w' u)∧S vals w')
  (hfin:∀ vals w,Since wb w→(∀ i,i<l.length→V i w (vals i))→S vals w→Q .normal (F vals) w):(Code.region id l.toArray true).wp P Q a w:=by
 refine wp_region_any hm (wpAny_store (V:=V) (S:=S) (s:=s) (a0:=a) (wb:=wb) (by simpa using hs0) hs hst hS1 ?_ hVs ?_ ?_ ?_ _ (List.range l.length) _ (fun _=>undef) _ _ (by simp) (fun j hj _=>by simpa using hj) (by simp) ⟨h0.drew,rfl,rfl,fun _ _=>rfl,?_,?_⟩ ?_ ?_)
 ·intro vals vals' w h hS
  exact hS2 vals vals' w (fun o ho=>h o (by simpa using ho)) hS
 ·intro o ho vals w hw hv
  have:=hopS o (by simpa using ho) vals w hw hv
  rw [hF] at this
  exact this
 ·intro i o ho hi vals w hw hv
  have:=eachBut_at l 0 hop i o (by simpa using ho) (by simpa using hi) vals w hw hv
  rw [Nat.zero_add,hF] at this
  exact this
 ·intro vals w hw hv hS
  have:=hfin vals w hw (fun i hi=>hv i (by simpa using hi)) hS
  rw [hF] at this
  exact this
 ·intro t j _ hl
  rw [none_listed] at hl
  cases hl
 ·intro j hl
  rw [none_listed] at hl
  cases hl
 ·intro j o hl
  rw [none_listed] at hl
  cases hl
 ·intro hl
  rw [none_listed] at hl
  cases hl
end Go.Proofs.YtnbopjlpemmkcaaGreat
