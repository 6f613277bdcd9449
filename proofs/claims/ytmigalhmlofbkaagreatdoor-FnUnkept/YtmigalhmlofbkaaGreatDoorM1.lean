/- A part of the proof. -/
import Derived.Still
import Derived.Tactics
import Derived.Test.YtmigalhmlofbkaaGreatDoorTab
set_option linter.unusedVariables false
set_option maxRecDepth 10000
namespace Go.Proofs.YtmigalhmlofbkaaGreatDoor
open Go.ChangeShapes Go.WideShapes Go.ChangeAt Go.RowKit
def maker (ops:Array Oper) (t:Nat):Option Nat:=(List.range ops.size).find? fun j=>(ops[j]?).bind (·.dst) == some t
def filled (ops:Array Oper) (a:Act) (vals:Nat→Value):Act:={tmps:=a.tmps.mapIdx fun t x=>match maker ops t with|some j=>vals j|none=>x,defers:=a.defers}
def settled (ops:Array Oper) (n:Nat):Bool:=Region.noSelect ops && (List.range ops.size).all fun j=>match ops[j]? with
 | none=>true
 | some o=>o.guard.isNone && o.after.all (fun e=>!Region.binds .any e || decide (e.on<j)) &&
   (match o.dst with|some d=>maker ops d == some j && decide (d<n)|none=>true) &&
   o.op.operands.all fun x=>match x with
    | .tmp t=>(match maker ops t with|none=>true|some k=>o.after.any fun e=>Region.binds .any e && e.on == k)
    | _=>true
def doesUpon (P:Program) (R:Value→World→Prop):Result Next→Prop
 | .ok (.value u) w'=>R u w'
 | .ok .skip w'=>R undef w'
 | .ok (.enter f args) w'=>Calls P f args w' fun e w''=>∃ v,e=.returned v∧R v w''
 | _=>False
def does (P:Program) (o:Oper) (a:Act) (w:World) (R:Value→World→Prop):Prop:=doesUpon P R ((execOp a.eval o).run P w)
section
variable {P:Program} {ops:Array Oper} {Q:Exit→Act→World→Prop} {a0:Act} {wb:World} {V:Nat→World→Value→Prop}
structure Kept (ops:Array Oper) (a0:Act) (wb:World) (V:Nat→World→Value→Prop) (listed:Array Bool) (vals:Nat→Value) (a:Act) (w:World):Prop where
 since:Since wb w
 defers:a.defers=a0.defers
 size:a.tmps.size=a0.tmps.size
 base:∀ t:Nat,maker ops t=none→a.tmps[t]?=a0.tmps[t]?
 made:∀ t j:Nat,maker ops t=some j→listed.getD j false=true→t<a0.tmps.size→a.tmps[t]?=some (vals j)
 has:∀ j:Nat,listed.getD j false=true→V j w (vals j)
theorem getD_set_or {listed:Array Bool} {i j:Nat} (h:(listed.setIfInBounds i true).getD j false=true):j=i∨listed.getD j false=true:=by
 by_cases hij:i=j
 ·exact .inl hij.symm
 ·rw [getD_set_ne false hij] at h
  exact .inr h
theorem filled_at (a:Act) (vals:Nat→Value) (t:Nat) (ht:t<a.tmps.size):(filled ops a vals).tmps[t]?=some (match maker ops t with|some j=>vals j|none=>a.tmps[t]):=by
 simp [filled,ht]
theorem settled_at {n:Nat} (h:settled ops n=true) {j:Nat} {o:Oper} (ho:ops[j]?=some o) :
  o.guard=none∧(∀ e∈o.after,Region.binds .any e=true→e.on<j)∧(∀ d,o.dst=some d→maker ops d=some j∧d<n)∧
   ∀ t,Operand.tmp t∈o.op.operands→∀ k,maker ops t=some k→∃ e∈o.after,Region.binds .any e=true∧e.on=k:=by
 simp only [settled,Bool.and_eq_true,List.all_eq_true,List.mem_range] at h
 have h1:=h.2 j (Array.getElem?_eq_some_iff.1 ho).1
 simp only [ho,Bool.and_eq_true] at h1
 obtain ⟨⟨⟨g,e⟩,d⟩,x⟩:=h1
 refine ⟨by simpa using g,?_,?_,?_⟩
 ·intro e1 he hb
  have:=Array.all_eq_true_iff_forall_mem.1 e e1 he
  simpa [hb] using this
 ·intro d1 hd
  simp only [hd,Bool.and_eq_true,beq_iff_eq,decide_eq_true_eq] at d
  exact d
 ·intro t ht k hk
  have:=Array.all_eq_true_iff_forall_mem.1 x _ ht
  simp only [hk] at this
  obtain ⟨e1,he,hb⟩:=Array.any_eq_true'.1 this
  simp only [Bool.and_eq_true,beq_iff_eq] at hb
  exact ⟨e1,he,hb.1,hb.2⟩
theorem Kept.put {listed:Array Bool} {vals:Nat→Value} {a:Act} {w w':World} (h:Kept ops a0 wb V listed vals a w) (hst:∀ j w w' v,Since w w'→V j w v→V j w' v)
  (hs:settled ops a0.tmps.size=true) {i:Nat} {o:Oper} (ho:ops[i]?=some o) {u:Value} (hw:Since w w') (hu:V i w' u) :
  Kept ops a0 wb V (listed.setIfInBounds i true) (fun j=>if j=i then u else vals j) (a.put o.dst u) w':=by
 obtain ⟨_,_,hd,_⟩:=settled_at hs ho
 refine ⟨h.since.trans hw,?_,?_,?_,?_,?_⟩
 ·cases hdst:o.dst<;>simp [Act.put,h.defers]
 ·cases hdst:o.dst<;>simp [Act.put,h.size]
 ·intro t ht
  cases hdst:o.dst with
  | none=>exact h.base t ht
  | some d=>
   have hne:d≠t:=fun e=>by
    subst e
    rw [(hd d hdst).1] at ht
    cases ht
   simp only [Act.put,Array.getElem?_setIfInBounds_ne hne]
   exact h.base t ht
 ·intro t j hj hl hlt
  by_cases hji:j=i
  ·subst hji
   simp only [if_true]
   have hdst:o.dst=some t:=by
    have:=List.find?_some hj
    simpa [ho] using this
   have hta:t<a.tmps.size:=by rw [h.size];exact hlt
   simp only [Act.put,hdst]
   simp [hta]
  ·have hl':listed.getD j false=true:=(getD_set_or hl).resolve_left hji
   simp only [hji,if_false]
   cases hdst:o.dst with
   | none=>exact h.made t j hj hl' hlt
   | some d=>
    have hne:d≠t:=fun e=>by
     subst e
     rw [(hd d hdst).1] at hj
     exact hji (by simpa using hj.symm)
    simp only [Act.put,Array.getElem?_setIfInBounds_ne hne]
    exact h.made t j hj hl' hlt
 ·intro j hl
  by_cases hji:j=i
  ·subst hji
   simpa using hu
  ·simp only [hji,if_false]
   exact hst j _ _ _ hw (h.has j ((getD_set_or hl).resolve_left hji))
theorem Kept.exec {listed:Array Bool} {vals:Nat→Value} {a:Act} {w:World} (h:Kept ops a0 wb V listed vals a w) (hs:settled ops a0.tmps.size=true)
  {i:Nat} {o:Oper} (ho:ops[i]?=some o) (hr:∀ e∈o.after,Region.binds .any e=true→listed.getD e.on false=true) :
  execOp a.eval o=execOp (filled ops a0 vals).eval o:=by
 obtain ⟨_,_,_,hx⟩:=settled_at hs ho
 refine execOp_congr o (fun cs b=>Region.noSelect_spec (by simp only [settled,Bool.and_eq_true] at hs;exact hs.1) i o cs b ho) ?_
 intro x hxm
 cases x with
 | tmp t=>
  by_cases hlt:t<a0.tmps.size
  ·have e1:a.tmps[t]?=(filled ops a0 vals).tmps[t]?:=by
    rw [filled_at _ _ _ hlt]
    cases hm:maker ops t with
    | none=>rw [h.base t hm];simp [hlt]
    | some k=>
     obtain ⟨e,he,hb,hk⟩:=hx t hxm k hm
     subst hk
     exact h.made t _ hm (hr e he hb) hlt
   simp [Act.eval,Array.getD_eq_getD_getElem?,e1]
  ·have e1:a.tmps[t]?=none:=Array.getElem?_eq_none (by rw [h.size];exact Nat.le_of_not_lt hlt)
   have e2:(filled ops a0 vals).tmps[t]?=none:=Array.getElem?_eq_none (by simp only [filled,Array.size_mapIdx];exact Nat.le_of_not_lt hlt)
   simp [Act.eval,Array.getD_eq_getD_getElem?,e1,e2]
 | _=>rfl
theorem wpAny_drawn (hs:settled ops a0.tmps.size=true) (hst:∀ j w w' v,Since w w'→V j w v→V j w' v)
  (hop:∀ i o,ops[i]?=some o→∀ vals w,Since wb w→(∀ e∈o.after,Region.binds .any e=true→V e.on w (vals e.on))→does P o (filled ops a0 vals) w fun v w'=>Since w w'∧V i w' v)
  (hfin:∀ vals w,Since wb w→(∀ i,i<ops.size→V i w (vals i))→Q .normal (filled ops a0 vals) w) :
  ∀ (fuel:Nat) (U:List Nat) (listed:Array Bool) (vals:Nat→Value) (a:Act) (w:World),listed.size=ops.size→(∀ j,j<ops.size→listed.getD j true=false→j∈U)→U.length≤fuel→
   Kept ops a0 wb V listed vals a w→wpAny P .any ops Q fuel listed a w:=by
 have fin:∀ (listed:Array Bool) (vals:Nat→Value) (a:Act) (w:World),listed.size=ops.size→Region.ready .any ops listed=[]→Kept ops a0 wb V listed vals a w→Q .normal a w:=by
  intro listed vals a w hsz hr hk
  have hall:∀ n j,j≤n→j<ops.size→listed.getD j false=true:=by
   intro n
   induction n with
   | zero=>
    intro j hj hlt
    obtain rfl:j=0:=by omega
    refine Classical.byContradiction fun hno=>?_
    have:0∈Region.ready .any ops listed:=mem_ready.2 ⟨by simp [hsz,hlt] at hno ⊢;exact hno,ops[0],by simp [hlt],fun e he hb=>by
     have:=(settled_at hs (j:=0) (o:=ops[0]) (by simp [hlt])).2.1 e he hb
     omega⟩
    rw [hr] at this
    cases this
   | succ n ih=>
    intro j hj hlt
    by_cases hjn:j≤n
    ·exact ih j hjn hlt
    ·refine Classical.byContradiction fun hno=>?_
     have:j∈Region.ready .any ops listed:=mem_ready.2 ⟨by simp [hsz,hlt] at hno ⊢;exact hno,ops[j],by simp [hlt],fun e he hb=>by
      have:=(settled_at hs (j:=j) (o:=ops[j]) (by simp [hlt])).2.1 e he hb
      exact ih e.on (by omega) (by omega)⟩
     rw [hr] at this
     cases this
  have hV:∀ i,i<ops.size→V i w (vals i):=fun i hi=>hk.has i (hall i i (Nat.le_refl _) hi)
  have ha:a=filled ops a0 vals:=by
   have ht:a.tmps=(filled ops a0 vals).tmps:=by
    apply Array.ext_getElem?
    intro t
    by_cases hlt:t<a0.tmps.size
    ·rw [filled_at _ _ _ hlt]
     cases hm:maker ops t with
     | none=>rw [hk.base t hm];simp [hlt]
     | some k=>
      have hk2:k<ops.size:=by
       have:=List.mem_of_find?_eq_some hm
       simpa using this
      exact hk.made t k hm (hall k k (Nat.le_refl _) hk2) hlt
    ·rw [Array.getElem?_eq_none (by rw [hk.size];omega),Array.getElem?_eq_none (by simp [filled];omega)]
   cases a
   simp only [filled] at ht ⊢
   have:=hk.defers
   simp_all
  rw [ha]
  exact hfin vals w hk.since hV
 intro fuel
 induction fuel with
 | zero=>
  intro U listed vals a w hsz hU hl hk
  have hr:Region.ready .any ops listed=[]:=by
   refine List.eq_nil_iff_forall_not_mem.2 fun j hj=>?_
   obtain ⟨h0,o,ho,_⟩:=mem_ready.1 hj
   have:=hU j (Array.getElem?_eq_some_iff.1 ho).1 h0
   have hnil:U=[]:=List.length_eq_zero_iff.1 (by omega)
   rw [hnil] at this
   cases this
  exact ⟨hr,fin listed vals a w hsz hr hk⟩
 | succ fuel ih=>
  intro U listed vals a w hsz hU hl hk
  refine ⟨fun hr=>fin listed vals a w hsz hr hk,fun i hi=>?_⟩
  obtain ⟨h0,o,ho,hr⟩:=mem_ready.1 hi
  have hlt:i<ops.size:=(Array.getElem?_eq_some_iff.1 ho).1
  have hd:=hop i o ho vals w hk.since (fun e he hb=>hk.has _ (hr e he hb))
  have hnext:∀ u w',Since w w'→V i w' u→wpAny P .any ops Q fuel (listed.setIfInBounds i true) (a.put o.dst u) w':=fun u w' h1 h2=>
   ih (U.erase i) _ _ _ _ (by simp [hsz]) (fun j hj hun=>by
    have hji:j≠i:=fun e=>by
     subst e
     simp [hsz,hj] at hun
    rw [getD_set_ne true (Ne.symm hji)] at hun
    exact (List.mem_erase_of_ne hji).2 (hU j hj hun)) (by
    rw [List.length_erase_of_mem (hU i hlt h0)]
    omega) (hk.put hst hs ho h1 h2)
  unfold wpOp
  simp only [ho]
  have hg:=(settled_at hs ho).1
  have hwant:Region.wanted o (yielded ops a.tmps)=true:=by simp [Region.wanted,hg]
  rw [if_pos hwant]
  refine .inl ?_
  unfold does at hd
  rw [← hk.exec hs ho hr] at hd
  unfold Oper.wp
  generalize (execOp a.eval o).run P w=r at hd
  cases r with
  | ok n w'=>
   cases n<;>simp only [doesUpon] at hd<;>simp only [Oper.upon]
   case value u=>exact hnext u w' hd.1 hd.2
   case skip=>exact hnext undef w' hd.1 hd.2
   case enter f args=>exact hd.mono fun e w'' ⟨v,he,h1,h2⟩=>by subst he;exact hnext v w'' h1 h2
  | halt x w'=>simp only [doesUpon] at hd
end
theorem none_listed (n j:Nat):(Array.replicate n false).getD j false=false:=by
 rw [Array.getD_eq_getD_getElem?,Array.getElem?_replicate]
 split<;>rfl
theorem wp_region_drawn {P:Program} {id:Nat} {Q:Exit→Act→World→Prop} {a:Act} {w wb:World} {l:List Oper} (V:Nat→World→Value→Prop) (hm:P.follows .mixedOrders=true) (hs:settled l.toArray a.tmps.size=true) (h0:Since wb w)
  (hst:∀ j w w' v,Since w w'→V j w v→V j w' v) (F:(Nat→Value)→Act) (hF:∀ vals,F vals=filled l.toArray a vals)
  (hop:∀ i o,l[i]?=some o→∀ vals w,Since wb w→(∀ e∈o.after,Region.binds .any e=true→V e.on w (vals e.on))→does P o (F vals) w fun v w'=>Since w w'∧V i w' v)
  (hfin:∀ vals w,Since wb w→(∀ i,i<l.length→V i w (vals i))→Q .normal (F vals) w):(Code.region id l.toArray true).wp P Q a w:=by
 refine wp_region_any hm (wpAny_drawn (V:=V) (a0:=a) (wb:=wb) hs hst ?_ ?_ _ (List.range l.length) _ (fun _=>undef) _ _ (by simp) (fun j hj _=>by simpa using hj) (by simp) ⟨h0.drew,rfl,rfl,fun _ _=>rfl,?_,?_⟩)
 ·intro i o ho vals w hw hv
  have:=hop i o (by simpa using ho) vals w hw hv
  rw [hF] at this
  exact this
 ·intro vals w hw hv
  have:=hfin vals w hw (fun i hi=>hv i (by simpa using hi))
  rw [hF] at this
  exact this
 ·intro t j _ hl
  rw [none_listed] at hl
  cases hl
 ·intro j hl
  rw [none_listed] at hl
  cases hl
def eachDoes (P:Program) (V:Nat→World→Value→Prop) (F:(Nat→Value)→Act) (wb:World):Nat→List Oper→Prop
 | _,[]=>True
 | k,o :: rest=>(∀ vals x,Since wb x→(∀ e∈o.after,Region.binds .any e=true→V e.on x (vals e.on))→does P o (F vals) x fun v w'=>Since x w'∧V k w' v)∧eachDoes P V F wb (k+1) rest
theorem eachDoes_nil {P:Program} {V:Nat→World→Value→Prop} {F:(Nat→Value)→Act} {wb:World} {k:Nat}:eachDoes P V F wb k []:=trivial
theorem eachDoes_cons {P:Program} {V:Nat→World→Value→Prop} {F:(Nat→Value)→Act} {wb:World} {k:Nat} {o:Oper} {rest:List Oper} (h:eachDoes P V F wb (k+1) rest)
  (h1:∀ vals x,Since wb x→(∀ e∈o.after,Region.binds .any e=true→V e.on x (vals e.on))→does P o (F vals) x fun v w'=>Since x w'∧V k w' v):eachDoes P V F wb k (o :: rest):=⟨h1,h⟩
theorem eachDoes_at {P:Program} {V:Nat→World→Value→Prop} {F:(Nat→Value)→Act} {wb:World}:∀ (l:List Oper) (k:Nat),eachDoes P V F wb k l→∀ i o,l[i]?=some o→∀ vals x,Since wb x→
  (∀ e∈o.after,Region.binds .any e=true→V e.on x (vals e.on))→does P o (F vals) x fun v w'=>Since x w'∧V (k+i) w' v
 | [],_,_,i,o,h=>by cases h
 | o :: rest,k,h,0,o',hi=>by
  obtain rfl:o=o':=by simpa using hi
  exact h.1
 | o :: rest,k,h,i+1,o',hi=>by
  have:=eachDoes_at rest (k+1) h.2 i o' (by simpa using hi)
  rw [show k+(i+1)=k+1+i by omega]
  exact this
theorem wp_region_each {P:Program} {id:Nat} {Q:Exit→Act→World→Prop} {a:Act} {w wb:World} {l:List Oper} (V:Nat→World→Value→Prop) (F:(Nat→Value)→Act) (hm:P.follows .mixedOrders=true) (hs:settled l.toArray a.tmps.size=true) (h0:Since wb w)
  (hst:∀ j w w' v,Since w w'→V j w v→V j w' v) (hF:∀ vals,F vals=filled l.toArray a vals) (hop:eachDoes P V F wb 0 l)
  (hfin:∀ vals w,Since wb w→(∀ i,i<l.length→V i w (vals i))→Q .normal (F vals) w):(Code.region id l.toArray true).wp P Q a w:=
 wp_region_drawn V hm hs h0 hst F hF (fun i o hi vals x hx hv=>by
  have:=eachDoes_at l 0 hop i o hi vals x hx hv
  rw [Nat.zero_add] at this
  exact this) hfin
def filledTo (ops:Array Oper) (m:Nat) (a:Act) (vals:Nat→Value):Act:={tmps:=a.tmps.mapIdx fun t x=>match maker ops t with|some j=>if m≤j then x else vals j|none=>x,defers:=a.defers}
def waitsAll (ops:Array Oper) (m:Nat):Bool:=(List.range m).all fun j=>(List.range (m+1)).any fun k=>decide (j<k) && match ops[k]? with
 | none=>false
 | some o=>o.after.any fun e=>Region.binds .any e && e.on == j
def tailed (ops:Array Oper) (m:Nat):Bool:=decide (m≤ops.size) && (List.range ops.size).all fun k=>decide (k<m) || waitsAll ops k
theorem waitsAll_at {ops:Array Oper} {m:Nat} (h:waitsAll ops m=true) (j:Nat) (hj:j<m):∃ k o,j<k∧k≤m∧ops[k]?=some o∧∃ e∈o.after,Region.binds .any e=true∧e.on=j:=by
 simp only [waitsAll,List.all_eq_true,List.mem_range] at h
 obtain ⟨k,hk,hb⟩:=List.any_eq_true.1 (h j hj)
 simp only [Bool.and_eq_true,decide_eq_true_eq] at hb
 obtain ⟨hjk,hb⟩:=hb
 have hkm:k<m+1:=by simpa using hk
 cases ho:ops[k]? with
 | none=>simp [ho] at hb
 | some o=>
  simp only [ho] at hb
  obtain ⟨e,he,hb⟩:=Array.any_eq_true'.1 hb
  simp only [Bool.and_eq_true,beq_iff_eq] at hb
  exact ⟨k,o,hjk,by omega,ho,e,he,hb.1,hb.2⟩
theorem tailed_at {ops:Array Oper} {m:Nat} (h:tailed ops m=true):m≤ops.size∧∀ k,m≤k→k<ops.size→waitsAll ops k=true:=by
 simp only [tailed,Bool.and_eq_true,decide_eq_true_eq,List.all_eq_true,List.mem_range,Bool.or_eq_true] at h
 exact ⟨h.1,fun k h1 h2=>(h.2 k h2).resolve_left (by omega)⟩
def settledTo (ops:Array Oper) (n m:Nat):Bool:=Region.noSelect ops && (List.range ops.size).all fun j=>match ops[j]? with
 | none=>true
 | some o=>o.guard.isNone && o.after.all (fun e=>!Region.binds .any e || decide (e.on<j)) &&
   (match o.dst with|some d=>maker ops d == some j && decide (d<n)|none=>true) &&
   (decide (m≤j) || o.op.operands.all fun x=>match x with
    | .tmp t=>(match maker ops t with|none=>true|some k=>decide (m≤k) || o.after.any fun e=>Region.binds .any e && e.on == k)
    | _=>true)
theorem settledTo_at {ops:Array Oper} {n m:Nat} (h:settledTo ops n m=true) {j:Nat} {o:Oper} (ho:ops[j]?=some o) :
  o.guard=none∧(∀ e∈o.after,Region.binds .any e=true→e.on<j)∧(∀ d,o.dst=some d→maker ops d=some j∧d<n)∧
   (j<m→∀ t,Operand.tmp t∈o.op.operands→∀ k,maker ops t=some k→m≤k∨∃ e∈o.after,Region.binds .any e=true∧e.on=k):=by
 simp only [settledTo,Bool.and_eq_true,List.all_eq_true,List.mem_range] at h
 have h1:=h.2 j (Array.getElem?_eq_some_iff.1 ho).1
 simp only [ho,Bool.and_eq_true] at h1
 obtain ⟨⟨⟨g,e⟩,d⟩,x⟩:=h1
 refine ⟨by simpa using g,?_,?_,?_⟩
 ·intro e1 he hb
  have:=Array.all_eq_true_iff_forall_mem.1 e e1 he
  simpa [hb] using this
 ·intro d1 hd
  simp only [hd,Bool.and_eq_true,beq_iff_eq,decide_eq_true_eq] at d
  exact d
 ·intro hjm t ht k hk
  simp only [Bool.or_eq_true,decide_eq_true_eq] at x
  have x:=x.resolve_left (by omega)
  have:=Array.all_eq_true_iff_forall_mem.1 x _ ht
  simp only [hk,Bool.or_eq_true,decide_eq_true_eq] at this
  rcases this with this|this
  ·exact .inl this
  ·obtain ⟨e1,he,hb⟩:=Array.any_eq_true'.1 this
   simp only [Bool.and_eq_true,beq_iff_eq] at hb
   exact .inr ⟨e1,he,hb.1,hb.2⟩
section
variable {P:Program} {ops:Array Oper} {Q:Exit→Act→World→Prop} {a0:Act} {wb:World} {V:Nat→World→Value→Prop} {m:Nat}
theorem Kept.put_slot {listed:Array Bool} {vals:Nat→Value} {a:Act} {w w':World} (h:Kept ops a0 wb V listed vals a w) (hst:∀ j w w' v,Since w w'→V j w v→V j w' v)
  {i:Nat} {o:Oper} (ho:ops[i]?=some o) (hd:∀ d,o.dst=some d→maker ops d=some i∧d<a0.tmps.size) {u:Value} (hw:Since w w') (hu:V i w' u) :
  Kept ops a0 wb V (listed.setIfInBounds i true) (fun j=>if j=i then u else vals j) (a.put o.dst u) w':=by
 refine ⟨h.since.trans hw,?_,?_,?_,?_,?_⟩
 ·cases hdst:o.dst<;>simp [Act.put,h.defers]
 ·cases hdst:o.dst<;>simp [Act.put,h.size]
 ·intro t ht
  cases hdst:o.dst with
  | none=>exact h.base t ht
  | some d=>
   have hne:d≠t:=fun e=>by
    subst e
    rw [(hd d hdst).1] at ht
    cases ht
   simp only [Act.put,Array.getElem?_setIfInBounds_ne hne]
   exact h.base t ht
 ·intro t j hj hl hlt
  by_cases hji:j=i
  ·subst hji
   simp only [if_true]
   have hdst:o.dst=some t:=by
    have:=List.find?_some hj
    simpa [ho] using this
   have hta:t<a.tmps.size:=by rw [h.size];exact hlt
   simp only [Act.put,hdst]
   simp [hta]
  ·have hl':listed.getD j false=true:=(getD_set_or hl).resolve_left hji
   simp only [hji,if_false]
   cases hdst:o.dst with
   | none=>exact h.made t j hj hl' hlt
   | some d=>
    have hne:d≠t:=fun e=>by
     subst e
     rw [(hd d hdst).1] at hj
     exact hji (by simpa using hj.symm)
    simp only [Act.put,Array.getElem?_setIfInBounds_ne hne]
    exact h.made t j hj hl' hlt
 ·intro j hl
  by_cases hji:j=i
  ·subst hji
   simpa using hu
  ·simp only [hji,if_false]
   exact hst j _ _ _ hw (h.has j ((getD_set_or hl).resolve_left hji))
def Shut (ops:Array Oper) (listed:Array Bool):Prop:=∀ (j:Nat) (o:Oper),listed.getD j false=true→ops[j]?=some o→∀ e∈o.after,Region.binds .any e=true→listed.getD e.on false=true
theorem Shut.put {listed:Array Bool} (h:Shut ops listed) {i:Nat} {o:Oper} (ho:ops[i]?=some o) (hr:∀ e∈o.after,Region.binds .any e=true→listed.getD e.on false=true):Shut ops (listed.setIfInBounds i true):=by
 intro j oj hj hoj e he hb
 rcases getD_set_or hj with hji|hj'
 ·subst hji
  obtain rfl:o=oj:=by simpa [ho] using hoj
  exact getD_set_true (hr e he hb)
 ·exact getD_set_true (h j oj hj' hoj e he hb)
theorem Shut.below {listed:Array Bool} (h:Shut ops listed) {i:Nat} {o:Oper} (ho:ops[i]?=some o) (hw:waitsAll ops i=true) (hr:∀ e∈o.after,Region.binds .any e=true→listed.getD e.on false=true):∀ j,j<i→listed.getD j false=true:=by
 have key:∀ n j,i - j≤n→j<i→listed.getD j false=true:=by
  intro n
  induction n with
  | zero=>
   intro j h1 h2
   omega
  | succ n ihn=>
   intro j h1 h2
   obtain ⟨k,ok,hjk,hki,hok,e,he,hb,hej⟩:=waitsAll_at hw j h2
   rw [← hej]
   by_cases hk:k=i
   ·subst hk
    obtain rfl:o=ok:=by simpa [ho] using hok
    exact hr e he hb
   ·exact h k ok (ihn k (by omega) (by omega)) hok e he hb
 exact fun j hj=>key (i - j) j (Nat.le_refl _) hj
theorem all_listed (hs:settledTo ops a0.tmps.size m=true) {listed:Array Bool} (hsz:listed.size=ops.size) (hr:Region.ready .any ops listed=[]):∀ n j,j≤n→j<ops.size→listed.getD j false=true:=by
 have un:∀ j,j<ops.size→listed.getD j false=false→listed.getD j true=false:=fun j hj h=>by
  simp [hsz,hj] at h ⊢
  exact h
 intro n
 induction n with
 | zero=>
  intro j hj hlt
  obtain rfl:j=0:=by omega
  refine Classical.byContradiction fun hno=>?_
  have:0∈Region.ready .any ops listed:=mem_ready.2 ⟨un 0 hlt (by simpa using hno),ops[0],by simp [hlt],fun e he hb=>by
   have:=(settledTo_at hs (j:=0) (o:=ops[0]) (by simp [hlt])).2.1 e he hb
   omega⟩
  rw [hr] at this
  cases this
 | succ n ih=>
  intro j hj hlt
  by_cases hjn:j≤n
  ·exact ih j hjn hlt
  ·refine Classical.byContradiction fun hno=>?_
   have:j∈Region.ready .any ops listed:=mem_ready.2 ⟨un j hlt (by simpa using hno),ops[j],by simp [hlt],fun e he hb=>by
    have:=(settledTo_at hs (j:=j) (o:=ops[j]) (by simp [hlt])).2.1 e he hb
    exact ih e.on (by omega) (by omega)⟩
   rw [hr] at this
   cases this
theorem wpAny_rest (hs:settledTo ops a0.tmps.size m=true) (ht:tailed ops m=true):∀ (fuel:Nat) (rest:List Oper) (k:Nat) (listed:Array Bool) (a:Act) (w:World),(∀ j,rest[j]?=ops[k+j]?)→m≤k→k≤ops.size→listed.size=ops.size→(∀ j,j<k→listed.getD j false=true)→(∀ j,k≤j→listed.getD j false=false)→Shut ops listed→ops.size - k≤fuel→
  wpList P ops Q rest a w→wpAny P .any ops Q fuel listed a w:=by
 intro fuel
 induction fuel with
 | zero=>
  intro rest k listed a w hrest hmk hkn hsz hlo hhi hsh hf h
  obtain rfl:k=ops.size:=by omega
  have hr:Region.ready .any ops listed=[]:=by
   refine List.eq_nil_iff_forall_not_mem.2 fun j hj=>?_
   obtain ⟨hj0,oj,hoj,_⟩:=mem_ready.1 hj
   have hjlt:j<ops.size:=(Array.getElem?_eq_some_iff.1 hoj).1
   have:=hlo j hjlt
   simp [hsz,hjlt] at this hj0
   rw [this] at hj0
   cases hj0
  have hnil:rest=[]:=by
   cases rest with
   | nil=>rfl
   | cons o r=>
    have:=hrest 0
    simp at this
  subst hnil
  exact ⟨hr,h⟩
 | succ fuel ih=>
  intro rest k listed a w hrest hmk hkn hsz hlo hhi hsh hf h
  by_cases hke:k=ops.size
  ·have hr:Region.ready .any ops listed=[]:=by
    refine List.eq_nil_iff_forall_not_mem.2 fun j hj=>?_
    obtain ⟨hj0,oj,hoj,_⟩:=mem_ready.1 hj
    have hjlt:j<ops.size:=(Array.getElem?_eq_some_iff.1 hoj).1
    have:=hlo j (by omega)
    simp [hsz,hjlt] at this hj0
    rw [this] at hj0
    cases hj0
   have hnil:rest=[]:=by
    cases rest with
    | nil=>rfl
    | cons o r=>
     have:=hrest 0
     simp [hke] at this
   subst hnil
   exact ⟨fun _=>h,fun i hi=>by rw [hr] at hi;cases hi⟩
  ·have hklt:k<ops.size:=by omega
   refine ⟨fun hr=>?_,fun i hi=>?_⟩
   ·have h1:=all_listed hs hsz hr k k (Nat.le_refl _) hklt
    rw [hhi k (Nat.le_refl _)] at h1
    cases h1
   obtain ⟨h0,o,ho,hr⟩:=mem_ready.1 hi
   have hlt:i<ops.size:=(Array.getElem?_eq_some_iff.1 ho).1
   have hik:i=k:=by
    by_cases h1:i<k
    ·have:=hlo i h1
     simp [hsz,hlt] at this h0
     rw [this] at h0
     cases h0
    ·by_cases h2:k<i
     ·have h3:=hsh.below ho ((tailed_at ht).2 i (by omega) hlt) hr k h2
      rw [hhi k (Nat.le_refl _)] at h3
      cases h3
     ·omega
   subst hik
   cases rest with
   | nil=>
    have h1:=hrest 0
    rw [Nat.add_zero,ho] at h1
    cases h1
   | cons o' r=>
    obtain rfl:o=o':=by
     have h1:=hrest 0
     rw [Nat.add_zero,ho] at h1
     simpa using h1.symm
    have hg:=(settledTo_at hs ho).1
    have hwant:Region.wanted o (yielded ops a.tmps)=true:=by simp [Region.wanted,hg]
    have hnext:∀ a' w',wpList P ops Q r a' w'→wpAny P .any ops Q fuel (listed.setIfInBounds i true) a' w':=fun a' w' h1=>
     ih r (i+1) _ _ _ (fun j=>by have:=hrest (j+1);simpa [Nat.add_assoc,Nat.add_comm 1 j] using this) (by omega) (by omega) (by simp [hsz]) (fun j hj=>by
      by_cases hji:j=i
      ·subst hji
       simp [hsz,hlt]
      ·exact getD_set_true (hlo j (by omega))) (fun j hj=>by
      rw [getD_set_ne false (by omega)]
      exact hhi j (by omega)) (hsh.put ho hr) (by omega) h1
    unfold wpOp
    simp only [ho]
    rw [if_pos hwant]
    simp only [wpList] at h
    rw [if_pos hwant] at h
    rcases h with h|h
    ·exact .inl (Oper.wp_mono hnext h)
    ·exact .inr h
structure Kept3 (ops:Array Oper) (a0:Act) (wb:World) (V:Nat→World→Value→Prop) (m:Nat) (listed:Array Bool) (vals:Nat→Value) (a:Act) (w:World):Prop where
 kept:Kept ops a0 wb V listed vals a w
 rest:∀ t j:Nat,maker ops t=some j→m≤j→a.tmps[t]?=a0.tmps[t]?
 shut:Shut ops listed
 none_yet:∀ j,m≤j→listed.getD j false=false
theorem filledTo_at (a:Act) (vals:Nat→Value) (t:Nat) (ht:t<a.tmps.size):(filledTo ops m a vals).tmps[t]?=some (match maker ops t with|some j=>if m≤j then a.tmps[t] else vals j|none=>a.tmps[t]):=by
 simp [filledTo,ht]
theorem Kept3.put {listed:Array Bool} {vals:Nat→Value} {a:Act} {w w':World} (h:Kept3 ops a0 wb V m listed vals a w) (hst:∀ j w w' v,Since w w'→V j w v→V j w' v)
  (hs:settledTo ops a0.tmps.size m=true) {i:Nat} {o:Oper} (ho:ops[i]?=some o) (him:i<m) (hr:∀ e∈o.after,Region.binds .any e=true→listed.getD e.on false=true) {u:Value} (hw:Since w w') (hu:V i w' u) :
  Kept3 ops a0 wb V m (listed.setIfInBounds i true) (fun j=>if j=i then u else vals j) (a.put o.dst u) w':=by
 refine ⟨h.kept.put_slot hst ho (settledTo_at hs ho).2.2.1 hw hu,fun t j ht hj=>?_,h.shut.put ho hr,fun j hj=>?_⟩
 case refine_2=>
  rw [getD_set_ne false (by omega)]
  exact h.none_yet j hj
 obtain ⟨_,_,hd,_⟩:=settledTo_at hs ho
 cases hdst:o.dst with
 | none=>exact h.rest t j ht hj
 | some d=>
  have hne:d≠t:=fun e=>by
   subst e
   rw [(hd d hdst).1] at ht
   have:i=j:=by simpa using ht
   omega
  simp only [Act.put,Array.getElem?_setIfInBounds_ne hne]
  exact h.rest t j ht hj
theorem Kept3.exec {listed:Array Bool} {vals:Nat→Value} {a:Act} {w:World} (h:Kept3 ops a0 wb V m listed vals a w) (hs:settledTo ops a0.tmps.size m=true)
  {i:Nat} {o:Oper} (ho:ops[i]?=some o) (him:i<m) (hr:∀ e∈o.after,Region.binds .any e=true→listed.getD e.on false=true) :
  execOp a.eval o=execOp (filledTo ops m a0 vals).eval o:=by
 obtain ⟨_,hlt',_,hx⟩:=settledTo_at hs ho
 refine execOp_congr o (fun cs b=>Region.noSelect_spec (by simp only [settledTo,Bool.and_eq_true] at hs;exact hs.1) i o cs b ho) ?_
 intro x hxm
 cases x with
 | tmp t=>
  by_cases hlt:t<a0.tmps.size
  ·have e1:a.tmps[t]?=(filledTo ops m a0 vals).tmps[t]?:=by
    rw [filledTo_at _ _ _ hlt]
    cases hmk:maker ops t with
    | none=>rw [h.kept.base t hmk];simp [hlt]
    | some k=>
     rcases hx him t hxm k hmk with hmk2|⟨e,he,hb,hk⟩
     ·simp only [hmk2,if_true]
      rw [h.rest t k hmk hmk2]
      simp [hlt]
     subst hk
     have:=hlt' e he hb
     simp only [show ¬ m≤e.on by omega,if_false]
     exact h.kept.made t _ hmk (hr e he hb) hlt
   simp [Act.eval,Array.getD_eq_getD_getElem?,e1]
  ·have e1:a.tmps[t]?=none:=Array.getElem?_eq_none (by rw [h.kept.size];exact Nat.le_of_not_lt hlt)
   have e2:(filledTo ops m a0 vals).tmps[t]?=none:=Array.getElem?_eq_none (by simp only [filledTo,Array.size_mapIdx];exact Nat.le_of_not_lt hlt)
   simp [Act.eval,Array.getD_eq_getD_getElem?,e1,e2]
 | _=>rfl
theorem Kept3.frame {listed:Array Bool} {vals:Nat→Value} {a:Act} {w:World} (h:Kept3 ops a0 wb V m listed vals a w) (hall:∀ j,j<m→listed.getD j false=true):a=filledTo ops m a0 vals:=by
 have ht:a.tmps=(filledTo ops m a0 vals).tmps:=by
  apply Array.ext_getElem?
  intro t
  by_cases hlt2:t<a0.tmps.size
  ·rw [filledTo_at _ _ _ hlt2]
   cases hmk:maker ops t with
   | none=>rw [h.kept.base t hmk];simp [hlt2]
   | some k=>
    by_cases hki:m≤k
    ·simp only [hki,if_true]
     rw [h.rest t k hmk hki]
     simp [hlt2]
    ·simp only [hki,if_false]
     exact h.kept.made t k hmk (hall k (by omega)) hlt2
  ·rw [Array.getElem?_eq_none (by rw [h.kept.size];omega),Array.getElem?_eq_none (by simp [filledTo];omega)]
 cases a
 simp only [filledTo] at ht ⊢
 have:=h.kept.defers
 simp_all
theorem wpAny_head (hs:settledTo ops a0.tmps.size m=true) (htl:tailed ops m=true) (hst:∀ j w w' v,Since w w'→V j w v→V j w' v)
  (hop:∀ i o,ops[i]?=some o→i<m→∀ vals w,Since wb w→(∀ e∈o.after,Region.binds .any e=true→V e.on w (vals e.on))→does P o (filledTo ops m a0 vals) w fun v w'=>Since w w'∧V i w' v)
  (rest:List Oper) (hrest:∀ j,rest[j]?=ops[m+j]?) (hfin:∀ vals w,Since wb w→(∀ i,i<m→V i w (vals i))→wpList P ops Q rest (filledTo ops m a0 vals) w) :
  ∀ (fuel:Nat) (U:List Nat) (listed:Array Bool) (vals:Nat→Value) (a:Act) (w:World),listed.size=ops.size→(∀ j,j<m→listed.getD j true=false→j∈U)→U.length+(ops.size - m)≤fuel→
   Kept3 ops a0 wb V m listed vals a w→wpAny P .any ops Q fuel listed a w:=by
 obtain ⟨hmn,hwt⟩:=tailed_at htl
 have un:∀ (listed:Array Bool),listed.size=ops.size→∀ j,j<ops.size→listed.getD j false=false→listed.getD j true=false:=fun listed hsz j hj h=>by
  simp [hsz,hj] at h ⊢
  exact h
 have done:∀ (fuel:Nat) (listed:Array Bool) (vals:Nat→Value) (a:Act) (w:World),listed.size=ops.size→ops.size - m≤fuel→(∀ j,j<m→listed.getD j false=true)→Kept3 ops a0 wb V m listed vals a w→wpAny P .any ops Q fuel listed a w:=by
  intro fuel listed vals a w hsz hf hall hk
  refine wpAny_rest hs htl fuel rest m listed a w hrest (Nat.le_refl _) hmn hsz hall hk.none_yet hk.shut hf ?_
  rw [hk.frame hall]
  exact hfin vals w hk.kept.since (fun i hi=>hk.kept.has i (hall i hi))
 intro fuel
 induction fuel with
 | zero=>
  intro U listed vals a w hsz hU hl hk
  have hnil:U=[]:=List.length_eq_zero_iff.1 (by omega)
  refine done 0 listed vals a w hsz (by omega) (fun j hj=>?_) hk
  refine Classical.byContradiction fun hno=>?_
  have:=hU j hj (un listed hsz j (by omega) (by simpa using hno))
  rw [hnil] at this
  cases this
 | succ fuel ih=>
  intro U listed vals a w hsz hU hl hk
  by_cases hall:∀ j,j<m→listed.getD j false=true
  ·exact done (fuel+1) listed vals a w hsz (by omega) hall hk
  refine ⟨fun hr=>absurd (fun j hj=>all_listed hs hsz hr j j (Nat.le_refl _) (by omega)) hall,fun i hi=>?_⟩
  obtain ⟨h0,o,ho,hr⟩:=mem_ready.1 hi
  have hlt:i<ops.size:=(Array.getElem?_eq_some_iff.1 ho).1
  have him:i<m:=Classical.byContradiction fun hno=>hall fun j hj=>hk.shut.below ho (hwt i (by omega) hlt) hr j (by omega)
  unfold wpOp
  simp only [ho]
  have hg:=(settledTo_at hs ho).1
  have hwant:Region.wanted o (yielded ops a.tmps)=true:=by simp [Region.wanted,hg]
  rw [if_pos hwant]
  refine .inl ?_
  have hd:=hop i o ho him vals w hk.kept.since (fun e he hb=>hk.kept.has _ (hr e he hb))
  have hnext:∀ u w',Since w w'→V i w' u→wpAny P .any ops Q fuel (listed.setIfInBounds i true) (a.put o.dst u) w':=fun u w' h1 h2=>
   ih (U.erase i) _ _ _ _ (by simp [hsz]) (fun j hj hun=>by
    have hji:j≠i:=fun e=>by
     subst e
     simp [hsz,hlt] at hun
    rw [getD_set_ne true (Ne.symm hji)] at hun
    exact (List.mem_erase_of_ne hji).2 (hU j hj hun)) (by
    have hmem:=hU i him h0
    have hpos:0<U.length:=List.length_pos_of_mem hmem
    rw [List.length_erase_of_mem hmem]
    omega) (hk.put hst hs ho him hr h1 h2)
  unfold does at hd
  rw [← hk.exec hs ho him hr] at hd
  unfold Oper.wp
  generalize (execOp a.eval o).run P w=r at hd
  cases r with
  | ok n w'=>
   cases n<;>simp only [doesUpon] at hd<;>simp only [Oper.upon]
   case value u=>exact hnext u w' hd.1 hd.2
   case skip=>exact hnext undef w' hd.1 hd.2
   case enter f args=>exact hd.mono fun e w'' ⟨v,he,h1,h2⟩=>by subst he;exact hnext v w'' h1 h2
  | halt x w'=>simp only [doesUpon] at hd
end
theorem wp_region_tail {P:Program} {id:Nat} {Q:Exit→Act→World→Prop} {a:Act} {w wb:World} {l:List Oper} (m:Nat) (V:Nat→World→Value→Prop) (F:(Nat→Value)→Act) (hm:P.follows .mixedOrders=true) (hs:settledTo l.toArray a.tmps.size m=true) (htl:tailed l.toArray m=true) (h0:Since wb w)
  (hst:∀ j w w' v,Since w w'→V j w v→V j w' v) (hF:∀ vals,F vals=filledTo l.toArray m a vals) (hop:eachDoes P V F wb 0 (l.take m))
  (hfin:∀ vals w,Since wb w→(∀ i,i<m→V i w (vals i))→wpList P l.toArray Q (l.drop m) (F vals) w):(Code.region id l.toArray true).wp P Q a w:=by
 have hmn:m≤l.length:=by simpa using (tailed_at htl).1
 refine wp_region_any hm (wpAny_head (V:=V) (a0:=a) (wb:=wb) hs htl hst ?_ (l.drop m) (fun j=>by simp) ?_ _ (List.range m) _ (fun _=>undef) _ _ (by simp) (fun j hj _=>by simpa using hj) (by simp;omega) ⟨⟨h0.drew,rfl,rfl,fun _ _=>rfl,?_,?_⟩,fun _ _ _ _=>rfl,?_,fun j _=>none_listed _ _⟩)
 ·intro i o ho him vals w hw hv
  have:=eachDoes_at (l.take m) 0 hop i o (by simpa [him] using ho) vals w hw hv
  rw [Nat.zero_add,hF] at this
  exact this
 ·intro vals w hw hv
  have:=hfin vals w hw hv
  rw [hF] at this
  exact this
 ·intro t j _ hl
  rw [none_listed] at hl
  cases hl
 ·intro j hl
  rw [none_listed] at hl
  cases hl
 ·intro j o hl
  rw [none_listed] at hl
  cases hl
section
variable {P:Program} {ops:Array Oper} {Q:Exit→Act→World→Prop} {a0:Act} {wb:World} {V:Nat→World→Value→Prop} {m:Nat} {R:World→World→Prop}
structure KeptR (R:World→World→Prop) (ops:Array Oper) (a0:Act) (wb:World) (V:Nat→World→Value→Prop) (listed:Array Bool) (vals:Nat→Value) (a:Act) (w:World):Prop where
 since:R wb w
 defers:a.defers=a0.defers
 size:a.tmps.size=a0.tmps.size
 base:∀ t:Nat,maker ops t=none→a.tmps[t]?=a0.tmps[t]?
 made:∀ t j:Nat,maker ops t=some j→listed.getD j false=true→t<a0.tmps.size→a.tmps[t]?=some (vals j)
 has:∀ j:Nat,listed.getD j false=true→V j w (vals j)
theorem KeptR.put_slot {listed:Array Bool} {vals:Nat→Value} {a:Act} {w w':World} (h:KeptR R ops a0 wb V listed vals a w) (hRt:∀ a b c,R a b→R b c→R a c) (hst:∀ j w w' v,R w w'→V j w v→V j w' v)
  {i:Nat} {o:Oper} (ho:ops[i]?=some o) (hd:∀ d,o.dst=some d→maker ops d=some i∧d<a0.tmps.size) {u:Value} (hw:R w w') (hu:V i w' u) :
  KeptR R ops a0 wb V (listed.setIfInBounds i true) (fun j=>if j=i then u else vals j) (a.put o.dst u) w':=by
 refine ⟨hRt _ _ _ h.since hw,?_,?_,?_,?_,?_⟩
 ·cases hdst:o.dst<;>simp [Act.put,h.defers]
 ·cases hdst:o.dst<;>simp [Act.put,h.size]
 ·intro t ht
  cases hdst:o.dst with
  | none=>exact h.base t ht
  | some d=>
   have hne:d≠t:=fun e=>by
    subst e
    rw [(hd d hdst).1] at ht
    cases ht
   simp only [Act.put,Array.getElem?_setIfInBounds_ne hne]
   exact h.base t ht
 ·intro t j hj hl hlt
  by_cases hji:j=i
  ·subst hji
   simp only [if_true]
   have hdst:o.dst=some t:=by
    have:=List.find?_some hj
    simpa [ho] using this
   have hta:t<a.tmps.size:=by rw [h.size];exact hlt
   simp only [Act.put,hdst]
   simp [hta]
  ·have hl':listed.getD j false=true:=(getD_set_or hl).resolve_left hji
   simp only [hji,if_false]
   cases hdst:o.dst with
   | none=>exact h.made t j hj hl' hlt
   | some d=>
    have hne:d≠t:=fun e=>by
     subst e
     rw [(hd d hdst).1] at hj
     exact hji (by simpa using hj.symm)
    simp only [Act.put,Array.getElem?_setIfInBounds_ne hne]
    exact h.made t j hj hl' hlt
 ·intro j hl
  by_cases hji:j=i
  ·subst hji
   simpa using hu
  ·simp only [hji,if_false]
   exact hst j _ _ _ hw (h.has j ((getD_set_or hl).resolve_left hji))
structure KeptR3 (R:World→World→Prop) (ops:Array Oper) (a0:Act) (wb:World) (V:Nat→World→Value→Prop) (m:Nat) (listed:Array Bool) (vals:Nat→Value) (a:Act) (w:World):Prop where
 kept:KeptR R ops a0 wb V listed vals a w
 rest:∀ t j:Nat,maker ops t=some j→m≤j→a.tmps[t]?=a0.tmps[t]?
 shut:Shut ops listed
 none_yet:∀ j,m≤j→listed.getD j false=false
theorem KeptR3.put {listed:Array Bool} {vals:Nat→Value} {a:Act} {w w':World} (h:KeptR3 R ops a0 wb V m listed vals a w) (hRt:∀ a b c,R a b→R b c→R a c) (hst:∀ j w w' v,R w w'→V j w v→V j w' v)
  (hs:settledTo ops a0.tmps.size m=true) {i:Nat} {o:Oper} (ho:ops[i]?=some o) (him:i<m) (hr:∀ e∈o.after,Region.binds .any e=true→listed.getD e.on false=true) {u:Value} (hw:R w w') (hu:V i w' u) :
  KeptR3 R ops a0 wb V m (listed.setIfInBounds i true) (fun j=>if j=i then u else vals j) (a.put o.dst u) w':=by
 refine ⟨h.kept.put_slot hRt hst ho (settledTo_at hs ho).2.2.1 hw hu,fun t j ht hj=>?_,h.shut.put ho hr,fun j hj=>?_⟩
 case refine_2=>
  rw [getD_set_ne false (by omega)]
  exact h.none_yet j hj
 obtain ⟨_,_,hd,_⟩:=settledTo_at hs ho
 cases hdst:o.dst with
 | none=>exact h.rest t j ht hj
 | some d=>
  have hne:d≠t:=fun e=>by
   subst e
   rw [(hd d hdst).1] at ht
   have:i=j:=by simpa using ht
   omega
  simp only [Act.put,Array.getElem?_setIfInBounds_ne hne]
  exact h.rest t j ht hj
theorem KeptR3.exec {listed:Array Bool} {vals:Nat→Value} {a:Act} {w:World} (h:KeptR3 R ops a0 wb V m listed vals a w) (hs:settledTo ops a0.tmps.size m=true)
  {i:Nat} {o:Oper} (ho:ops[i]?=some o) (him:i<m) (hr:∀ e∈o.after,Region.binds .any e=true→listed.getD e.on false=true) :
  execOp a.eval o=execOp (filledTo ops m a0 vals).eval o:=by
 obtain ⟨_,hlt',_,hx⟩:=settledTo_at hs ho
 refine execOp_congr o (fun cs b=>Region.noSelect_spec (by simp only [settledTo,Bool.and_eq_true] at hs;exact hs.1) i o cs b ho) ?_
 intro x hxm
 cases x with
 | tmp t=>
  by_cases hlt:t<a0.tmps.size
  ·have e1:a.tmps[t]?=(filledTo ops m a0 vals).tmps[t]?:=by
    rw [filledTo_at _ _ _ hlt]
    cases hmk:maker ops t with
    | none=>rw [h.kept.base t hmk];simp [hlt]
    | some k=>
     rcases hx him t hxm k hmk with hmk2|⟨e,he,hb,hk⟩
     ·simp only [hmk2,if_true]
      rw [h.rest t k hmk hmk2]
      simp [hlt]
     subst hk
     have:=hlt' e he hb
     simp only [show ¬ m≤e.on by omega,if_false]
     exact h.kept.made t _ hmk (hr e he hb) hlt
   simp [Act.eval,Array.getD_eq_getD_getElem?,e1]
  ·have e1:a.tmps[t]?=none:=Array.getElem?_eq_none (by rw [h.kept.size];exact Nat.le_of_not_lt hlt)
   have e2:(filledTo ops m a0 vals).tmps[t]?=none:=Array.getElem?_eq_none (by simp only [filledTo,Array.size_mapIdx];exact Nat.le_of_not_lt hlt)
   simp [Act.eval,Array.getD_eq_getD_getElem?,e1,e2]
 | _=>rfl
theorem KeptR3.frame {listed:Array Bool} {vals:Nat→Value} {a:Act} {w:World} (h:KeptR3 R ops a0 wb V m listed vals a w) (hall:∀ j,j<m→listed.getD j false=true):a=filledTo ops m a0 vals:=by
 have ht:a.tmps=(filledTo ops m a0 vals).tmps:=by
  apply Array.ext_getElem?
  intro t
  by_cases hlt2:t<a0.tmps.size
  ·rw [filledTo_at _ _ _ hlt2]
   cases hmk:maker ops t with
   | none=>rw [h.kept.base t hmk];simp [hlt2]
   | some k=>
    by_cases hki:m≤k
    ·simp only [hki,if_true]
     rw [h.rest t k hmk hki]
     simp [hlt2]
    ·simp only [hki,if_false]
     exact h.kept.made t k hmk (hall k (by omega)) hlt2
  ·rw [Array.getElem?_eq_none (by rw [h.kept.size];omega),Array.getElem?_eq_none (by simp [filledTo];omega)]
 cases a
 simp only [filledTo] at ht ⊢
 have:=h.kept.defers
 simp_all
theorem wpAny_headR (hs:settledTo ops a0.tmps.size m=true) (htl:tailed ops m=true) (hRt:∀ a b c,R a b→R b c→R a c) (hst:∀ j w w' v,R w w'→V j w v→V j w' v)
  (hop:∀ i o,ops[i]?=some o→i<m→∀ vals w,R wb w→(∀ e∈o.after,Region.binds .any e=true→V e.on w (vals e.on))→does P o (filledTo ops m a0 vals) w fun v w'=>R w w'∧V i w' v)
  (rest:List Oper) (hrest:∀ j,rest[j]?=ops[m+j]?) (hfin:∀ vals w,R wb w→(∀ i,i<m→V i w (vals i))→wpList P ops Q rest (filledTo ops m a0 vals) w) :
  ∀ (fuel:Nat) (U:List Nat) (listed:Array Bool) (vals:Nat→Value) (a:Act) (w:World),listed.size=ops.size→(∀ j,j<m→listed.getD j true=false→j∈U)→U.length+(ops.size - m)≤fuel→
   KeptR3 R ops a0 wb V m listed vals a w→wpAny P .any ops Q fuel listed a w:=by
 obtain ⟨hmn,hwt⟩:=tailed_at htl
 have un:∀ (listed:Array Bool),listed.size=ops.size→∀ j,j<ops.size→listed.getD j false=false→listed.getD j true=false:=fun listed hsz j hj h=>by
  simp [hsz,hj] at h ⊢
  exact h
 have done:∀ (fuel:Nat) (listed:Array Bool) (vals:Nat→Value) (a:Act) (w:World),listed.size=ops.size→ops.size - m≤fuel→(∀ j,j<m→listed.getD j false=true)→KeptR3 R ops a0 wb V m listed vals a w→wpAny P .any ops Q fuel listed a w:=by
  intro fuel listed vals a w hsz hf hall hk
  refine wpAny_rest hs htl fuel rest m listed a w hrest (Nat.le_refl _) hmn hsz hall hk.none_yet hk.shut hf ?_
  rw [hk.frame hall]
  exact hfin vals w hk.kept.since (fun i hi=>hk.kept.has i (hall i hi))
 intro fuel
 induction fuel with
 | zero=>
  intro U listed vals a w hsz hU hl hk
  have hnil:U=[]:=List.length_eq_zero_iff.1 (by omega)
  refine done 0 listed vals a w hsz (by omega) (fun j hj=>?_) hk
  refine Classical.byContradiction fun hno=>?_
  have:=hU j hj (un listed hsz j (by omega) (by simpa using hno))
  rw [hnil] at this
  cases this
 | succ fuel ih=>
  intro U listed vals a w hsz hU hl hk
  by_cases hall:∀ j,j<m→listed.getD j false=true
  ·exact done (fuel+1) listed vals a w hsz (by omega) hall hk
  refine ⟨fun hr=>absurd (fun j hj=>all_listed hs hsz hr j j (Nat.le_refl _) (by omega)) hall,fun i hi=>?_⟩
  obtain ⟨h0,o,ho,hr⟩:=mem_ready.1 hi
  have hlt:i<ops.size:=(Array.getElem?_eq_some_iff.1 ho).1
  have him:i<m:=Classical.byContradiction fun hno=>hall fun j hj=>hk.shut.below ho (hwt i (by omega) hlt) hr j (by omega)
  unfold wpOp
  simp only [ho]
  have hg:=(settledTo_at hs ho).1
  have hwant:Region.wanted o (yielded ops a.tmps)=true:=by simp [Region.wanted,hg]
  rw [if_pos hwant]
  refine .inl ?_
  have hd:=hop i o ho him vals w hk.kept.since (fun e he hb=>hk.kept.has _ (hr e he hb))
  have hnext:∀ u w',R w w'→V i w' u→wpAny P .any ops Q fuel (listed.setIfInBounds i true) (a.put o.dst u) w':=fun u w' h1 h2=>
   ih (U.erase i) _ _ _ _ (by simp [hsz]) (fun j hj hun=>by
    have hji:j≠i:=fun e=>by
     subst e
     simp [hsz,hlt] at hun
    rw [getD_set_ne true (Ne.symm hji)] at hun
    exact (List.mem_erase_of_ne hji).2 (hU j hj hun)) (by
    have hmem:=hU i him h0
    have hpos:0<U.length:=List.length_pos_of_mem hmem
    rw [List.length_erase_of_mem hmem]
    omega) (hk.put hRt hst hs ho him hr h1 h2)
  unfold does at hd
  rw [← hk.exec hs ho him hr] at hd
  unfold Oper.wp
  generalize (execOp a.eval o).run P w=r at hd
  cases r with
  | ok n w'=>
   cases n<;>simp only [doesUpon] at hd<;>simp only [Oper.upon]
   case value u=>exact hnext u w' hd.1 hd.2
   case skip=>exact hnext undef w' hd.1 hd.2
   case enter f args=>exact hd.mono fun e w'' ⟨v,he,h1,h2⟩=>by subst he;exact hnext v w'' h1 h2
  | halt x w'=>simp only [doesUpon] at hd
end
def eachDoesR (P:Program) (R:World→World→Prop) (V:Nat→World→Value→Prop) (F:(Nat→Value)→Act) (wb:World):Nat→List Oper→Prop
 | _,[]=>True
 | k,o :: rest=>(∀ vals x,R wb x→(∀ e∈o.after,Region.binds .any e=true→V e.on x (vals e.on))→does P o (F vals) x fun v w'=>R x w'∧V k w' v)∧eachDoesR P R V F wb (k+1) rest
theorem eachDoesR_nil {P:Program} {R:World→World→Prop} {V:Nat→World→Value→Prop} {F:(Nat→Value)→Act} {wb:World} {k:Nat}:eachDoesR P R V F wb k []:=trivial
theorem eachDoesR_cons {P:Program} {R:World→World→Prop} {V:Nat→World→Value→Prop} {F:(Nat→Value)→Act} {wb:World} {k:Nat} {o:Oper} {rest:List Oper} (h:eachDoesR P R V F wb (k+1) rest)
  (h1:∀ vals x,R wb x→(∀ e∈o.after,Region.binds .any e=true→V e.on x (vals e.on))→does P o (F vals) x fun v w'=>R x w'∧V k w' v):eachDoesR P R V F wb k (o :: rest):=⟨h1,h⟩
theorem eachDoesR_at {P:Program} {R:World→World→Prop} {V:Nat→World→Value→Prop} {F:(Nat→Value)→Act} {wb:World}:∀ (l:List Oper) (k:Nat),eachDoesR P R V F wb k l→∀ i o,l[i]?=some o→∀ vals x,R wb x→
  (∀ e∈o.after,Region.binds .any e=true→V e.on x (vals e.on))→does P o (F vals) x fun v w'=>R x w'∧V (k+i) w' v
 | [],_,_,i,o,h=>by cases h
 | o :: rest,k,h,0,o',hi=>by
  obtain rfl:o=o':=by simpa using hi
  exact h.1
 | o :: rest,k,h,i+1,o',hi=>by
  have:=eachDoesR_at rest (k+1) h.2 i o' (by simpa using hi)
  rw [show k+(i+1)=k+1+i by omega]
  exact this
theorem wp_region_tailR {P:Program} {id:Nat} {Q:Exit→Act→World→Prop} {a:Act} {w wb:World} {l:List Oper} (R:World→World→Prop) (m:Nat) (V:Nat→World→Value→Prop) (F:(Nat→Value)→Act) (hm:P.follows .mixedOrders=true) (hs:settledTo l.toArray a.tmps.size m=true) (htl:tailed l.toArray m=true) (hRt:∀ a b c,R a b→R b c→R a c) (h0:R wb w.drew)
  (hst:∀ j w w' v,R w w'→V j w v→V j w' v) (hF:∀ vals,F vals=filledTo l.toArray m a vals) (hop:eachDoesR P R V F wb 0 (l.take m))
  (hfin:∀ vals w,R wb w→(∀ i,i<m→V i w (vals i))→wpList P l.toArray Q (l.drop m) (F vals) w):(Code.region id l.toArray true).wp P Q a w:=by
 have hmn:m≤l.length:=by simpa using (tailed_at htl).1
 refine wp_region_any hm (wpAny_headR (V:=V) (a0:=a) (wb:=wb) (R:=R) hs htl hRt hst ?_ (l.drop m) (fun j=>by simp) ?_ _ (List.range m) _ (fun _=>undef) _ _ (by simp) (fun j hj _=>by simpa using hj) (by simp;omega) ⟨⟨h0,rfl,rfl,fun _ _=>rfl,?_,?_⟩,fun _ _ _ _=>rfl,?_,fun j _=>none_listed _ _⟩)
 ·intro i o ho him vals w hw hv
  have:=eachDoesR_at (l.take m) 0 hop i o (by simpa [him] using ho) vals w hw hv
  rw [Nat.zero_add,hF] at this
  exact this
 ·intro vals w hw hv
  have:=hfin vals w hw hv
  rw [hF] at this
  exact this
 ·intro t j _ hl
  rw [none_listed] at hl
  cases hl
 ·intro j hl
  rw [none_listed] at hl
  cases hl
 ·intro j o hl
  rw [none_listed] at hl
  cases hl
end Go.Proofs.YtmigalhmlofbkaaGreatDoor
namespace Go.Proofs.YtmigalhmlofbkaaGreatDoor
open Go.ChangeShapes Go.WideShapes Go.ChangeAt Go.RowKit Go.Deep
def Raw (g n:Nat) (x:World):Prop:=∃ cs:Array Value,cs.size=n∧Blk g x cs
structure KeepB (g:Nat) (fin:Array Value) (x y:World):Prop where
 touch:Touch g x y
 done:Blk g x fin→Blk g y fin
 raw:Raw g fin.size x→Raw g fin.size y
theorem KeepB.refl (g:Nat) (fin:Array Value) (x:World):KeepB g fin x x:=⟨Touch.refl _ _,id,id⟩
theorem KeepB.trans {g:Nat} {fin:Array Value} (x y z:World) (h:KeepB g fin x y) (k:KeepB g fin y z):KeepB g fin x z:=⟨h.touch.trans k.touch,fun b=>k.done (h.done b),fun b=>k.raw (h.raw b)⟩
theorem KeepB.of_since {g:Nat} {fin:Array Value} {x y:World} (h:Since x y):KeepB g fin x y:=⟨Touch.of_since h g,fun b=>b.since h,fun ⟨cs,e,b⟩=>⟨cs,e,b.since h⟩⟩
theorem KeepB.drew {g:Nat} {fin:Array Value} (x:World):KeepB g fin x x.drew:=KeepB.of_since ((Since.refl _).drew)
theorem KeepB.since {g:Nat} {fin:Array Value} {w x y:World} (h:Since w x) (k:KeepB g fin x y) (hg:w.heap.size≤g):Since w y:=Since.touch h k.touch hg
theorem Raw.cell {g n:Nat} {x:World} (h:Raw g n x) (i:Nat) (hi:i<n):∃ u,x.cell? ⟨g,i,none⟩=some u:=by
 obtain ⟨cs,e,b⟩:=h
 exact ⟨cs[i],by rw [b.cell i];simp⟩
theorem Raw.fz {g n:Nat} {x:World} (h:Raw g n x) (i:Nat):x.frozen? ⟨g,i,none⟩=false:=by
 obtain ⟨cs,e,b⟩:=h
 exact b.fz i
theorem Raw.put {g n:Nat} {x:World} (h:Raw g n x) (i:Nat) (hi:i<n) (v:Value):Raw g n (x.setCell ⟨g,i,none⟩ v):=by
 obtain ⟨cs,e,b⟩:=h
 exact ⟨_,by simpa using e,b.put i v (by omega)⟩
theorem Raw.store3 {g:Nat} {x:World} (h:Raw g 3 x) (v0 v1 v2:Value):KeepB g #[v0,v1,v2] x (((x.setCell ⟨g,0,none⟩ v0).setCell ⟨g,1,none⟩ v1).setCell ⟨g,2,none⟩ v2)∧Blk g (((x.setCell ⟨g,0,none⟩ v0).setCell ⟨g,1,none⟩ v1).setCell ⟨g,2,none⟩ v2) #[v0,v1,v2]:=by
 have hb:Blk g (((x.setCell ⟨g,0,none⟩ v0).setCell ⟨g,1,none⟩ v1).setCell ⟨g,2,none⟩ v2) #[v0,v1,v2]:=by
  obtain ⟨⟨l⟩,e,b⟩:=h
  match l,e with
  | [c0,c1,c2],_=>exact ((b.put 0 v0 (by simp)).put 1 v1 (by simp)).put 2 v2 (by simp)
 exact ⟨⟨(((Touch.refl g x).put 0 v0).put 1 v1).put 2 v2,fun _=>hb,fun _=>⟨_,rfl,hb⟩⟩,hb⟩
theorem Raw.store4 {g:Nat} {x:World} (h:Raw g 4 x) (v0 v1 v2 v3:Value):KeepB g #[v0,v1,v2,v3] x ((((x.setCell ⟨g,0,none⟩ v0).setCell ⟨g,1,none⟩ v1).setCell ⟨g,2,none⟩ v2).setCell ⟨g,3,none⟩ v3)∧Blk g ((((x.setCell ⟨g,0,none⟩ v0).setCell ⟨g,1,none⟩ v1).setCell ⟨g,2,none⟩ v2).setCell ⟨g,3,none⟩ v3) #[v0,v1,v2,v3]:=by
 have hb:Blk g ((((x.setCell ⟨g,0,none⟩ v0).setCell ⟨g,1,none⟩ v1).setCell ⟨g,2,none⟩ v2).setCell ⟨g,3,none⟩ v3) #[v0,v1,v2,v3]:=by
  obtain ⟨⟨l⟩,e,b⟩:=h
  match l,e with
  | [c0,c1,c2,c3],_=>exact (((b.put 0 v0 (by simp)).put 1 v1 (by simp)).put 2 v2 (by simp)).put 3 v3 (by simp)
 exact ⟨⟨((((Touch.refl g x).put 0 v0).put 1 v1).put 2 v2).put 3 v3,fun _=>hb,fun _=>⟨_,rfl,hb⟩⟩,hb⟩
theorem wp_region_keep {P:Program} {id:Nat} {Q:Exit→Act→World→Prop} {a:Act} {w wb:World} {l:List Oper} (g:Nat) (fin:Array Value) (V:Nat→World→Value→Prop) (F:(Nat→Value)→Act) (hm:P.follows .mixedOrders=true) (hs:settledTo l.toArray a.tmps.size l.length=true) (htl:tailed l.toArray l.length=true) (h0:KeepB g fin wb w)
  (hst:∀ j w w' v,KeepB g fin w w'→V j w v→V j w' v) (hF:∀ vals,F vals=filledTo l.toArray l.length a vals) (hop:eachDoesR P (KeepB g fin) V F wb 0 l)
  (hfin:∀ vals w,KeepB g fin wb w→(∀ i,i<l.length→V i w (vals i))→Q .normal (F vals) w):(Code.region id l.toArray true).wp P Q a w:=by
 refine wp_region_tailR (KeepB g fin) l.length V F hm hs htl KeepB.trans (KeepB.trans _ _ _ h0 (KeepB.drew _)) hst hF (by rw [List.take_length];exact hop) fun vals w hw hv=>?_
 rw [List.drop_length]
 exact hfin vals w hw hv
structure KeepI (g n:Nat) (I:World→Prop) (x y:World):Prop where
 touch:Touch g x y
 keep:I x→I y
 raw:Raw g n x→Raw g n y
theorem KeepI.refl (g n:Nat) (I:World→Prop) (x:World):KeepI g n I x x:=⟨Touch.refl _ _,id,id⟩
theorem KeepI.trans {g n:Nat} {I:World→Prop} (x y z:World) (h:KeepI g n I x y) (k:KeepI g n I y z):KeepI g n I x z:=⟨h.touch.trans k.touch,fun b=>k.keep (h.keep b),fun b=>k.raw (h.raw b)⟩
theorem KeepI.of_since {g n:Nat} {I:World→Prop} (hI:∀ x y,Since x y→I x→I y) {x y:World} (h:Since x y):KeepI g n I x y:=⟨Touch.of_since h g,hI x y h,fun ⟨cs,e,b⟩=>⟨cs,e,b.since h⟩⟩
theorem KeepI.since {g n:Nat} {I:World→Prop} {w x y:World} (h:Since w x) (k:KeepI g n I x y) (hg:w.heap.size≤g):Since w y:=Since.touch h k.touch hg
theorem wp_region_keepI {P:Program} {id:Nat} {Q:Exit→Act→World→Prop} {a:Act} {w wb:World} {l:List Oper} (g n:Nat) (I:World→Prop) (hI:∀ x y,Since x y→I x→I y) (V:Nat→World→Value→Prop) (F:(Nat→Value)→Act) (hm:P.follows .mixedOrders=true) (hs:settledTo l.toArray a.tmps.size l.length=true) (htl:tailed l.toArray l.length=true) (h0:KeepI g n I wb w)
  (hst:∀ j w w' v,KeepI g n I w w'→V j w v→V j w' v) (hF:∀ vals,F vals=filledTo l.toArray l.length a vals) (hop:eachDoesR P (KeepI g n I) V F wb 0 l)
  (hfin:∀ vals w,KeepI g n I wb w→(∀ i,i<l.length→V i w (vals i))→Q .normal (F vals) w):(Code.region id l.toArray true).wp P Q a w:=by
 refine wp_region_tailR (KeepI g n I) l.length V F hm hs htl KeepI.trans (KeepI.trans _ _ _ h0 (KeepI.of_since hI ((Since.refl _).drew))) hst hF (by rw [List.take_length];exact hop) fun vals w hw hv=>?_
 rw [List.drop_length]
 exact hfin vals w hw hv
theorem Raw.put4 {g:Nat} {x:World} (h:Raw g 4 x) (v0 v1 v2 v3:Value):Touch g x ((((x.setCell ⟨g,0,none⟩ v0).setCell ⟨g,1,none⟩ v1).setCell ⟨g,2,none⟩ v2).setCell ⟨g,3,none⟩ v3)∧Blk g ((((x.setCell ⟨g,0,none⟩ v0).setCell ⟨g,1,none⟩ v1).setCell ⟨g,2,none⟩ v2).setCell ⟨g,3,none⟩ v3) #[v0,v1,v2,v3]:=⟨(h.store4 v0 v1 v2 v3).1.touch,(h.store4 v0 v1 v2 v3).2⟩
end Go.Proofs.YtmigalhmlofbkaaGreatDoor
namespace Go.Proofs.YtmigalhmlofbkaaGreatDoor
open Go.ChangeShapes Go.WideShapes Go.ChangeAt Go.RowKit
def andDone (f:Nat→Bool) (i:Nat):Nat→Bool:=fun j=>if j=i then true else f j
def putVal (vals:Nat→Value) (i:Nat) (u:Value):Nat→Value:=fun j=>if j=i then u else vals j
section
variable {P:Program} {ops:Array Oper} {Q:Exit→Act→World→Prop} {a0:Act} {I:(Nat→Bool)→(Nat→Value)→World→Prop}
structure KeptD (ops:Array Oper) (a0:Act) (I:(Nat→Bool)→(Nat→Value)→World→Prop) (listed:Array Bool) (vals:Nat→Value) (a:Act) (w:World):Prop where
 inv:I (fun j=>listed.getD j false) vals w
 defers:a.defers=a0.defers
 size:a.tmps.size=a0.tmps.size
 base:∀ t:Nat,maker ops t=none→a.tmps[t]?=a0.tmps[t]?
 made:∀ t j:Nat,maker ops t=some j→listed.getD j false=true→t<a0.tmps.size→a.tmps[t]?=some (vals j)
theorem done_set {listed:Array Bool} {i:Nat} (h:i<listed.size):(fun j=>(listed.setIfInBounds i true).getD j false)=andDone (fun j=>listed.getD j false) i:=by
 funext j
 unfold andDone
 by_cases hij:j=i
 ·subst hij
  simp [h]
 ·rw [if_neg hij,getD_set_ne false (Ne.symm hij)]
theorem KeptD.put {listed:Array Bool} {vals:Nat→Value} {a:Act} {w w':World} (h:KeptD ops a0 I listed vals a w)
  (hs:settled ops a0.tmps.size=true) {i:Nat} {o:Oper} (ho:ops[i]?=some o) (hl:i<listed.size) {u:Value} (hw:I (andDone (fun j=>listed.getD j false) i) (putVal vals i u) w') :
  KeptD ops a0 I (listed.setIfInBounds i true) (putVal vals i u) (a.put o.dst u) w':=by
 obtain ⟨_,_,hd,_⟩:=settled_at hs ho
 refine ⟨by rw [done_set hl];exact hw,?_,?_,?_,?_⟩
 ·cases hdst:o.dst<;>simp [Act.put,h.defers]
 ·cases hdst:o.dst<;>simp [Act.put,h.size]
 ·intro t ht
  cases hdst:o.dst with
  | none=>exact h.base t ht
  | some d=>
   have hne:d≠t:=fun e=>by
    subst e
    rw [(hd d hdst).1] at ht
    cases ht
   simp only [Act.put,Array.getElem?_setIfInBounds_ne hne]
   exact h.base t ht
 ·intro t j hj hl hlt
  by_cases hji:j=i
  ·subst hji
   rw [show putVal vals j u j=u from if_pos rfl]
   have hdst:o.dst=some t:=by
    have:=List.find?_some hj
    simpa [ho] using this
   have hta:t<a.tmps.size:=by rw [h.size];exact hlt
   simp only [Act.put,hdst]
   simp [hta]
  ·have hl':listed.getD j false=true:=(getD_set_or hl).resolve_left hji
   rw [show putVal vals i u j=vals j from if_neg hji]
   cases hdst:o.dst with
   | none=>exact h.made t j hj hl' hlt
   | some d=>
    have hne:d≠t:=fun e=>by
     subst e
     rw [(hd d hdst).1] at hj
     exact hji (by simpa using hj.symm)
    simp only [Act.put,Array.getElem?_setIfInBounds_ne hne]
    exact h.made t j hj hl' hlt
theorem KeptD.exec {listed:Array Bool} {vals:Nat→Value} {a:Act} {w:World} (h:KeptD ops a0 I listed vals a w) (hs:settled ops a0.tmps.size=true)
  {i:Nat} {o:Oper} (ho:ops[i]?=some o) (hr:∀ e∈o.after,Region.binds .any e=true→listed.getD e.on false=true) :
  execOp a.eval o=execOp (filled ops a0 vals).eval o:=by
 obtain ⟨_,_,_,hx⟩:=settled_at hs ho
 refine execOp_congr o (fun cs b=>Region.noSelect_spec (by simp only [settled,Bool.and_eq_true] at hs;exact hs.1) i o cs b ho) ?_
 intro x hxm
 cases x with
 | tmp t=>
  by_cases hlt:t<a0.tmps.size
  ·have e1:a.tmps[t]?=(filled ops a0 vals).tmps[t]?:=by
    rw [filled_at _ _ _ hlt]
    cases hm:maker ops t with
    | none=>rw [h.base t hm];simp [hlt]
    | some k=>
     obtain ⟨e,he,hb,hk⟩:=hx t hxm k hm
     subst hk
     exact h.made t _ hm (hr e he hb) hlt
   simp [Act.eval,Array.getD_eq_getD_getElem?,e1]
  ·have e1:a.tmps[t]?=none:=Array.getElem?_eq_none (by rw [h.size];exact Nat.le_of_not_lt hlt)
   have e2:(filled ops a0 vals).tmps[t]?=none:=Array.getElem?_eq_none (by simp only [filled,Array.size_mapIdx];exact Nat.le_of_not_lt hlt)
   simp [Act.eval,Array.getD_eq_getD_getElem?,e1,e2]
 | _=>rfl
theorem wpAny_done (hs:settled ops a0.tmps.size=true)
  (hop:∀ i o,ops[i]?=some o→∀ (f:Nat→Bool) vals w,f i=false→(∀ e∈o.after,Region.binds .any e=true→f e.on=true)→I f vals w→does P o (filled ops a0 vals) w fun v w'=>I (andDone f i) (putVal vals i v) w')
  (hfin:∀ (f:Nat→Bool) vals w,I f vals w→(∀ i,i<ops.size→f i=true)→Q .normal (filled ops a0 vals) w) :
  ∀ (fuel:Nat) (U:List Nat) (listed:Array Bool) (vals:Nat→Value) (a:Act) (w:World),listed.size=ops.size→(∀ j,j<ops.size→listed.getD j true=false→j∈U)→U.length≤fuel→
   KeptD ops a0 I listed vals a w→wpAny P .any ops Q fuel listed a w:=by
 have fin:∀ (listed:Array Bool) (vals:Nat→Value) (a:Act) (w:World),listed.size=ops.size→Region.ready .any ops listed=[]→KeptD ops a0 I listed vals a w→Q .normal a w:=by
  intro listed vals a w hsz hr hk
  have hall:∀ n j,j≤n→j<ops.size→listed.getD j false=true:=by
   intro n
   induction n with
   | zero=>
    intro j hj hlt
    obtain rfl:j=0:=by omega
    refine Classical.byContradiction fun hno=>?_
    have:0∈Region.ready .any ops listed:=mem_ready.2 ⟨by simp [hsz,hlt] at hno ⊢;exact hno,ops[0],by simp [hlt],fun e he hb=>by
     have:=(settled_at hs (j:=0) (o:=ops[0]) (by simp [hlt])).2.1 e he hb
     omega⟩
    rw [hr] at this
    cases this
   | succ n ih=>
    intro j hj hlt
    by_cases hjn:j≤n
    ·exact ih j hjn hlt
    ·refine Classical.byContradiction fun hno=>?_
     have:j∈Region.ready .any ops listed:=mem_ready.2 ⟨by simp [hsz,hlt] at hno ⊢;exact hno,ops[j],by simp [hlt],fun e he hb=>by
      have:=(settled_at hs (j:=j) (o:=ops[j]) (by simp [hlt])).2.1 e he hb
      exact ih e.on (by omega) (by omega)⟩
     rw [hr] at this
     cases this
  have ha:a=filled ops a0 vals:=by
   have ht:a.tmps=(filled ops a0 vals).tmps:=by
    apply Array.ext_getElem?
    intro t
    by_cases hlt:t<a0.tmps.size
    ·rw [filled_at _ _ _ hlt]
     cases hm:maker ops t with
     | none=>rw [hk.base t hm];simp [hlt]
     | some k=>
      have hk2:k<ops.size:=by
       have:=List.mem_of_find?_eq_some hm
       simpa using this
      exact hk.made t k hm (hall k k (Nat.le_refl _) hk2) hlt
    ·rw [Array.getElem?_eq_none (by rw [hk.size];omega),Array.getElem?_eq_none (by simp [filled];omega)]
   cases a
   simp only [filled] at ht ⊢
   have:=hk.defers
   simp_all
  rw [ha]
  exact hfin _ vals w hk.inv (fun i hi=>hall i i (Nat.le_refl _) hi)
 intro fuel
 induction fuel with
 | zero=>
  intro U listed vals a w hsz hU hl hk
  have hr:Region.ready .any ops listed=[]:=by
   refine List.eq_nil_iff_forall_not_mem.2 fun j hj=>?_
   obtain ⟨h0,o,ho,_⟩:=mem_ready.1 hj
   have:=hU j (Array.getElem?_eq_some_iff.1 ho).1 h0
   have hnil:U=[]:=List.length_eq_zero_iff.1 (by omega)
   rw [hnil] at this
   cases this
  exact ⟨hr,fin listed vals a w hsz hr hk⟩
 | succ fuel ih=>
  intro U listed vals a w hsz hU hl hk
  refine ⟨fun hr=>fin listed vals a w hsz hr hk,fun i hi=>?_⟩
  obtain ⟨h0,o,ho,hr⟩:=mem_ready.1 hi
  have hlt:i<ops.size:=(Array.getElem?_eq_some_iff.1 ho).1
  have h0':listed.getD i false=false:=by
   have hi2:i<listed.size:=by omega
   simp [hi2] at h0 ⊢
   exact h0
  have hd:=hop i o ho (fun j=>listed.getD j false) vals w h0' (fun e he hb=>hr e he hb) hk.inv
  have hnext:∀ u w',I (andDone (fun j=>listed.getD j false) i) (putVal vals i u) w'→wpAny P .any ops Q fuel (listed.setIfInBounds i true) (a.put o.dst u) w':=fun u w' h1=>
   ih (U.erase i) _ _ _ _ (by simp [hsz]) (fun j hj hun=>by
    have hji:j≠i:=fun e=>by
     subst e
     simp [hsz,hj] at hun
    rw [getD_set_ne true (Ne.symm hji)] at hun
    exact (List.mem_erase_of_ne hji).2 (hU j hj hun)) (by
    rw [List.length_erase_of_mem (hU i hlt h0)]
    omega) (hk.put hs ho (by omega) h1)
  unfold wpOp
  simp only [ho]
  have hg:=(settled_at hs ho).1
  have hwant:Region.wanted o (yielded ops a.tmps)=true:=by simp [Region.wanted,hg]
  rw [if_pos hwant]
  refine .inl ?_
  unfold does at hd
  rw [← hk.exec hs ho hr] at hd
  unfold Oper.wp
  generalize (execOp a.eval o).run P w=r at hd
  cases r with
  | ok n w'=>
   cases n<;>simp only [doesUpon] at hd<;>simp only [Oper.upon]
   case value u=>exact hnext u w' hd
   case skip=>exact hnext undef w' hd
   case enter f args=>exact hd.mono fun e w'' ⟨v,he,h1⟩=>by subst he;exact hnext v w'' h1
  | halt x w'=>simp only [doesUpon] at hd
end
def eachDoneV (P:Program) (I:(Nat→Bool)→(Nat→Value)→World→Prop) (F:(Nat→Value)→Act):Nat→List Oper→Prop
 | _,[]=>True
 | k,o :: rest=>(∀ (f:Nat→Bool) vals x,f k=false→(∀ e∈o.after,Region.binds .any e=true→f e.on=true)→I f vals x→does P o (F vals) x fun v w'=>I (andDone f k) (putVal vals k v) w')∧eachDoneV P I F (k+1) rest
theorem eachDoneV_nil {P:Program} {I:(Nat→Bool)→(Nat→Value)→World→Prop} {F:(Nat→Value)→Act} {k:Nat}:eachDoneV P I F k []:=trivial
theorem eachDoneV_cons {P:Program} {I:(Nat→Bool)→(Nat→Value)→World→Prop} {F:(Nat→Value)→Act} {k:Nat} {o:Oper} {rest:List Oper} (h:eachDoneV P I F (k+1) rest)
  (h1:∀ (f:Nat→Bool) vals x,f k=false→(∀ e∈o.after,Region.binds .any e=true→f e.on=true)→I f vals x→does P o (F vals) x fun v w'=>I (andDone f k) (putVal vals k v) w'):eachDoneV P I F k (o :: rest):=⟨h1,h⟩
theorem eachDoneV_at {P:Program} {I:(Nat→Bool)→(Nat→Value)→World→Prop} {F:(Nat→Value)→Act}:∀ (l:List Oper) (k:Nat),eachDoneV P I F k l→∀ i o,l[i]?=some o→∀ (f:Nat→Bool) vals x,f (k+i)=false→
  (∀ e∈o.after,Region.binds .any e=true→f e.on=true)→I f vals x→does P o (F vals) x fun v w'=>I (andDone f (k+i)) (putVal vals (k+i) v) w'
 | [],_,_,i,o,h=>by cases h
 | o :: rest,k,h,0,o',hi=>by
  obtain rfl:o=o':=by simpa using hi
  exact h.1
 | o :: rest,k,h,i+1,o',hi=>by
  have:=eachDoneV_at rest (k+1) h.2 i o' (by simpa using hi)
  rw [show k+(i+1)=k+1+i by omega]
  exact this
theorem wp_region_doneV {P:Program} {id:Nat} {Q:Exit→Act→World→Prop} {a:Act} {w:World} {l:List Oper} (I:(Nat→Bool)→(Nat→Value)→World→Prop) (F:(Nat→Value)→Act) (hm:P.follows .mixedOrders=true) (hs:settled l.toArray a.tmps.size=true) (h0:∀ (f:Nat→Bool) vals,(∀ j,f j=false)→I f vals w.drew)
  (hF:∀ vals,F vals=filled l.toArray a vals) (hop:eachDoneV P I F 0 l)
  (hfin:∀ (f:Nat→Bool) vals w,I f vals w→(∀ i,i<l.length→f i=true)→Q .normal (F vals) w):(Code.region id l.toArray true).wp P Q a w:=by
 refine wp_region_any hm (wpAny_done (I:=I) (a0:=a) hs ?_ ?_ _ (List.range l.length) _ (fun _=>undef) _ _ (by simp) (fun j hj _=>by simpa using hj) (by simp) ⟨h0 _ _ (fun j=>none_listed _ j),rfl,rfl,fun _ _=>rfl,?_⟩)
 ·intro i o ho f vals w hf hr hi
  have:=eachDoneV_at l 0 hop i o (by simpa using ho) f vals w (by simpa using hf) hr hi
  rw [hF] at this
  simpa using this
 ·intro f vals w hi hf
  have:=hfin f vals w hi (fun i h=>hf i (by simpa using h))
  rw [hF] at this
  exact this
 ·intro t j _ hl
  rw [none_listed] at hl
  cases hl
def eachDone (P:Program) (V:Nat→Value→Prop) (I:(Nat→Bool)→World→Prop) (F:(Nat→Value)→Act):Nat→List Oper→Prop
 | _,[]=>True
 | k,o :: rest=>(∀ (f:Nat→Bool) vals x,f k=false→(∀ e∈o.after,Region.binds .any e=true→f e.on=true)→I f x→(∀ j,f j=true→V j (vals j))→does P o (F vals) x fun v w'=>I (andDone f k) w'∧V k v)∧eachDone P V I F (k+1) rest
theorem eachDone_nil {P:Program} {V:Nat→Value→Prop} {I:(Nat→Bool)→World→Prop} {F:(Nat→Value)→Act} {k:Nat}:eachDone P V I F k []:=trivial
theorem eachDone_cons {P:Program} {V:Nat→Value→Prop} {I:(Nat→Bool)→World→Prop} {F:(Nat→Value)→Act} {k:Nat} {o:Oper} {rest:List Oper} (h:eachDone P V I F (k+1) rest)
  (h1:∀ (f:Nat→Bool) vals x,f k=false→(∀ e∈o.after,Region.binds .any e=true→f e.on=true)→I f x→(∀ j,f j=true→V j (vals j))→does P o (F vals) x fun v w'=>I (andDone f k) w'∧V k v):eachDone P V I F k (o :: rest):=⟨h1,h⟩
theorem doesUpon_mono {P:Program} {R S:Value→World→Prop} (h:∀ v w,R v w→S v w) {r:Result Next} (k:doesUpon P R r):doesUpon P S r:=by
 cases r with
 | ok n w=>
  cases n<;>simp only [doesUpon] at k ⊢
  case value u=>exact h _ _ k
  case skip=>exact h _ _ k
  case enter f args=>exact k.mono fun e w' ⟨v,he,q⟩=>⟨v,he,h _ _ q⟩
  all_goals exact k
 | halt x w=>simp only [doesUpon] at k
theorem eachDone_V {P:Program} {V:Nat→Value→Prop} {I:(Nat→Bool)→World→Prop} {F:(Nat→Value)→Act}:∀ (l:List Oper) (k:Nat),eachDone P V I F k l→eachDoneV P (fun f vals x=>I f x∧∀ j,f j=true→V j (vals j)) F k l
 | [],_,_=>trivial
 | o :: rest,k,h=>⟨fun f vals x hf hr hi=>doesUpon_mono (fun v w q=>⟨q.1,fun j hj=>by
   by_cases e:j=k
   ·subst e
    rw [show putVal vals j v j=v from if_pos rfl]
    exact q.2
   ·rw [show putVal vals k v j=vals j from if_neg e]
    exact hi.2 j (by rw [show andDone f k j=f j from if_neg e] at hj;exact hj)⟩) (h.1 f vals x hf hr hi.1 hi.2),eachDone_V rest (k+1) h.2⟩
theorem wp_region_done {P:Program} {id:Nat} {Q:Exit→Act→World→Prop} {a:Act} {w:World} {l:List Oper} (V:Nat→Value→Prop) (I:(Nat→Bool)→World→Prop) (F:(Nat→Value)→Act) (hm:P.follows .mixedOrders=true) (hs:settled l.toArray a.tmps.size=true) (h0:∀ f:Nat→Bool,(∀ j,f j=false)→I f w.drew)
  (hF:∀ vals,F vals=filled l.toArray a vals) (hop:eachDone P V I F 0 l)
  (hfin:∀ (f:Nat→Bool) vals w,I f w→(∀ i,i<l.length→f i=true)→(∀ i,i<l.length→V i (vals i))→Q .normal (F vals) w):(Code.region id l.toArray true).wp P Q a w:=
 wp_region_doneV (fun f vals x=>I f x∧∀ j,f j=true→V j (vals j)) F hm hs (fun f vals hf=>⟨h0 f hf,fun j hj=>by rw [hf j] at hj;cases hj⟩) hF (eachDone_V l 0 hop) (fun f vals w hi hf=>hfin f vals w hi.1 hf (fun i h=>hi.2 i (hf i h)))
end Go.Proofs.YtmigalhmlofbkaaGreatDoor
