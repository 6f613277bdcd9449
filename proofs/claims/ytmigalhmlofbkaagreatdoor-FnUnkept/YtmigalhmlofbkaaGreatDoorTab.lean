/- A part of the proof. -/
import Derived.Test.YtmigalhmlofbkaaGreatDoorM0
import Derived.Deep.SlicePairs
import Derived.Deep.AppendLies
import Derived.Laws.OwnMore
import Derived.LoopTactic
set_option linter.unusedVariables false
set_option maxRecDepth 10000
namespace Go.Proofs.YtmigalhmlofbkaaGreatDoor
open Go.ChangeShapes Go.WideShapes Go.ChangeAt Go.RowKit Go.Deep
structure Shape (α:Type) where
 ty:TypeId
 k:Nat
 enc:α→List Value
 len:∀ x,(enc x).length=k
 one:∀ x,∀ v∈enc x,v.oneCell'=true
 z:α
 pos:0<k
section
variable {α:Type} (S:Shape α)
def Shape.cells (xs:List α):List Value:=xs.flatMap S.enc
def Shape.get (xs:List α) (i:Nat):α:=xs.getD i S.z
theorem Shape.cells_len (xs:List α):(S.cells xs).length=xs.length*S.k:=by
 induction xs with
 | nil=>simp [Shape.cells]
 | cons x r ih=>
  simp only [Shape.cells,List.flatMap_cons,List.length_append,S.len] at ih ⊢
  rw [ih,List.length_cons,Nat.add_mul]
  omega
theorem Shape.cells_append (xs ys:List α):S.cells (xs++ys)=S.cells xs++S.cells ys:=by simp [Shape.cells]
theorem Shape.cells_at (xs:List α):∀ (i j:Nat),i<xs.length→j<S.k→(S.cells xs)[i*S.k+j]?=(S.enc (S.get xs i))[j]?:=by
 induction xs with
 | nil=>intro i j h;simp at h
 | cons x r ih=>
  intro i j hi hj
  have e:S.cells (x :: r)=S.enc x++S.cells r:=by simp [Shape.cells]
  rw [e]
  cases i with
  | zero=>
   rw [Nat.zero_mul,Nat.zero_add,List.getElem?_append_left (by rw [S.len];exact hj)]
   simp [Shape.get]
  | succ i=>
   rw [List.getElem?_append_right (by rw [S.len,Nat.add_mul];omega),S.len,show (i+1)*S.k+j - S.k=i*S.k+j by rw [Nat.add_mul];omega,ih i j (by simpa using hi) hj]
   simp [Shape.get]
theorem Shape.get_lt {xs:List α} {i:Nat} (h:i<xs.length):S.get xs i=xs[i]:=by simp [Shape.get,List.getD,List.getElem?_eq_getElem h]
theorem Shape.ext {xs ys:List α} {n:Nat} (h1:xs.length=n) (h2:ys.length=n) (h:∀ i,i<n→S.get xs i=S.get ys i):xs=ys:=by
 apply List.ext_getElem (by omega)
 intro i hi hi'
 have:=h i (by omega)
 rwa [S.get_lt hi,S.get_lt hi'] at this
theorem Shape.take_set (xs:List α) (n k:Nat) (hl:xs.length=n) (hk:k<n):(xs.take k++List.replicate (n - k) S.z).set k (S.get xs k)=xs.take (k+1)++List.replicate (n - (k+1)) S.z:=by
 have hk':k<xs.length:=by omega
 have e:S.get xs k=xs[k]:=S.get_lt hk'
 have h1:List.replicate (n - k) S.z=S.z :: List.replicate (n - (k+1)) S.z:=by
  rw [show n - k=(n - (k+1))+1 by omega,List.replicate_succ]
 have hlen:(xs.take k).length=k:=by rw [List.length_take];omega
 have h2:xs.take (k+1)=xs.take k++[xs[k]]:=by rw [List.take_succ_eq_append_getElem hk']
 rw [h1,h2,e]
 generalize xs.take k=l at hlen ⊢
 subst hlen
 simp
theorem Shape.take_next (xs:List α) (k:Nat) (hk:k<xs.length):xs.take (k+1)=xs.take k++[S.get xs k]:=by
 rw [S.get_lt hk,List.take_succ_eq_append_getElem hk]
structure Rd (w:World) (a:Option Addr) (n:Nat) (xs:List α):Prop where
 len:xs.length=n
 most:n≤maxLen
 cell:∀ i,i<n→∃ x,a=some x∧x.block<w.heap.size∧∀ j,j<S.k→w.cell? (x.add (i*S.k+j))=(S.enc (S.get xs i))[j]?
variable {S} {w w':World} {a:Option Addr} {n:Nat} {xs:List α}
theorem add_block (x:Addr) (j:Nat):(x.add j).block=x.block:=by unfold Addr.add;split<;>rfl
theorem Rd.since (h:Rd S w a n xs) (k:Since w w'):Rd S w' a n xs:=by
 refine ⟨h.len,h.most,fun i hi=>?_⟩
 obtain ⟨x,rfl,hb,hc⟩:=h.cell i hi
 exact ⟨x,rfl,Nat.lt_of_lt_of_le hb (Below.size k),fun j hj=>(Below.cell k (p:=x.add _) (by rw [add_block];exact hb)).trans (hc j hj)⟩
theorem Rd.touch {g:Nat} (h:Rd S w a n xs) (k:Touch g w w') (hg:∀ x,a=some x→x.block≠g):Rd S w' a n xs:=by
 refine ⟨h.len,h.most,fun i hi=>?_⟩
 obtain ⟨x,rfl,hb,hc⟩:=h.cell i hi
 exact ⟨x,rfl,Nat.lt_of_lt_of_le hb k.size,fun j hj=>(k.cell (p:=x.add _) (by rw [add_block];exact hg x rfl) (by rw [add_block];exact hb)).trans (hc j hj)⟩
theorem Rd.other (h:Rd S w a n xs) {b:Nat} (hne:∀ x,a=some x→x.block≠b) (i:Nat) (v:Value):Rd S (w.setCell ⟨b,i,none⟩ v) a n xs:=h.touch ((Touch.refl b w).put i v) hne
theorem addr_step (x:Addr) (m j:Nat) (hj:0<j):(⟨(x.add m).block,(x.add m).off+j,none⟩:Addr)=x.add (m+j):=by
 unfold Addr.add
 by_cases hm:m=0
 ·subst hm
  simp [show j≠0 by omega]
 ·simp [hm]
  omega
def Own (S:Shape α) (w:World) (B:Nat) (v:Value) (n:Nat) (xs:List α):Prop:=xs.length=n∧w.ownsRow B S.ty S.k v n (S.cells xs)
def Held (S:Shape α) (w:World) (B g n cap:Nat) (xs:List α):Prop:=Own S w B (.slice (some ⟨g,0,none⟩) n cap) n xs
theorem Own.len {B:Nat} {v:Value} (h:Own S w B v n xs):xs.length=n:=h.1
theorem Own.nil (w:World) (B:Nat):Own S w B (.slice none 0 0) 0 []:=⟨rfl,by simpa [Shape.cells] using World.ownsRow_nil w B S.ty S.k⟩
theorem Own.kept {B:Nat} {v:Value} {row:Option Nat} (h:Own S w B v n xs) (hg:w.grownBy w' row) (hne:v.ownBlock=none∨v.ownBlock≠row):Own S w' B v n xs:=⟨h.1,h.2.kept hg hne⟩
theorem grown_of_since {w w':World} (k:Since w w'):w.grownBy w' none:=⟨Below.os k,Below.tape k,Below.output k,Below.size k,fun j hj _=>Below.block k j hj⟩
theorem grown_of_touch {g:Nat} {w w':World} (k:Touch g w w'):w.grownBy w' (some g):=⟨k.os,k.tape,k.output,k.size,fun j hj hne=>k.block j hj (fun e=>hne (by rw [e]))⟩
theorem Own.since {B:Nat} {v:Value} (h:Own S w B v n xs) (k:Since w w'):Own S w' B v n xs:=h.kept (grown_of_since k) (by cases hv:v.ownBlock<;>simp)
theorem Own.touch {B g:Nat} {v:Value} (h:Own S w B v n xs) (k:Touch g w w') (hne:v.ownBlock≠some g):Own S w' B v n xs:=h.kept (grown_of_touch k) (.inr hne)
theorem Own.lt {B g:Nat} {v:Value} (h:Own S w B v n xs) (hg:v.ownBlock=some g):B≤g∧g<w.heap.size:=h.2.lt g hg
theorem Own.low {B B':Nat} {v:Value} (h:Own S w B v n xs) (hB:B'≤B):Own S w B' v n xs:=by
 refine ⟨h.1,h.2.1,?_⟩
 rcases h.2.2 with h1|⟨g,cap,cur,h1,h2,h3⟩
 ·exact .inl h1
 ·exact .inr ⟨g,cap,cur,h1,Nat.le_trans hB h2,h3⟩
theorem Own.raise {B B':Nat} {v:Value} (h:Own S w B v n xs) (hB:∀ g,v.ownBlock=some g→B'≤g):Own S w B' v n xs:=by
 refine ⟨h.1,h.2.1,?_⟩
 rcases h.2.2 with h1|⟨g,cap,cur,h1,h2,h3⟩
 ·exact .inl h1
 ·exact .inr ⟨g,cap,cur,h1,hB g (by rw [h1];rfl),h3⟩
theorem Own.form {B:Nat} {v:Value} (h:Own S w B v n xs):∃ a cap,v=.slice a n cap∧(a=none→n=0∧cap=0)∧∀ x,a=some x→x=⟨x.block,0,none⟩∧v.ownBlock=some x.block:=by
 rcases h.2.2 with ⟨rfl,rfl⟩|⟨g,cap,cur,rfl,_⟩
 ·exact ⟨none,0,rfl,fun _=>⟨rfl,rfl⟩,fun x hx=>by cases hx⟩
 ·exact ⟨_,cap,rfl,fun h=>(by cases h),fun x hx=>by cases hx;exact ⟨rfl,rfl⟩⟩
theorem Own.most {B:Nat} {v:Value} (h:Own S w B v n xs):n≤maxLen:=by
 rcases h.2.2 with ⟨_,rfl⟩|⟨g,cap,cur,_,_,_,h4,h5,_⟩
 ·exact Nat.zero_le _
 ·omega
theorem Own.reads {B:Nat} {a:Option Addr} {cap:Nat} (h:Own S w B (.slice a n cap) n xs):Rd S w a n xs:=by
 refine ⟨h.1,h.most,fun i hi=>?_⟩
 obtain ⟨g,cap',hv,_,hlt⟩:=h.2.form (by omega)
 injection hv with hv _ _
 subst hv
 refine ⟨_,rfl,hlt,fun j hj=>?_⟩
 have hil:i<xs.length:=by rw [h.1];exact hi
 rw [← S.cells_at xs i j hil hj]
 have hlen:i*S.k+j<(S.cells xs).length:=by
  rw [S.cells_len]
  have:(i+1)*S.k≤xs.length*S.k:=Nat.mul_le_mul_right _ hil
  rw [Nat.add_mul] at this
  omega
 rw [List.getElem?_eq_getElem hlen]
 exact h.2.cells (g:=g) rfl _ _ (List.getElem?_eq_getElem hlen)
theorem Held.lt {B g cap:Nat} (h:Held S w B g n cap xs):g<w.heap.size:=(Own.lt h (g:=g) rfl).2
theorem Held.low' {B g cap:Nat} (h:Held S w B g n cap xs):B≤g:=(Own.lt h (g:=g) rfl).1
theorem Held.reads {B g cap:Nat} (h:Held S w B g n cap xs):Rd S w (some ⟨g,0,none⟩) n xs:=Own.reads h
theorem Held.since {B g cap:Nat} (h:Held S w B g n cap xs) (k:Since w w'):Held S w' B g n cap xs:=Own.since h k
theorem Held.touch {B g g' cap:Nat} (h:Held S w B g n cap xs) (k:Touch g' w w') (hne:g≠g'):Held S w' B g n cap xs:=Own.touch h k (by simpa [Value.ownBlock] using hne)
theorem Held.other {B g b cap:Nat} (h:Held S w B g n cap xs) (hne:g≠b) (i:Nat) (v:Value):Held S (w.setCell ⟨b,i,none⟩ v) B g n cap xs:=h.touch ((Touch.refl b w).put i v) hne
theorem Held.raise {B B' g cap:Nat} (h:Held S w B g n cap xs) (hB:B'≤g):Held S w B' g n cap xs:=Own.raise h (fun g' e=>by simp [Value.ownBlock] at e;omega)
theorem Held.cell {B g cap:Nat} (h:Held S w B g n cap xs) (i:Nat) (hi:i<n) (j:Nat) (hj:j<S.k):w.cell? ⟨g,i*S.k+j,none⟩=(S.enc (S.get xs i))[j]?:=by
 obtain ⟨x,hx,_,hc⟩:=h.reads.cell i hi
 cases hx
 have:=hc j hj
 rwa [show (⟨g,0,none⟩:Addr).add (i*S.k+j)=⟨g,i*S.k+j,none⟩ by unfold Addr.add;split<;>simp_all] at this
theorem Held.free {B g cap:Nat} (h:Held S w B g n cap xs) (i:Nat):w.frozen? ⟨g,i,none⟩=false:=World.ownsRow.frozenAt h.2 i
theorem Held.heap {B g cap:Nat} (h:Held S w B g n cap xs):∃ cur,w.heap[g]?=some (.cells cur S.ty (0,0))∧cur.size=cap*S.k∧n≤cap∧cap≤maxLen∧cur.toList.take (n*S.k)=S.cells xs:=by
 rcases h.2.2 with ⟨h1,_⟩|⟨g',cap',cur,h1,h2,h3,h4,h5,h6,h7⟩
 ·cases h1
 ·simp only [Value.slice.injEq,Option.some.injEq,Addr.mk.injEq] at h1
  obtain ⟨⟨rfl,_,_⟩,_,rfl⟩:=h1
  exact ⟨cur,h3,h6,h4,h5,h7⟩
theorem Held.mk' {B g cap:Nat} {cur:Array Value} (hl:xs.length=n) (h2:B≤g) (h3:w.heap[g]?=some (.cells cur S.ty (0,0))) (h4:n≤cap) (h5:cap≤maxLen) (h6:cur.size=cap*S.k) (h7:cur.toList.take (n*S.k)=S.cells xs):Held S w B g n cap xs:=
 ⟨hl,by rw [S.cells_len,hl],.inr ⟨g,cap,cur,rfl,h2,h3,h4,h5,h6,h7⟩⟩
def putCells (w:World) (g m:Nat):List Value→World
 | []=>w
 | v :: r=>putCells (w.setCell ⟨g,m,none⟩ v) g (m+1) r
theorem putCells_heap (g:Nat) (t:TypeId):∀ (vs:List Value) (w:World) (m:Nat) (cur:Array Value),w.heap[g]?=some (.cells cur t (0,0))→∃ cur',(putCells w g m vs).heap[g]?=some (.cells cur' t (0,0))∧cur'.size=cur.size∧∀ i:Nat,cur'[i]?=if m≤i∧i<m+vs.length∧i<cur.size then vs[i - m]? else cur[i]?
 | [],w,m,cur,h=>⟨cur,h,rfl,fun i=>by simp;omega⟩
 | v :: r,w,m,cur,h=>by
  have h1:=heap_setCell_same w g m cur t v h
  obtain ⟨cur',h2,h3,h4⟩:=putCells_heap g t r _ (m+1) _ h1
  refine ⟨cur',h2,by simpa using h3,fun i=>?_⟩
  rw [h4 i]
  simp only [Array.size_setIfInBounds,List.length_cons]
  by_cases e:i=m
  ·subst e
   by_cases hl:i<cur.size
   ·rw [if_neg (by omega),if_pos (by omega)]
    simp [hl]
   ·rw [if_neg (by omega),if_neg (by omega)]
    simp [hl]
  ·by_cases hc:m+1≤i∧i<m+1+r.length∧i<cur.size
   ·rw [if_pos hc,if_pos (by omega),show i - m=(i - (m+1))+1 by omega]
    simp
   ·rw [if_neg hc,if_neg (by omega)]
    simp [Ne.symm e]
theorem Held.set {B g cap:Nat} (h:Held S w B g n cap xs) (i:Nat) (hi:i<n) (x:α):Held S (putCells w g (i*S.k) (S.enc x)) B g n cap (xs.set i x):=by
 obtain ⟨cur,h3,h6,h4,h5,h7⟩:=h.heap
 obtain ⟨cur',c1,c2,c3⟩:=putCells_heap g S.ty (S.enc x) w (i*S.k) cur h3
 have hl:=h.1
 refine Held.mk' (by rw [List.length_set];exact hl) h.low' c1 h4 h5 (by rw [c2];exact h6) ?_
 have hpos:=S.pos
 have hmul:∀ a b:Nat,a<b→a*S.k+S.k≤b*S.k:=fun a b hab=>by
  have:(a+1)*S.k≤b*S.k:=Nat.mul_le_mul_right _ hab
  rwa [Nat.add_mul,Nat.one_mul] at this
 have hcap:n*S.k≤cap*S.k:=Nat.mul_le_mul_right _ h4
 apply List.ext_getElem?
 intro t
 by_cases ht:t<n*S.k
 ·obtain ⟨i',j',hj',rfl⟩:∃ i' j',j'<S.k∧t=i'*S.k+j':=⟨t / S.k,t % S.k,Nat.mod_lt _ hpos,by rw [Nat.mul_comm];exact (Nat.div_add_mod t S.k).symm⟩
  have hi':i'<n:=by
   rcases Nat.lt_or_ge i' n with h1|h1
   ·exact h1
   ·have:n*S.k≤i'*S.k:=Nat.mul_le_mul_right _ h1
    omega
  rw [S.cells_at _ i' j' (by rw [List.length_set,hl];exact hi') hj',List.getElem?_take_of_lt ht]
  rw [Array.getElem?_toList,c3,S.len]
  by_cases e:i'=i
  ·subst e
   rw [if_pos (by omega),show i'*S.k+j' - i'*S.k=j' by omega]
   rw [S.get_lt (by rw [List.length_set,hl];exact hi')]
   simp
  ·have hne:¬ (i*S.k≤i'*S.k+j'∧i'*S.k+j'<i*S.k+S.k∧i'*S.k+j'<cur.size):=by
    rintro ⟨a1,a2,_⟩
    rcases Nat.lt_or_ge i' i with h1|h1
    ·have:=hmul i' i h1
     omega
    ·have:=hmul i i' (by omega)
     omega
   rw [if_neg hne]
   have e1:S.get (xs.set i x) i'=S.get xs i':=by simp [Shape.get,List.getD,Ne.symm e]
   rw [e1,← S.cells_at xs i' j' (by rw [hl];exact hi') hj',← h7,List.getElem?_take_of_lt ht,Array.getElem?_toList]
 ·rw [List.getElem?_eq_none (by rw [List.length_take];omega),List.getElem?_eq_none (by rw [S.cells_len,List.length_set,hl];omega)]
theorem Held.of_owns {B:Nat} {g cap:Nat} {ys:List Value} (hl:xs.length=n) (e:ys=S.cells xs) (h:w.ownsRow B S.ty S.k (.slice (some ⟨g,0,none⟩) n cap) n ys):Held S w B g n cap xs:=⟨hl,e▸h⟩
def RawT (S:Shape α) (w:World) (g m:Nat):Prop:=∃ cur,w.heap[g]?=some (.cells cur S.ty (0,0))∧m≤cur.size
theorem Held.raw {B g cap:Nat} (h:Held S w B g n cap xs):RawT S w g (n*S.k):=by
 obtain ⟨cur,h3,h6,h4,h5,h7⟩:=h.heap
 exact ⟨cur,h3,by rw [h6];exact Nat.mul_le_mul_right _ h4⟩
theorem RawT.put {g m:Nat} (h:RawT S w g m) (i:Nat) (v:Value):RawT S (w.setCell ⟨g,i,none⟩ v) g m:=by
 obtain ⟨cur,h1,h2⟩:=h
 exact ⟨_,heap_setCell_same w g i cur _ v h1,by simpa using h2⟩
theorem RawT.cell {g m:Nat} (h:RawT S w g m) (i:Nat) (hi:i<m):∃ u,w.cell? ⟨g,i,none⟩=some u:=by
 obtain ⟨cur,h1,h2⟩:=h
 exact ⟨cur[i],by rw [cell_of_row w g i cur _ _ h1];simp⟩
theorem RawT.free {g m:Nat} (h:RawT S w g m) (i:Nat):w.frozen? ⟨g,i,none⟩=false:=by
 obtain ⟨cur,h1,h2⟩:=h
 exact frozen_of_row w g i cur _ h1
theorem RawT.since {g m:Nat} (h:RawT S w g m) (k:Since w w'):RawT S w' g m:=by
 obtain ⟨cur,h1,h2⟩:=h
 have hlt:g<w.heap.size:=by
  rcases Nat.lt_or_ge g w.heap.size with h3|h3
  ·exact h3
  ·rw [Array.getElem?_eq_none h3] at h1
   cases h1
 exact ⟨cur,(Below.block k g hlt).trans h1,h2⟩
theorem Held.put1 {B g cap:Nat} (h:Held S w B g n cap xs) (i:Nat) (hi:i<n) (j:Nat) (hj:j<S.k) (v:Value) (x:α) (hx:S.enc x=(S.enc (S.get xs i)).set j v):Held S (w.setCell ⟨g,i*S.k+j,none⟩ v) B g n cap (xs.set i x):=by
 obtain ⟨cur,h3,h6,h4,h5,h7⟩:=h.heap
 have hl:=h.1
 refine Held.mk' (by rw [List.length_set];exact hl) h.low' (heap_setCell_same w g (i*S.k+j) cur _ v h3) h4 h5 (by simpa using h6) ?_
 have hpos:=S.pos
 have hlen:(S.enc (S.get xs i)).length=S.k:=S.len _
 rw [Array.toList_setIfInBounds,List.take_set,h7]
 apply List.ext_getElem?
 intro t
 by_cases ht:t<n*S.k
 ·obtain ⟨i',j',hj',rfl⟩:∃ i' j',j'<S.k∧t=i'*S.k+j':=⟨t / S.k,t % S.k,Nat.mod_lt _ hpos,by rw [Nat.mul_comm];exact (Nat.div_add_mod t S.k).symm⟩
  have hi':i'<n:=by
   rcases Nat.lt_or_ge i' n with h1|h1
   ·exact h1
   ·have:n*S.k≤i'*S.k:=Nat.mul_le_mul_right _ h1
    omega
  rw [S.cells_at _ i' j' (by rw [List.length_set,hl];exact hi') hj']
  have hin:i*S.k+j<(S.cells xs).length:=by
   rw [S.cells_len,hl]
   have:(i+1)*S.k≤n*S.k:=Nat.mul_le_mul_right _ hi
   rw [Nat.add_mul,Nat.one_mul] at this
   omega
  by_cases e:i'=i
  ·subst e
   have eg:S.get (xs.set i' x) i'=x:=by rw [S.get_lt (by rw [List.length_set,hl];exact hi')];simp
   rw [eg,hx]
   by_cases e2:j'=j
   ·subst e2
    rw [List.getElem?_set_self hin,List.getElem?_set_self (by rw [hlen];exact hj')]
   ·rw [List.getElem?_set_ne (by omega),List.getElem?_set_ne (by omega),S.cells_at xs i' j' (by rw [hl];exact hi') hj']
  ·have hne:i*S.k+j≠i'*S.k+j':=by
    intro h8
    rcases Nat.lt_or_ge i' i with h1|h1
    ·have:(i'+1)*S.k≤i*S.k:=Nat.mul_le_mul_right _ h1
     rw [Nat.add_mul,Nat.one_mul] at this
     omega
    ·have:(i+1)*S.k≤i'*S.k:=Nat.mul_le_mul_right _ (by omega)
     rw [Nat.add_mul,Nat.one_mul] at this
     omega
   have e1:S.get (xs.set i x) i'=S.get xs i':=by simp [Shape.get,List.getD,Ne.symm e]
   rw [List.getElem?_set_ne hne,e1,S.cells_at xs i' j' (by rw [hl];exact hi') hj']
 ·rw [List.getElem?_eq_none (by rw [List.length_set,S.cells_len,hl];omega),List.getElem?_eq_none (by rw [S.cells_len,List.length_set,hl];omega)]
end
theorem Blk.put {b:Nat} {x:World} {cs:Array Value} (k:Blk b x cs) (i:Nat) (v:Value) (hi:i<cs.size):Blk b (x.setCell ⟨b,i,none⟩ v) (cs.setIfInBounds i v):=by
 refine ⟨by have:=k.lt;simpa [World.setCell] using this,fun j=>(World.frozen?_setCell _ _ _ _).trans (k.fz j),fun j=>?_⟩
 by_cases e:j=i
 ·subst e
  have hc:=k.cell j
  rw [Array.getElem?_eq_getElem hi] at hc
  rw [World.cell?_setCell_same' _ _ _ (by rw [hc];rfl)]
  simp [hi]
 ·rw [World.cell?_setCell_other x _ _ v (fun h=>e (congrArg Addr.off h).symm),k.cell j]
  simp [Ne.symm e]
theorem Own.cases {α:Type} {S:Shape α} {w:World} {B n:Nat} {v:Value} {xs:List α} (h:Own S w B v n xs):(v=.slice none 0 0∧n=0∧xs=[])∨∃ g cap,v=.slice (some ⟨g,0,none⟩) n cap∧Held S w B g n cap xs:=by
 rcases h.2.2 with ⟨h1,h2⟩|⟨g,cap,cur,h1,_⟩
 ·exact .inl ⟨h1,h2,List.eq_nil_of_length_eq_zero (h.1.trans h2)⟩
 ·subst h1
  exact .inr ⟨g,cap,rfl,h⟩
theorem since_touch {w x y:World} {b:Nat} (h:Since w x) (k:Touch b x y) (hb:w.heap.size≤b):Since w y:=Touch.below k h hb h.le
end Go.Proofs.YtmigalhmlofbkaaGreatDoor
