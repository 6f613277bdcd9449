/- A part of the proof. -/
import Derived.Test.YtmigalhmlofbkaaGreatDoorM7
import Derived.Laws.CopyOwn
import Derived.RegionTactic
set_option linter.unusedVariables false
set_option maxRecDepth 10000
namespace Go.Proofs.YtmigalhmlofbkaaGreatDoor
open Go.ChangeShapes Go.WideShapes Go.ChangeAt Go.RowKit Go.Deep
def byteCells (f:Nat→Int) (n:Nat):List Value:=(List.range n).map (fun i=>Value.int .u8 (f i))
theorem byteCells_len (f:Nat→Int) (n:Nat):(byteCells f n).length=n:=by simp [byteCells]
theorem byteCells_at (f:Nat→Int) (n i:Nat):(byteCells f n)[i]?=if i<n then some (Value.int .u8 (f i)) else none:=by
 by_cases h:i<n<;>simp [byteCells,h]
theorem byteCells_one (f:Nat→Int) (n:Nat):∀ v∈byteCells f n,v.oneCell'=true:=by
 intro v hv
 simp only [byteCells,List.mem_map] at hv
 obtain ⟨i,_,rfl⟩:=hv
 rfl
def Byt (w:World) (c n:Nat) (f:Nat→Int):Prop:=w.heap[c]?=some (.cells (byteCells f n).toArray 5 (0,0))
theorem Byt.lt {w:World} {c n:Nat} {f:Nat→Int} (h:Byt w c n f):c<w.heap.size:=by
 rcases Nat.lt_or_ge c w.heap.size with h1|h1
 ·exact h1
 ·unfold Byt at h
  rw [Array.getElem?_eq_none h1] at h
  cases h
theorem Byt.cell {w:World} {c n:Nat} {f:Nat→Int} (h:Byt w c n f) (i:Nat) (hi:i<n):w.cell? ⟨c,i,none⟩=some (.int .u8 (f i)):=by
 rw [cell_of_row w c i _ _ _ h,List.getElem?_toArray,byteCells_at,if_pos hi]
theorem Byt.block {w w':World} {c n:Nat} {f:Nat→Int} (h:Byt w c n f) (e:w'.heap[c]?=w.heap[c]?):Byt w' c n f:=e.trans h
theorem Byt.since {w w':World} {c n:Nat} {f:Nat→Int} (h:Byt w c n f) (k:Since w w'):Byt w' c n f:=h.block (Below.block k c h.lt)
theorem Byt.touch {w w':World} {c n g:Nat} {f:Nat→Int} (h:Byt w c n f) (k:Touch g w w') (hne:c≠g):Byt w' c n f:=h.block (k.block c h.lt hne)
def over (f:Nat→Int) (off k:Nat) (g:Nat→Int) (i:Nat):Int:=if off≤i∧i<off+k then g (i - off) else f i
theorem splice_over (f g:Nat→Int) (n off k:Nat) (h:off+k≤n):splice (byteCells f n) off (byteCells g k)=byteCells (over f off k g) n:=by
 apply List.ext_getElem?
 intro i
 unfold splice
 rw [byteCells_at]
 by_cases h1:i<off
 ·rw [List.getElem?_append_left (by rw [List.length_take,byteCells_len];omega),List.getElem?_take_of_lt h1,byteCells_at,if_pos (by omega),if_pos (by omega)]
  simp [over]
  omega
 ·rw [List.getElem?_append_right (by rw [List.length_take,byteCells_len];omega),List.length_take,Nat.min_eq_left (show off≤(byteCells f n).length by rw [byteCells_len];omega)]
  by_cases h2:i<off+k
  ·rw [List.getElem?_append_left (by rw [byteCells_len];omega),byteCells_at,if_pos (by omega),if_pos (by omega)]
   simp [over,show off≤i by omega,h2]
  ·rw [List.getElem?_append_right (by rw [byteCells_len];omega),byteCells_len,List.getElem?_drop,byteCells_at,show off+k+(i - off - k)=i by omega]
   simp [over,h2]
theorem info_B:(Tryz.prog.info? 5).map (fun i=>(i.zero,i.size,i.bytes))=some (some (.int .u8 0),1,1):=by kernel_rfl
theorem over_none (f:Nat→Int) (off:Nat) (g:Nat→Int):over f off 0 g=f:=by
 funext i
 unfold over
 rw [if_neg (by omega)]
theorem touch_setRow (w:World) (c:Nat) (cs:Array Value):Touch c w (w.setRow c cs):=⟨rfl,rfl,rfl,by simp [World.setRow],fun k _ hk=>setRow_other w c k cs hk⟩
theorem run_copy_byt (ty:TypeId) (w:World) {c N off:Nat} {f g:Nat→Int} (T:Byt w c N f) (dp sp:Option Addr) (dLen dCap sLen sCap n:Nat) (hn:n=Nat.min sLen dLen)
  (hpos:0<n→dp=some ⟨c,off,none⟩∧∃ ad,sp=some ad∧∀ j,j<n→w.cell? (ad.add j)=some (.int .u8 (g j))) (hfit:off+n≤N) :
  ∃ w',(Builtin.copy_ #[22,22] ty #[.slice dp dLen dCap,.slice sp sLen sCap]).run Tryz.prog w=.ok (goInt n) w'∧Byt w' c N (over f off n g)∧Touch c w w':=by
 obtain ⟨ii,hi,hz0,hz1,hz2⟩:=info_parts info_B
 have hsz:(Tryz.prog.info? 5).map (·.size)=some 1:=by rw [hi];simp [hz1]
 by_cases h0:n=0
 ·subst h0
  refine ⟨w,?_,by rw [over_none];exact T,Touch.refl _ _⟩
  exact run_copy_none (P:=Tryz.prog) w _ _ ty 5 dp sp dLen dCap sLen sCap Tryz.underlying22 hsz hn.symm
 ·obtain ⟨rfl,ad,rfl,hsrc⟩:=hpos (by omega)
  have hr:=run_copy_row (P:=Tryz.prog) w 22 22 ty 5 c off dLen dCap ad sLen sCap (byteCells f N).toArray 5 (byteCells g n) Tryz.underlying22 hsz T (by rw [byteCells_len];exact hn) (fun j v hj=>by
   rw [byteCells_at] at hj
   split at hj
   ·rename_i hlt
    rw [hsrc j hlt,← hj]
   ·cases hj) (by simpa [byteCells_len] using hfit) (byteCells_one g n)
  rw [byteCells_len] at hr
  refine ⟨_,hr,?_,touch_setRow w c _⟩
  have hh:=setRow_heap w c (byteCells f N).toArray ((byteCells f N).toArray.toList.take off++byteCells g n++(byteCells f N).toArray.toList.drop (off+n)).toArray 5 (0,0) T
  unfold Byt
  rw [hh,← splice_over f g N off n hfit]
  simp [splice,byteCells_len]
theorem copy_byt {ops:Array Oper} {rest:List Oper} {o:Oper} {a:Act} {Q:Exit→Act→World→Prop} {w:World} (hgd:o.guard=none) (d s:Operand)
  (ho:o.op=.call {callee:=.builtin .copy,args:=#[d,s],argTypes:=#[22,22]}) {c N off:Nat} {f g:Nat→Int} (T:Byt w c N f) (dp sp:Option Addr) (dLen dCap sLen sCap n:Nat) (hd:a.eval d=.slice dp dLen dCap) (hs:a.eval s=.slice sp sLen sCap) (hn:n=Nat.min sLen dLen)
  (hpos:0<n→dp=some ⟨c,off,none⟩∧∃ ad,sp=some ad∧∀ j,j<n→w.cell? (ad.add j)=some (.int .u8 (g j))) (hfit:off+n≤N)
  (k:∀ w',Byt w' c N (over f off n g)→Touch c w w'→wpList Tryz.prog ops Q rest (a.put o.dst (.int .i64 n)) w'):wpList Tryz.prog ops Q (o :: rest) a w:=by
 refine wpList_plain hgd fun K hK=>?_
 obtain ⟨w',hrun,hB,hT⟩:=run_copy_byt o.type w T dp sp dLen dCap sLen sCap n hn hpos hfit
 unfold Oper.wp
 simp [execOp,ho,resolve,invoke,builtin,hd,hs,hrun,Result.andThen]
 exact hK _ _ (k w' hB hT)
def OwnB (w:World) (B:Nat) (v:Value) (n:Nat) (f:Nat→Int):Prop:=w.ownsRow B 5 1 v n (byteCells f n)
theorem OwnB.form {w:World} {B:Nat} {v:Value} {n:Nat} {f:Nat→Int} (h:OwnB w B v n f) (hv:v≠.slice none 0 0):∃ g cap,v=.slice (some ⟨g,0,none⟩) n cap∧B≤g∧g<w.heap.size∧∀ i,i<n→w.cell? ⟨g,i,none⟩=some (.int .u8 (f i)):=by
 rcases h.2 with ⟨h1,_⟩|⟨g,cap,cur,h1,h2,h3,_⟩
 ·exact absurd h1 hv
 ·subst h1
  obtain ⟨_,hlt⟩:=h.lt g rfl
  refine ⟨g,cap,rfl,h2,hlt,fun i hi=>?_⟩
  have hc:=h.cells (g:=g) rfl i (.int .u8 (f i)) (by rw [byteCells_at,if_pos hi])
  rwa [show (⟨g,0,none⟩:Addr).add i=⟨g,i,none⟩ by simp [Addr.add];omega] at hc
theorem made_byt {w:World} {B g n:Nat} (h:w.ownsRow B 5 1 (.slice (some ⟨g,0,none⟩) n n) n (madeCells #[.int .u8 0] (n*1)).toList):Byt w g n (fun _=>0):=by
 rcases h.2 with ⟨h1,_⟩|⟨g',cap',cur,h1,h2,h3,h4,h5,h6,h7⟩
 ·cases h1
 ·simp only [Value.slice.injEq,Option.some.injEq,Addr.mk.injEq] at h1
  obtain ⟨⟨rfl,_,_⟩,_,rfl⟩:=h1
  unfold Byt
  rw [h3]
  have e:cur.toList=byteCells (fun _=>0) n:=by
   have e1:cur.toList.take (n*1)=cur.toList:=List.take_of_length_le (by simp [h6])
   rw [← e1,h7]
   apply List.ext_getElem?
   intro j
   rw [byteCells_at]
   by_cases hj:j<n
   ·simp [madeCells,hj,Nat.mod_one]
   ·simp [madeCells,hj]
  rw [← e]
theorem byteCells_append (f g:Nat→Int) (n m:Nat):byteCells f n++byteCells g m=byteCells (fun i=>if i<n then f i else g (i - n)) (n+m):=by
 apply List.ext_getElem?
 intro i
 rw [byteCells_at]
 by_cases h:i<n
 ·rw [List.getElem?_append_left (by rw [byteCells_len];exact h),byteCells_at,if_pos h,if_pos (by omega),if_pos h]
 ·rw [List.getElem?_append_right (by rw [byteCells_len];omega),byteCells_len,byteCells_at]
  by_cases h2:i - n<m
  ·rw [if_pos h2,if_pos (by omega),if_neg h]
  ·rw [if_neg h2,if_neg (by omega)]
theorem app_byt {ops:Array Oper} {rest:List Oper} {o:Oper} {a:Act} {Q:Exit→Act→World→Prop} {w:World} {B n:Nat} {v:Value} {f g:Nat→Int} {ad:Addr} {m c:Nat} (hgd:o.guard=none) (s x:Operand)
  (ho:o.op=.call {callee:=.builtin .append,args:=#[s,x],argTypes:=#[22,22]}) (hs:a.eval s=v) (T:OwnB w B v n f) (hx:a.eval x=.slice (some ad) m c) (hsrc:∀ j,j<m→w.cell? (ad.add j)=some (.int .u8 (g j))) (hmax:n+m≤1073741824) (hB:B≤w.heap.size)
  (k:∀ v' w',OwnB w' B v' (n+m) (fun i=>if i<n then f i else g (i - n))→w.grownBy w' v.ownBlock→(v'=.slice none 0 0↔v=.slice none 0 0∧m=0)→wpList Tryz.prog ops Q rest (a.put o.dst v') w') :
  wpList Tryz.prog ops Q (o :: rest) a w:=by
 obtain ⟨ii,hi,hz0,hz1,hz2⟩:=info_parts info_B
 refine wpList_append_own w hgd s x 22 ho B 5 ii (.int .u8 0) 1 1 Tryz.underlying22 hi hz0 hz1 hz2 rfl (by omega) v n _ hs T ad m c (byteCells g m) hx (by rw [byteCells_len];omega) (fun j u hj=>?_) (byteCells_one g m) (by unfold maxLen;omega) (by omega) hB fun v' w' hown hgrow hnil=>?_
 ·rw [byteCells_at] at hj
  split at hj
  ·rename_i hlt
   rw [hsrc j hlt,← hj]
  ·cases hj
 ·exact k v' w' (by unfold OwnB;rw [← byteCells_append];exact hown) hgrow hnil
theorem Byt.set {w:World} {c n:Nat} {f:Nat→Int} (h:Byt w c n f) (i:Nat) (x:Int):Byt (w.setCell ⟨c,i,none⟩ (.int .u8 x)) c n (fun j=>if j=i then x else f j):=by
 unfold Byt at h ⊢
 rw [heap_setCell_same w c i _ _ _ h]
 congr 2
 apply Array.ext_getElem?
 intro j
 have h2:(byteCells (fun j=>if j=i then x else f j) n).toArray[j]?=if j<n then some (Value.int .u8 (if j=i then x else f j)) else none:=by rw [List.getElem?_toArray,byteCells_at]
 have h1:(byteCells f n).toArray[j]?=if j<n then some (Value.int .u8 (f j)) else none:=by rw [List.getElem?_toArray,byteCells_at]
 rw [h2]
 by_cases e:j=i
 ·subst e
  rw [if_pos rfl]
  by_cases hj:j<n
  ·rw [if_pos hj,Array.getElem?_setIfInBounds_self_of_lt (by simpa [byteCells_len] using hj)]
  ·rw [if_neg hj,Array.getElem?_eq_none (by simp [byteCells_len];omega)]
 ·rw [if_neg e,Array.getElem?_setIfInBounds_ne (Ne.symm e),h1]
theorem over_congr {f g g':Nat→Int} {off k:Nat} (h:∀ j,j<k→g j=g' j):over f off k g=over f off k g':=by
 funext i
 unfold over
 split
 ·exact h _ (by omega)
 ·rfl
theorem byt_setCells {c n:Nat}:∀ (vs:List Int) (off:Nat) (w:World) (f:Nat→Int),Byt w c n f→Byt (w.setCells c off (vs.map (fun x=>Value.int .u8 x))) c n (over f off vs.length (fun j=>vs.getD j 0))
 | [],off,w,f,h=>by
  rw [List.length_nil,over_none]
  exact h
 | v :: r,off,w,f,h=>by
  have ih:=byt_setCells r (off+1) _ _ (h.set off v)
  have e:over (fun j=>if j=off then v else f j) (off+1) r.length (fun j=>r.getD j 0)=over f off (v :: r).length (fun j=>(v :: r).getD j 0):=by
   funext i
   unfold over
   simp only [List.length_cons]
   by_cases h1:i=off
   ·subst h1
    rw [if_neg (by omega),if_pos rfl,if_pos (by omega)]
    simp
   ·by_cases h2:off+1≤i∧i<off+1+r.length
    ·rw [if_pos h2,if_pos (by omega),show i - off=(i - (off+1))+1 by omega]
     simp
    ·rw [if_neg h2,if_neg h1,if_neg (by omega)]
  rw [← e]
  exact ih
theorem touch_setCells {c:Nat}:∀ (vs:List Value) (off:Nat) (w:World),Touch c w (w.setCells c off vs)
 | [],off,w=>Touch.refl _ _
 | v :: r,off,w=>((Touch.refl c w).put off v).trans (touch_setCells r (off+1) _)
theorem Byt.fz {w:World} {c n:Nat} {f:Nat→Int} (h:Byt w c n f) (i:Nat):w.frozen? ⟨c,i,none⟩=false:=frozen_of_row w c i _ _ h
theorem copy_text {ops:Array Oper} {rest:List Oper} {o:Oper} {a:Act} {Q:Exit→Act→World→Prop} {w:World} (hgd:o.guard=none) (d x:Operand)
  (ho:o.op=.call {callee:=.builtin .copy,args:=#[d,x],argTypes:=#[22,9]}) {c N off:Nat} {f:Nat→Int} (T:Byt w c N f) (dLen dCap:Nat) (t:ByteArray) (hd:a.eval d=.slice (some ⟨c,off,none⟩) dLen dCap) (hx:a.eval x=.string t) (hle:t.size≤dLen) (hfit:off+t.size≤N)
  (k:∀ w',Byt w' c N (over f off t.size (byteAt t))→Touch c w w'→wpList Tryz.prog ops Q rest (a.put o.dst (.int .i64 t.size)) w'):wpList Tryz.prog ops Q (o :: rest) a w:=by
 refine wpList_plain hgd fun K hK=>?_
 obtain ⟨ii,hi,hz0,hz1,hz2⟩:=info_parts info_B
 have hz:∀ w,(Go.sizeOf 5).run Tryz.prog w=.ok 1 w:=fun w=>by simp [sizeOf,typeInfo,hi,hz1]
 have hrun:=run_copy_string (P:=Tryz.prog) w 22 9 o.type 5 c off dLen dCap t Tryz.underlying22 hz hle (fun j hj=>by rw [T.cell (off+j) (by omega)];rfl) (fun j hj=>T.fz _)
 unfold Oper.wp
 simp [execOp,ho,resolve,invoke,builtin,hd,hx,hrun,Result.andThen]
 refine hK _ _ (k _ ?_ (touch_setCells _ _ _))
 have hb:=byt_setCells (t.data.toList.map fun x=>(x.toNat:Int)) off w f T
 rw [List.map_map] at hb
 have hl:(t.data.toList.map fun x=>(x.toNat:Int)).length=t.size:=by rw [List.length_map];exact (Lib.size_eq t).symm
 rw [hl,over_congr (g':=byteAt t) (fun j hj=>?_)] at hb
 ·exact hb
 ·rw [byteAt_in t j hj]
  have hj':j<t.data.toList.length:=by rw [← Lib.size_eq];exact hj
  simp only [List.getD,List.getElem?_map,List.getElem?_eq_getElem hj',Option.map_some,Option.getD_some]
  rfl
end Go.Proofs.YtmigalhmlofbkaaGreatDoor
