/-
  append to a list of our own, of any shape: at a plain region and at a step of one that draws its order.
  Lists of spans; contracts of impl's spansOf, bytesIn and InHeld.
-/
import Derived.Test.YtnbopjlpemmkcaaGreatM2
import Derived.Test.YtnbopjlpemmkcaaGreatM16
import Derived.Laws.ByValue
import Derived.Maps.RangeWalk
import Derived.Deep.RegionLaw
import Derived.Test.YtnbopjlpemmkcaaGreatInOkI
namespace Go.Proofs.YtnbopjlpemmkcaaGreat
open Go.ChangeShapes Go.WideShapes Go.ChangeAt Go.RowKit Go.Deep
set_option linter.unusedVariables false
set_option maxRecDepth 10000

def Laid {α:Type} (S:Shape α) (sl:TypeId) (bytes:Nat):Prop:=Tryz.prog.underlying sl=some (.slice S.ty)∧∃ ii z,Tryz.prog.info? S.ty=some ii∧ii.zero=some z∧ii.size=S.k∧ii.bytes=bytes∧z.cells.size=S.k

section
variable {α:Type} {S:Shape α}

theorem Rd.flat {w:World} {x:Addr} {m:Nat} {ys:List α} (R:Rd S w (some x) m ys):∀ j u,(S.cells ys)[j]?=some u→w.cell? (x.add j)=some u:=by
 intro t u hu
 have hl:t<(S.cells ys).length:=(List.getElem?_eq_some_iff.1 hu).1
 rw [S.cells_len,R.len] at hl
 have hpos:=S.pos
 obtain ⟨i,j,hj,rfl⟩:∃ i j,j<S.k∧t=i*S.k+j:=⟨t / S.k,t % S.k,Nat.mod_lt _ hpos,by rw [Nat.mul_comm];exact (Nat.div_add_mod t S.k).symm⟩
 have hi:i<m:=by
  rcases Nat.lt_or_ge i m with h1|h1
  ·exact h1
  ·have:m*S.k≤i*S.k:=Nat.mul_le_mul_right _ h1
   omega
 obtain ⟨y,hy,_,hc⟩:=R.cell i hi
 cases hy
 rw [hc j hj,← hu,S.cells_at ys i j (by rw [R.len];exact hi) hj]

theorem Shape.cells_one (S:Shape α) (ys:List α):∀ u∈S.cells ys,u.oneCell'=true:=by
 intro u hu
 obtain ⟨x,_,hx⟩:=List.mem_flatMap.1 hu
 exact S.one x u hx

theorem app_own {sl bytes:Nat} (L:Laid S sl bytes) {ops:Array Oper} {rest:List Oper} {o:Oper} {a:Act} {Q:Exit→Act→World→Prop} {w:World} {B n:Nat} {v:Value} {xs:List α} {ad:Addr} {m c:Nat} {ys:List α} (hgd:o.guard=none) (s x:Operand)
  (ho:o.op=.call {callee:=.builtin .append,args:=#[s,x],argTypes:=#[sl,sl]}) (hs:a.eval s=v) (T:Own S w B v n xs) (hx:a.eval x=.slice (some ad) m c) (R:Rd S w (some ad) m ys) (hm:0<m) (hmax:n+m≤maxLen) (hby:(n+m)*bytes≤140737488355328) (hB:B≤w.heap.size) (H:Nat) (hH:w.heap.size=H)
  (k:∀ g cap w',Held S w' B g (n+m) cap (xs++ys)→w.grownBy w' v.ownBlock→(v.ownBlock=some g∨g=H)→wpList Tryz.prog ops Q rest (a.put o.dst (.slice (some ⟨g,0,none⟩) (n+m) cap)) w') :
  wpList Tryz.prog ops Q (o :: rest) a w:=by
 obtain ⟨hu,ii,z,hi,hz0,hz1,hz2,hzs⟩:=L
 refine wpList_append_lies w hgd s x sl ho B S.ty ii z S.k bytes hu hi hz0 hz1 hz2 hzs S.pos v n _ hs T.2 ad m c (S.cells ys) hx (by rw [S.cells_len,R.len]) R.flat (S.cells_one ys) hm hmax hby hB H hH fun g cap w' hown hgrow hat _=>?_
 exact k g cap w' ⟨by rw [List.length_append,T.1,R.len],by rw [S.cells_append];exact hown⟩ hgrow hat

theorem Rd.one (w:World) (x:α) (t:TypeId) (b:Nat) (hb:b=w.heap.size):Rd S (w.alloc (.cells (S.enc x).toArray t)) (some ⟨b,0,none⟩) 1 [x]:=by
 subst hb
 refine ⟨rfl,by unfold maxLen;omega,fun i hi=>⟨_,rfl,by simp,fun j hj=>?_⟩⟩
 obtain rfl:i=0:=by omega
 have e:(⟨w.heap.size,0,none⟩:Addr).add (0*S.k+j)=⟨w.heap.size,j,none⟩:=by unfold Addr.add;split<;>simp_all
 rw [e,World.cell?_alloc_mark]
 simp [Shape.get]

theorem Held.empty (w:World):Held S (w.alloc (.cells #[] S.ty)) w.heap.size w.heap.size 0 0 []:=
 ⟨rfl,by
  have:=World.ownsRow_made (base:=w.heap.size) (e:=S.ty) (size:=S.k) w #[] 0 (Nat.le_refl _) (by decide) (by simp)
  simpa [Shape.cells] using this⟩

theorem run_append_empty {sl bytes:Nat} (L:Laid S sl bytes) (ty:TypeId) (w:World) {B g:Nat} (T:Held S w B g 0 0 []) {ao:Option Addr} {m c:Nat} {ys:List α} (R:Rd S w ao m ys) (hnil:ao=none→c=0) (hby:m*bytes≤140737488355328) (hB:B≤w.heap.size) :
  ∃ g' cap' w',(Builtin.append_ #[sl,sl] ty #[.slice (some ⟨g,0,none⟩) 0 0,.slice ao m c]).run Tryz.prog w=.ok (.slice (some ⟨g',0,none⟩) m cap') w'∧Held S w' B g' m cap' ys∧Since w w':=by
 obtain ⟨hu,ii,z,hi,hz0,hz1,hz2,hzs⟩:=L
 cases ao with
 | none=>
  have hm0:m=0:=by
   rcases Nat.eq_zero_or_pos m with h|h
   ·exact h
   ·obtain ⟨x,hx,_⟩:=R.cell 0 h
    cases hx
  obtain rfl:c=0:=hnil rfl
  subst hm0
  have ht:ys=[]:=List.eq_nil_of_length_eq_zero R.len
  subst ht
  have hrun:=run_append_owned_none (P:=Tryz.prog) w B sl ty S.ty ii S.k hu hi _ 0 _ T.2
  exact ⟨g,0,w,hrun,T,Since.refl _⟩
 | some x=>
  by_cases hm:m=0
  ·subst hm
   have ht:ys=[]:=List.eq_nil_of_length_eq_zero R.len
   subst ht
   obtain ⟨cur,h3,h6,h4,h5,h7⟩:=T.heap
   have hr2:=run_append_room (P:=Tryz.prog) w sl ty S.ty ii hu hi g 0 0 cur h3 x 0 c [] (by simp) (fun j v hj=>by simp at hj) (fun u hu=>by cases hu) (Nat.le_refl _) (by simp)
   refine ⟨g,0,w,?_,T,Since.refl _⟩
   rw [hr2]
   have e:∀ cs:Array Value,cs=cur→w.setRow g cs=w:=fun cs hcs=>by
    subst hcs
    have hh:(w.setRow g cs).heap=w.heap:=by
     apply Array.ext_getElem?
     intro i
     by_cases hi:i=g
     ·subst hi
      rw [setRow_heap w i cs cs _ _ h3,h3]
     ·exact setRow_other w g i cs hi
    show {w with heap:=(w.setRow g cs).heap}=w
    rw [hh]
   rw [e _ (by simp)]
  ·have hr2:=run_append_grow (P:=Tryz.prog) w sl ty S.ty ii z hu hi hz0 ⟨g,0,none⟩ 0 0 [] (by simp) (fun j v hj=>by simp at hj) x m c (S.cells ys) (by rw [S.cells_len,R.len,hz1]) R.flat (by omega) (by have:=R.most;unfold maxLen at this;omega) (growslice_fits (by omega) (by rw [hz2,Nat.zero_add];exact hby))
   obtain ⟨g',cap',w',hr,hown,hgrow,hat,hlt⟩:=run_append_lies (P:=Tryz.prog) w sl ty B S.ty ii z S.k bytes hu hi hz0 hz1 hz2 hzs S.pos _ 0 _ T.2 x m c (S.cells ys) (by rw [S.cells_len,R.len]) R.flat (S.cells_one ys) (by omega) (by have:=R.most;omega) (by rw [Nat.zero_add];exact hby) hB _ rfl
   simp only [Nat.zero_add] at hr hown
   refine ⟨g',cap',w',hr,⟨R.len,by simpa [Shape.cells] using hown⟩,?_⟩
   rw [hr] at hr2
   injection hr2 with _ e
   rw [e]
   exact ((Since.refl _).drew).alloc _
end
end Go.Proofs.YtnbopjlpemmkcaaGreat

namespace Go.Proofs.YtnbopjlpemmkcaaGreat
open Go.ChangeShapes Go.WideShapes Go.ChangeAt Go.RowKit Go.Deep
set_option linter.unusedVariables false
set_option maxRecDepth 10000
set_option maxRecDepth 10000

def shS:Shape (Int×Int):=⟨149,2,fun x=>[.int .i64 x.1,.int .i64 x.2],fun _=>rfl,fun x v hv=>by simp at hv;rcases hv with rfl|rfl<;>rfl,(0,0),by decide⟩

def sAt (ss:List (Int×Int)) (i:Nat):Int×Int:=ss.getD i (0,0)

theorem Rd.sp {w:World} {a:Option Addr} {n:Nat} {ss:List (Int×Int)} (h:Rd shS w a n ss) (i:Nat) (hi:i<n):∃ x,a=some x∧x.block<w.heap.size∧w.cell? (x.add (i*2))=some (.int .i64 (sAt ss i).1)∧w.cell? ⟨(x.add (i*2)).block,(x.add (i*2)).off+1,none⟩=some (.int .i64 (sAt ss i).2):=by
 obtain ⟨x,e,hb,hc⟩:=h.cell i hi
 refine ⟨x,e,hb,hc 0 (by decide),?_⟩
 rw [addr_step x (i*2) 1 (by omega)]
 exact hc 1 (by decide)

def inRoomN (q:Int) (d:ByteArray) (r:Int) (ps:List (Int×ByteArray)):Int:=if inOk q d r ps=true then r - d.size else 0

theorem inOk_room {q:Int} {d:ByteArray} {r:Int} {ps:List (Int×ByteArray)} (h:inOk q d r ps=true):(1≤r∧r≤4096)∧(d.size:Int)≤r∧okB 0 (r - d.size) (spans q ps)=true:=by
 simpa [inOk] using h

theorem implInRoom (q:Int) (d:ByteArray) (r:Int) (a:Option Addr) (n cap:Nat) (ps:List (Int×ByteArray)) (g:Good q d r n ps) (w:World) (R:Rd shP w a n ps) :
  Calls Tryz.prog 133 #[inVal q d (.slice a n cap) r] w fun e w'=>e=.returned (.int .i64 (inRoomN q d r ps))∧Since w w':=by
 have ho:=fun wx Rx=>implInOk q d r a n cap ps g wx Rx
 have hd:=g.hd
 have G:Since w (w.alloc (.cells #[.int .u32 q,.string d,.slice a n cap,.int .i64 r] 46)):=(Since.refl _).alloc _
 have A:=Blk.new w #[.int .u32 q,.string d,.slice a n cap,.int .i64 r] 46
 have ho1:=ho _ (R.since G)
 clear ho
 unfold inRoomN
 cases hk:inOk q d r ps
 ·rw [if_neg (by simp)]
  rw [hk] at ho1
  unfold inVal at *
  clear g R
  go_enter Tryz.func133,Tryz.ntmps133
  go_wp2_with (go_at_call 87;refine ho1.mono ?_;rintro _ w1 ⟨rfl,g1⟩)
  go_ret
  exact ⟨rfl,G.trans g1⟩
 ·rw [if_pos rfl]
  rw [hk] at ho1
  have hm:=fun wx=>inRoom q d (.slice a n cap) r hd (by have:=(inOk_room hk).1;omega) wx
  unfold inVal at *
  clear g R
  go_enter Tryz.func133,Tryz.ntmps133
  go_wp2_with (first|(go_at_call 87;refine ho1.mono ?_;rintro _ w1 ⟨rfl,g1⟩;have c0:=(A.since g1).cell 0;have c1:=(A.since g1).cell 1;have c2:=(A.since g1).cell 2;have c3:=(A.since g1).cell 3;simp at c0 c1 c2 c3)|(go_at_call 104;refine (hm _).mono ?_;rintro _ w2 ⟨rfl,g2⟩))
  go_ret
  exact ⟨rfl,G.trans (g1.trans g2)⟩
end Go.Proofs.YtnbopjlpemmkcaaGreat
