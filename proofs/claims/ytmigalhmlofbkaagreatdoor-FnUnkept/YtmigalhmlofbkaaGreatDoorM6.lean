/- A part of the proof. -/
import Derived.Test.YtmigalhmlofbkaaGreatDoorM5
import Derived.Great.BuildSlice
import Derived.Deep.WholeRow
import Derived.Deep.QuietTactic
import Derived.Maps.RangeWalk
import Derived.Deep.RegionLaw
set_option linter.unusedVariables false
set_option maxRecDepth 10000
namespace Go.Proofs.YtmigalhmlofbkaaGreatDoor
open Go.ChangeShapes Go.WideShapes Go.ChangeAt Go.RowKit
def U:Value:=undef
structure VL (ops:Array Oper) (Q:Exit→Act→World→Prop) (l:List Oper) (a:Act) (w:World):Prop where
 out:wpList Tryz.prog ops Q l a w
theorem vR {id:Nat} {Q:Exit→Act→World→Prop} {a:Act} {w:World} {l:List Oper} (h:VL l.toArray Q l a w):(Code.region id l.toArray false).wp Tryz.prog Q a w:=wp_region_lit h.out
section
variable {ops:Array Oper} {rest:List Oper} {o:Oper} {a:Act} {w:World} {Q:Exit→Act→World→Prop}
theorem vF {l:List Oper} {a:Act} (t:Array Value) (h:VL ops Q l {tmps:=t,defers:=[]} w) (e:a={tmps:=t,defers:=[]}:=by kernel_rfl):VL ops Q l a w:=by
 rw [e]
 exact h
theorem vE {a:Act} (t:Array Value) (h:wpList Tryz.prog ops Q [] {tmps:=t,defers:=[]} w) (e:a={tmps:=t,defers:=[]}:=by kernel_rfl):VL ops Q [] a w:=by
 rw [e]
 exact ⟨h⟩
theorem vV (v:Value) (h:VL ops Q rest (a.put o.dst v) w) (hg:Region.wanted o (yielded ops a.tmps)=true:=by kernel_rfl) (hrun:(execOp a.eval o).run Tryz.prog w=.ok (.value v) w:=by kernel_rfl):VL ops Q (o :: rest) a w:=⟨want_val hg v hrun h.out⟩
theorem vW (w':World) (v:Value) (h:VL ops Q rest (a.put o.dst v) w') (hg:Region.wanted o (yielded ops a.tmps)=true:=by kernel_rfl) (hrun:(execOp a.eval o).run Tryz.prog w=.ok (.value v) w':=by kernel_rfl):VL ops Q (o :: rest) a w:=⟨want_val hg v hrun h.out⟩
theorem vS (h:VL ops Q rest (a.put o.dst undef) w) (hw:Region.wanted o (yielded ops a.tmps)=false:=by kernel_rfl):VL ops Q (o :: rest) a w:=⟨want_skip hw h.out⟩
theorem vC {f:FuncId} {args:Array Value} {R:Ending→World→Prop} (hc:Calls Tryz.prog f args w R) (h:∀ e w',R e w'→∃ v,e=.returned v∧VL ops Q rest (a.put o.dst v) w')
  (hg:Region.wanted o (yielded ops a.tmps)=true:=by kernel_rfl) (hrun:(execOp a.eval o).run Tryz.prog w=.ok (.enter f args) w:=by kernel_rfl):VL ops Q (o :: rest) a w:=
 ⟨want_call hg f args hrun hc fun e w' hr=>by
  obtain ⟨v,e1,h1⟩:=h e w' hr
  exact ⟨v,e1,h1.out⟩⟩
theorem vK {f:FuncId} {args:Array Value} {v:Value} (hc:Calls Tryz.prog f args w fun e w'=>e=.returned v∧Since w w') (h:∀ w',Since w w'→VL ops Q rest (a.put o.dst v) w')
  (hg:Region.wanted o (yielded ops a.tmps)=true:=by kernel_rfl) (hrun:(execOp a.eval o).run Tryz.prog w=.ok (.enter f args) w:=by kernel_rfl):VL ops Q (o :: rest) a w:=
 ⟨want_call hg f args hrun hc fun e w' hr=>⟨v,hr.1,(h w' hr.2).out⟩⟩
theorem vD {b i:Nat} (v:Value) (hc:w.cell? ⟨b,i,none⟩=some v) {ty:TypeId} {x:Operand} (h:VL ops Q rest (a.put o.dst v) w) (ho:o.op=.load ty x:=by rfl)
  (hg:Region.wanted o (yielded ops a.tmps)=true:=by kernel_rfl) (hx:a.eval x=.pointer (some ⟨b,i,none⟩):=by kernel_rfl) (ha:(isAgg ty).run Tryz.prog w=.ok false w:=by kernel_rfl):VL ops Q (o :: rest) a w:=
 ⟨want_cellv hg ty x ho ⟨b,i,none⟩ hx v hc ha h.out⟩
theorem vB {t:TypeId} {k b:Nat} {cs:Array Value} (T:IsBig t k) (B:Blk b w cs) (hs:cs.size=k) {x:Operand} (h:VL ops Q rest (a.put o.dst (.agg cs)) w) (ho:o.op=.load t x:=by rfl)
  (hg:Region.wanted o (yielded ops a.tmps)=true:=by kernel_rfl) (hx:a.eval x=.pointer (some ⟨b,0,none⟩):=by kernel_rfl):VL ops Q (o :: rest) a w:=⟨want_big T hs B hg x ho hx h.out⟩
theorem vP {t:TypeId} {k b:Nat} {cs:Array Value} (T:IsBig t k) (B:Blk b w cs) (i:Nat) (ps:List Value) {x:Operand} (h:VL ops Q rest (a.put o.dst (.agg ps.toArray)) w) (hk:ps.length=k:=by rfl)
  (hp:(cs.toList.drop i).take ps.length=ps:=by kernel_rfl) (ho:o.op=.load t x:=by rfl) (hg:Region.wanted o (yielded ops a.tmps)=true:=by kernel_rfl) (hx:a.eval x=.pointer (some ⟨b,i,none⟩):=by kernel_rfl):VL ops Q (o :: rest) a w:=
 ⟨want_part B hg T x ho i hx ps hk (fun j v hj=>by
  rw [← hp,List.getElem?_take] at hj
  split at hj
  ·rw [List.getElem?_drop] at hj
   simpa using hj
  ·exact absurd hj (by simp)) h.out⟩
theorem sB {t:TypeId} {k b:Nat} {cs':Array Value} (cs:Array Value) (T:IsBig t k) (B:Blk b w cs') (hs:cs.size=k) (hs':cs'.size=k) (h1:cs.all (·.oneCell')=true) {x y:Operand} (h:∀ z,Touch b w z→Blk b z cs→VL ops Q rest (a.put o.dst undef) z)
  (ho:o.op=.store t x y:=by rfl) (hg:o.guard=none:=by rfl) (hx:a.eval x=.pointer (some ⟨b,0,none⟩):=by kernel_rfl) (hy:a.eval y=.agg cs:=by kernel_rfl):VL ops Q (o :: rest) a w:=
 ⟨store_big T hs hs' h1 B hg x y ho hx hy fun z t B=>(h z t B).out⟩
theorem sC {b:Nat} {cs:Array Value} (cs':Array Value) (B:Blk b w cs) (i:Nat) (v:Value) {n:Nat} (hn:cs.size=n) {ty:TypeId} {x y:Operand} (h:∀ z,Touch b w z→Blk b z cs'→VL ops Q rest (a.put o.dst undef) z) (ho:o.op=.store ty x y:=by rfl) (hg:o.guard=none:=by rfl)
  (hx:a.eval x=.pointer (some ⟨b,i,none⟩):=by kernel_rfl) (hy:a.eval y=v:=by kernel_rfl) (hv:v.oneCell'=true:=by rfl) (hs:(Tryz.prog.info? ty).map (·.size)=some 1:=by kernel_rfl) (hi:decide (i<n)=true:=by rfl) (hcs:cs.setIfInBounds i v=cs':=by kernel_rfl):VL ops Q (o :: rest) a w:=
 ⟨store_cell B hg ty x y ho i hx v hy hv hs (by rw [hn];exact of_decide_eq_true hi) hcs fun z t B=>(h z t B).out⟩
theorem sP {b:Nat} {cs:Array Value} (cs':Array Value) {t:TypeId} {k:Nat} (T:IsBig t k) (B:Blk b w cs) (i:Nat) (ps:Array Value) {n:Nat} (hn:cs.size=n) (h1:ps.all (·.oneCell')=true) {x y:Operand} (h:∀ z,Touch b w z→Blk b z cs'→VL ops Q rest (a.put o.dst undef) z) (ho:o.op=.store t x y:=by rfl) (hg:o.guard=none:=by rfl)
  (hx:a.eval x=.pointer (some ⟨b,i,none⟩):=by kernel_rfl) (hy:a.eval y=.agg ps:=by kernel_rfl) (hk:ps.size=k:=by rfl) (hi:decide (i+k≤n)=true:=by rfl) (hcs:setMany cs i ps.toList=cs':=by kernel_rfl):VL ops Q (o :: rest) a w:=
 ⟨store_part B hg T x y ho i hx ps hy hk h1 (by rw [hn];exact of_decide_eq_true hi) hcs fun z t B=>(h z t B).out⟩
end
def segVal (fr to sq ak fl wn ms:Int) (d:ByteArray):Value:=.agg #[.int .i64 fr,.int .i64 to,.int .u32 sq,.int .u32 ak,.int .i64 fl,.int .i64 wn,.int .i64 ms,.string d]
def hasF (fl b:Int):Bool:=decide (0≤fl) && decide (fl / b % 2=1)
def IsFlag (b:Int):Prop:=b=1∨b=2∨b=4∨b=8∨b=16
theorem and_pow (x i:Nat):x &&& 2 ^ i=if x / 2 ^ i % 2=1 then 2 ^ i else 0:=by
 apply Nat.eq_of_testBit_eq
 intro j
 rw [Nat.testBit_and,Nat.testBit_two_pow]
 by_cases h:i=j
 ·subst h
  by_cases k:x / 2 ^ i % 2=1
  ·rw [if_pos k,Nat.testBit_two_pow,Nat.testBit_eq_decide_div_mod_eq,decide_eq_true k]
   simp
  ·rw [if_neg k,Nat.testBit_eq_decide_div_mod_eq,decide_eq_false k]
   simp
 ·by_cases k:x / 2 ^ i % 2=1
  ·simp [k,h]
  ·simp [k,h]
theorem and_flag (x:Nat) (hx:x<9223372036854775808) (i:Nat) (hi:i≤4):bits .and .i64 (x:Int) ((2 ^ i:Nat):Int)=if x / 2 ^ i % 2=1 then ((2 ^ i:Nat):Int) else 0:=by
 have hp:2 ^ i<9223372036854775808:=Nat.lt_of_le_of_lt (Nat.pow_le_pow_right (by decide) hi) (by decide)
 rw [(bits_nat .i64 63 (by decide) (fun n h2 h3=>by rw [IntWalk.i64_left];exact IntWalk.wrap64_in _ ⟨by omega,by omega⟩) x (2 ^ i) (by simpa using hx) (by simpa using hp)).1]
 rw [and_pow]
 by_cases h:x / 2 ^ i % 2=1
 ·rw [if_pos h,if_pos h]
 ·rw [if_neg h,if_neg h]
  rfl
theorem and_has (fl b:Int) (h0:0≤fl) (h1:fl≤9223372036854775807) (hb:IsFlag b):(bits .and .i64 fl b == 0)=!hasF fl b:=by
 have h2:((fl.toNat:Nat):Int)=fl:=Int.toNat_of_nonneg h0
 have key:∀ i:Nat,i≤4→(bits .and .i64 fl ((2 ^ i:Nat):Int) == 0)=!hasF fl ((2 ^ i:Nat):Int):=fun i hi=>by
  have e:=and_flag fl.toNat (by omega) i hi
  rw [h2] at e
  rw [e]
  have h3:(fl / ((2 ^ i:Nat):Int) % 2=1)↔(fl.toNat / 2 ^ i % 2=1):=by
   rw [← h2]
   norm_cast
  unfold hasF
  by_cases h:fl.toNat / 2 ^ i % 2=1
  ·have hp:((2 ^ i:Nat):Int)≠0:=by
    have:=Nat.two_pow_pos i
    omega
   rw [if_pos h,decide_eq_true (h3.2 h),decide_eq_true h0]
   simpa using hp
  ·rw [if_neg h,decide_eq_false (fun k=>h (h3.1 k))]
   simp
 rcases hb with h|h|h|h|h<;>subst h
 ·exact key 0 (by decide)
 ·exact key 1 (by decide)
 ·exact key 2 (by decide)
 ·exact key 3 (by decide)
 ·exact key 4 (by decide)
theorem hasFlag (fl b:Int) (hf:IsInt fl) (hb:IsFlag b) (w:World) :
  Calls Tryz.prog 85 #[.int .i64 fl,.int .i64 b] w fun e w'=>e=.returned (.bool (hasF fl b))∧w=w':=by
 by_cases h0:0≤fl
 ·have h1:=and_has fl b h0 hf.2 hb
  generalize hasF fl b=r at h1 ⊢
  go_enter Tryz.func85,Tryz.ntmps85
  go_wp2
  go_ret
  refine ⟨?_,rfl⟩
  simp [bne,h1]
 ·rw [show hasF fl b=false by simp [hasF,h0]]
  go_enter Tryz.func85,Tryz.ntmps85
  go_wp2
  go_ret
  exact ⟨rfl,rfl⟩
theorem specHas (fl b:Int) (h0:0≤fl) (hf:IsInt fl) (hb:IsFlag b) (w:World) :
  Calls Tryz.prog 50 #[.int .i64 fl,.int .i64 b] w fun e w'=>e=.returned (.bool (hasF fl b))∧w=w':=by
 have hd:=Int.tdiv_eq_ediv_of_nonneg (a:=fl) (b:=b) h0
 have hb0:0<b:=by rcases hb with h|h|h|h|h<;>omega
 have hq:0≤fl / b:=Int.ediv_nonneg h0 (by omega)
 have hm:=Int.tmod_eq_emod_of_nonneg (a:=fl / b) (b:=2) hq
 have hle:fl / b≤fl:=Int.ediv_le_self _ h0
 have hn:(b == 0)=false:=by simp;omega
 have hw:IntKind.i64.wrap (fl / b)=fl / b:=by rw [IntWalk.i64_left];exact IntWalk.wrap64_in _ ⟨by omega,by have:=hf.2;omega⟩
 have e:hasF fl b=(fl / b % 2 == 1):=by simp [hasF,h0,BEq.beq]
 rw [e]
 go_enter Tryz.func50,Tryz.ntmps50
 go_wp2
 go_ret
 refine ⟨?_,rfl⟩
 simp
structure Sg where
 fr:Int
 tt:Int
 sq:Int
 ak:Int
 fl:Int
 wn:Int
 ms:Int
 d:ByteArray
def sgCells (s:Sg):Array Value:=#[.int .i64 s.fr,.int .i64 s.tt,.int .u32 s.sq,.int .u32 s.ak,.int .i64 s.fl,.int .i64 s.wn,.int .i64 s.ms,.string s.d]
def sgVal (s:Sg):Value:=.agg (sgCells s)
def sgZero:Sg:=⟨0,0,0,0,0,0,0,ByteArray.empty⟩
theorem sg_zero:#[.int .i64 0,.int .i64 0,.int .u32 0,.int .u32 0,.int .i64 0,.int .i64 0,.int .i64 0,.string ⟨#[]⟩]=sgCells sgZero:=rfl
theorem seg_big:IsBig 41 8:=⟨⟨_,Tryz.underlying41,rfl⟩,by kernel_rfl⟩
theorem seg_one (fr tt sq ak fl wn ms:Int) (d:ByteArray):(#[.int .i64 fr,.int .i64 tt,.int .u32 sq,.int .u32 ak,.int .i64 fl,.int .i64 wn,.int .i64 ms,.string d]:Array Value).all (·.oneCell')=true:=by
 rw [Array.all_eq_true_iff_forall_mem]
 intro v hv
 simp only [List.mem_toArray,List.mem_cons,List.not_mem_nil,or_false] at hv
 rcases hv with h|h|h|h|h|h|h|h<;>rw [h]<;>rfl
def shG:Shape Sg:=⟨41,8,fun s=>[.int .i64 s.fr,.int .i64 s.tt,.int .u32 s.sq,.int .u32 s.ak,.int .i64 s.fl,.int .i64 s.wn,.int .i64 s.ms,.string s.d],fun _=>rfl,fun x v hv=>by simp at hv;rcases hv with rfl|rfl|rfl|rfl|rfl|rfl|rfl|rfl<;>rfl,⟨0,0,0,0,0,0,0,ByteArray.empty⟩,by decide⟩
theorem heldG0 (w:World):Held shG (w.alloc (.cells #[] 41)) w.heap.size w.heap.size 0 0 []:=
 Held.mk' (cur:=#[]) rfl (Nat.le_refl _) (heap_alloc_last w _) (by omega) (by unfold maxLen;omega) rfl rfl
theorem heldG1 (w:World) (s:Sg):Held shG (w.alloc (.cells (sgCells s) 41)) w.heap.size w.heap.size 1 1 [s]:=
 Held.mk' (cur:=sgCells s) rfl (Nat.le_refl _) (heap_alloc_last w _) (by omega) (by unfold maxLen;omega) rfl rfl
structure Later (wb:World) where
 val:World
 ok:Since wb val
theorem wp_region_calm {P:Program} {id:Nat} {Q:Exit→Act→World→Prop} {a:Act} {w wb:World} {l:List Oper} (hm:P.follows .mixedOrders=true) (hB:Region.lexB .any l.toArray=true) (h0:Since wb w)
  (h:wpQuiet P l.toArray (fun w'=>∃ x:Later wb,w'=x.val) (fun a'=>∀ w',(∃ x:Later wb,w'=x.val)→Q .normal a' w') l a):(Code.region id l.toArray true).wp P Q a w:=
 wp_region_quiet (C:=fun w'=>∃ x:Later wb,w'=x.val) hm hB ⟨⟨w.drew,h0.drew⟩,rfl⟩ (by simpa using h)
theorem calm_call {P:Program} {f:FuncId} {args:Array Value} {wb:World} {x:Later wb} {v:Value}
  (h:Calls P f args x.val fun e w'=>e=.returned v∧Since x.val w'):Calls P f args x.val fun e w''=>e=.returned v∧∃ y:Later wb,w''=y.val:=
 h.mono fun _ w' ⟨he,hs⟩=>⟨he,⟨w',x.ok.trans hs⟩,rfl⟩
end Go.Proofs.YtmigalhmlofbkaaGreatDoor
namespace Go.Proofs.YtmigalhmlofbkaaGreatDoor
open Go.ChangeShapes Go.WideShapes Go.ChangeAt Go.RowKit Go.Deep
def Laid {α:Type} (S:Shape α) (sl:TypeId) (bytes:Nat):Prop:=Tryz.prog.underlying sl=some (.slice S.ty)∧∃ ii z,Tryz.prog.info? S.ty=some ii∧ii.zero=some z∧ii.size=S.k∧ii.bytes=bytes∧z.cells.size=S.k
section
variable {α:Type} {S:Shape α}
theorem Rd.flat {w:World} {x:Addr} {m:Nat} {ys:List α} (R:Rd S w (some x) m ys):∀ j u,(S.cells ys)[j]?=some u→w.cell? (x.add j)=some u:=by
 intro t u hu
 have hl:t<(S.cells ys).length:=(List.getElem?_eq_some_iff.1 hu).1
 rw [S.cells_len,R.len] at hl
 have hpos:=S.pos
 obtain ⟨i,j,hj,rfl⟩:∃ i j,j<S.k∧t=i*S.k+j:=⟨t / S.k,t % S.k,Nat.mod_lt _ hpos,by rw [Nat.mul_comm];exact (Nat.div_add_mod t S.k).symm⟩
 have hi:i<m:=by
  rcases Nat.lt_or_ge i m with h1|h1
  ·exact h1
  ·have:m*S.k≤i*S.k:=Nat.mul_le_mul_right _ h1
   omega
 obtain ⟨y,hy,_,hc⟩:=R.cell i hi
 cases hy
 rw [hc j hj,← hu,S.cells_at ys i j (by rw [R.len];exact hi) hj]
theorem Shape.cells_one (S:Shape α) (ys:List α):∀ u∈S.cells ys,u.oneCell'=true:=by
 intro u hu
 obtain ⟨x,_,hx⟩:=List.mem_flatMap.1 hu
 exact S.one x u hx
theorem app_own {sl bytes:Nat} (L:Laid S sl bytes) {ops:Array Oper} {rest:List Oper} {o:Oper} {a:Act} {Q:Exit→Act→World→Prop} {w:World} {B n:Nat} {v:Value} {xs:List α} {ad:Addr} {m c:Nat} {ys:List α} (hgd:o.guard=none) (s x:Operand)
  (ho:o.op=.call {callee:=.builtin .append,args:=#[s,x],argTypes:=#[sl,sl]}) (hs:a.eval s=v) (T:Own S w B v n xs) (hx:a.eval x=.slice (some ad) m c) (R:Rd S w (some ad) m ys) (hm:0<m) (hmax:n+m≤maxLen) (hby:(n+m)*bytes≤140737488355328) (hB:B≤w.heap.size) (H:Nat) (hH:w.heap.size=H)
  (k:∀ g cap w',Held S w' B g (n+m) cap (xs++ys)→w.grownBy w' v.ownBlock→(v.ownBlock=some g∨g=H)→wpList Tryz.prog ops Q rest (a.put o.dst (.slice (some ⟨g,0,none⟩) (n+m) cap)) w') :
  wpList Tryz.prog ops Q (o :: rest) a w:=by
 obtain ⟨hu,ii,z,hi,hz0,hz1,hz2,hzs⟩:=L
 refine wpList_append_lies w hgd s x sl ho B S.ty ii z S.k bytes hu hi hz0 hz1 hz2 hzs S.pos v n _ hs T.2 ad m c (S.cells ys) hx (by rw [S.cells_len,R.len]) R.flat (S.cells_one ys) hm hmax hby hB H hH fun g cap w' hown hgrow hat _=>?_
 exact k g cap w' ⟨by rw [List.length_append,T.1,R.len],by rw [S.cells_append];exact hown⟩ hgrow hat
theorem Rd.one (w:World) (x:α) (t:TypeId) (b:Nat) (hb:b=w.heap.size):Rd S (w.alloc (.cells (S.enc x).toArray t)) (some ⟨b,0,none⟩) 1 [x]:=by
 subst hb
 refine ⟨rfl,by unfold maxLen;omega,fun i hi=>⟨_,rfl,by simp,fun j hj=>?_⟩⟩
 obtain rfl:i=0:=by omega
 have e:(⟨w.heap.size,0,none⟩:Addr).add (0*S.k+j)=⟨w.heap.size,j,none⟩:=by unfold Addr.add;split<;>simp_all
 rw [e,World.cell?_alloc_mark]
 simp [Shape.get]
theorem Held.empty (w:World):Held S (w.alloc (.cells #[] S.ty)) w.heap.size w.heap.size 0 0 []:=
 ⟨rfl,by
  have:=World.ownsRow_made (base:=w.heap.size) (e:=S.ty) (size:=S.k) w #[] 0 (Nat.le_refl _) (by decide) (by simp)
  simpa [Shape.cells] using this⟩
end
theorem since_grown {w x y:World} (h:Since w x) {row:Option Nat} (g:x.grownBy y row) (hv:∀ k,row=some k→w.heap.size≤k):Since w y:=
 ⟨g.os.trans h.os,g.tape.trans h.tape,g.output.trans h.output,Nat.le_trans h.size g.size,fun k hk=>(g.block k (Nat.lt_of_lt_of_le hk h.size) (fun e=>by have:=hv k e.symm;omega)).trans (h.block k hk)⟩
end Go.Proofs.YtmigalhmlofbkaaGreatDoor
namespace Go.Proofs.YtmigalhmlofbkaaGreatDoor
open Go.ChangeShapes Go.WideShapes Go.ChangeAt Go.RowKit
theorem info_G:(Tryz.prog.info? 41).map (fun i=>(i.zero,i.size,i.bytes))=some (some (.agg #[.int .i64 0,.int .i64 0,.int .u32 0,.int .u32 0,.int .i64 0,.int .i64 0,.int .i64 0,.string ⟨#[]⟩]),8,64):=by kernel_rfl
theorem laidG:Laid shG 47 64:=by
 obtain ⟨ii,hi,hz0,hz1,hz2⟩:=info_parts info_G
 exact ⟨Tryz.underlying47,ii,_,hi,hz0,hz1,hz2,rfl⟩
theorem touch_grownG {w w':World} {g n c:Nat} (h:w.grownBy w' (Value.slice (some ⟨g,0,none⟩) n c).ownBlock):Touch g w w':=⟨h.os,h.tape,h.output,h.size,fun k hk hne=>h.block k hk (by simp [Value.ownBlock];omega)⟩
theorem own_or {g n c g' H:Nat} (h:(Value.slice (some ⟨g,0,none⟩) n c).ownBlock=some g'∨g'=H):g=g'∨g'=H:=by
 rcases h with h|h
 ·exact Or.inl (by simpa [Value.ownBlock] using h)
 ·exact Or.inr h
theorem vA {ops:Array Oper} {rest:List Oper} {o:Oper} {a:Act} {w:World} {Q:Exit→Act→World→Prop} {B n g c:Nat} {xs:List Sg} {ad:Addr} {ys:List Sg} {s x:Operand} (T:Held shG w B g n c xs) (R:Rd shG w (some ad) 1 ys) (hmax:n+1≤maxLen) (hby:(n+1)*64≤140737488355328) (hB:B≤w.heap.size)
  (k:∀ g' cap w',Held shG w' B g' (n+1) cap (xs++ys)→w.grownBy w' (Value.slice (some ⟨g,0,none⟩) n c).ownBlock→((Value.slice (some ⟨g,0,none⟩) n c).ownBlock=some g'∨g'=w.heap.size)→VL ops Q rest (a.put o.dst (.slice (some ⟨g',0,none⟩) (n+1) cap)) w')
  (ho:o.op=.call {callee:=.builtin .append,args:=#[s,x],argTypes:=#[47,47]}:=by rfl) (hg:o.guard=none:=by rfl) (hs:a.eval s=.slice (some ⟨g,0,none⟩) n c:=by kernel_rfl) (hx:a.eval x=.slice (some ad) 1 1:=by kernel_rfl):VL ops Q (o :: rest) a w:=
 ⟨app_own laidG hg s x ho hs T hx R (by decide) hmax hby hB _ rfl fun g' cap w' p q r=>(k g' cap w' p q r).out⟩
end Go.Proofs.YtmigalhmlofbkaaGreatDoor
namespace Go.Proofs.YtmigalhmlofbkaaGreatDoor
abbrev pX (b k:Nat):Value:=.pointer (some ⟨b,k,none⟩)
abbrev bF:Value:=.bool false
abbrev bT:Value:=.bool true
abbrev iJ (x:Int):Value:=.int .i64 x
abbrev uJ (x:Int):Value:=.int .u32 x
theorem vZ {ops:Array Oper} {Q:Exit→Act→World→Prop} {a:Act} {w:World} (t:(Nat→Value)→Array Value) (h:∀ Z,wpList Tryz.prog ops Q [] {tmps:=t Z,defers:=[]} w) (e:a={tmps:=t (fun k=>(a.tmps.toList[k]?).getD undef),defers:=[]}:=by kernel_rfl):VL ops Q [] a w:=by
 have h':=h (fun k=>(a.tmps.toList[k]?).getD undef)
 rw [e]
 exact ⟨h'⟩
theorem vAny {T:Type} {ops:Array Oper} {Q:Exit→Act→World→Prop} {l:List Oper} {a:Act} {w:World} (F:T→Array Value) (h:∀ t,VL ops Q [] {tmps:=F t,defers:=[]} w) (k:∃ t,VL ops Q [] {tmps:=F t,defers:=[]} w→VL ops Q l a w):VL ops Q l a w:=by
 obtain ⟨t,ht⟩:=k
 exact ht (h t)
theorem vKey {T:Type} {ops:Array Oper} {Q:Exit→Act→World→Prop} {l:List Oper} {a:Act} {w:World} (F:T→Array Value) (h:∀ t x,Since w x→VL ops Q [] {tmps:=F t,defers:=[]} x) (k:(∀ t x,Since w x→VL ops Q [] {tmps:=F t,defers:=[]} x)→VL ops Q l a w):VL ops Q l a w:=k h
end Go.Proofs.YtmigalhmlofbkaaGreatDoor
