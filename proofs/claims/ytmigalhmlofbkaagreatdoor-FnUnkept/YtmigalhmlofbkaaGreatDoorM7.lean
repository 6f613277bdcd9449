/- A part of the proof. -/
import Derived.RangeFuncNested
import Derived.RangeFuncBound
import Derived.RangeFuncCalls
import Derived.RangeFuncLeaves
import Derived.Shelf.Abstract
import Derived.Shelf.RegionOpen
import Derived.OwnWalkIn
import Derived.TacticsInMore
import Derived.LoopNIn
import Derived.LoopIn
import Derived.Laws.IdiomStrings
import Derived.Laws.BytesArg
import Derived.Lib.LazyBuf
import Derived.WalkLawsBesides
import Derived.Test.YtmigalhmlofbkaaGreatDoorM6
import Derived.Laws.Concat
import Derived.Test.YtmigalhmlofbkaaGreatDoorOut
import Derived.Deep.DeepCutAuto
set_option linter.unusedVariables false
set_option maxRecDepth 10000
set_option maxHeartbeats 2000000
namespace Go.Proofs.YtmigalhmlofbkaaGreatDoor
open Go.ChangeShapes Go.WideShapes Go.ChangeAt Go.RowKit
def congVal (x t d:Int) (f:Bool) (r:Int):Value:=.agg #[.int .i64 x,.int .i64 t,.int .i64 d,.bool f,.int .u32 r]
def congOk (x t d:Int):Bool:=decide (100≤x∧x≤8000) && (decide (200≤t∧t≤8000) && decide (0≤d∧d≤1000000))
theorem cong_bounds {x t d:Int} (k:congOk x t d=true):(100≤x∧x≤8000)∧(200≤t∧t≤8000)∧0≤d∧d≤1000000:=by
 simp [congOk] at k
 omega
theorem implCongOk (x t d:Int) (f:Bool) (r:Int) (w:World) :
  Calls Tryz.prog 89 #[congVal x t d f r] w fun e w'=>e=.returned (.bool (congOk x t d))∧w'=w.alloc (.cells #[.int .i64 x,.int .i64 t,.int .i64 d,.bool f,.int .u32 r] 37):=by
 unfold congVal
 go_enter Tryz.func89,Tryz.ntmps89
 go_wp2
 all_goals go_ret
 all_goals refine ⟨ret_bool ?_,by first|rfl|simp [*]⟩
 all_goals rw [Bool.eq_iff_iff]
 all_goals simp [congOk, *]
 all_goals omega
theorem isUnderWay (n:Int) (w:World) :
  Calls Tryz.prog 162 #[.int .i64 n] w fun e w'=>e=.returned (.bool (decide (0≤n∧n≤8000)))∧w=w':=by
 go_enter Tryz.func162,Tryz.ntmps162
 go_wp2
 all_goals go_ret
 all_goals refine ⟨ret_bool ?_,by first|rfl|simp [*]⟩
 all_goals rw [Bool.eq_iff_iff]
 all_goals simp [*]
 all_goals omega
theorem specClip (x a b:Int) (h:a≤b) (w:World) :
  Calls Tryz.prog 154 #[.int .i64 x,.int .i64 a,.int .i64 b] w fun e w'=>e=.returned (.int .i64 (min (max x a) b))∧w=w':=by
 go_enter Tryz.func154,Tryz.ntmps154
 go_wp2
 all_goals go_ret
 all_goals exact ⟨ret_int (by omega),rfl⟩
theorem implHalved (n:Int) (h0:0≤n) (h1:n≤8000) (w:World) :
  Calls Tryz.prog 178 #[.int .i64 n] w fun e w'=>e=.returned (.int .i64 (max (n / 2) 200))∧w=w':=by
 go_enter Tryz.func178,Tryz.ntmps178
 go_wp2
 all_goals go_ret
 all_goals exact ⟨ret_int (by omega),rfl⟩
theorem implSized (x t d:Int) (f:Bool) (r n:Int) (w:World) :
  Calls Tryz.prog 179 #[congVal x t d f r,.int .i64 n] w fun e w'=>e=.returned (congVal (min (max n 100) 8000) t d f r)∧∃ y z:Array Value,w'=(w.alloc (.cells y 37)).alloc (.cells z 37):=by
 unfold congVal
 go_enter Tryz.func179,Tryz.ntmps179
 go_wp2
 ·rw [show min (max n 100) 8000=100 by omega]
  refine bodyPost_ret (v:=.agg #[.int .i64 100,.int .i64 t,.int .i64 d,.bool f,.int .u32 r]) ?_ rfl ⟨rfl,_,_,rfl⟩
  simp [results,go_sem]
 ·rw [show min (max n 100) 8000=8000 by omega]
  refine bodyPost_ret (v:=.agg #[.int .i64 8000,.int .i64 t,.int .i64 d,.bool f,.int .u32 r]) ?_ rfl ⟨rfl,_,_,rfl⟩
  simp [results,go_sem]
 ·rw [show min (max n 100) 8000=n by omega]
  refine bodyPost_ret (v:=.agg #[.int .i64 n,.int .i64 t,.int .i64 d,.bool f,.int .u32 r]) ?_ rfl ⟨rfl,_,_,rfl⟩
  simp [results,go_sem]
theorem implGrown (x t d:Int) (f:Bool) (r n:Int) (h0:0≤x) (h1:x≤8000) (h2:0≤n) (h3:n≤8000) (w:World) :
  Calls Tryz.prog 177 #[congVal x t d f r,.int .i64 n] w fun e w'=>e=.returned (congVal (min (max (x+n) 100) 8000) t 0 f r)∧∃ p q y z:Array Value,w'=(((w.alloc (.cells p 37)).alloc (.cells q 37)).alloc (.cells y 37)).alloc (.cells z 37):=by
 have hs:=fun wx=>implSized x t 0 f r (x+n) wx
 generalize min (max (x+n) 100) 8000=m at hs ⊢
 unfold congVal at *
 go_enter Tryz.func177,Tryz.ntmps177
 go_wp2_with (go_at_call 179;refine (hs _).mono ?_;rintro _ _ ⟨rfl,y,z,rfl⟩)
 refine bodyPost_ret (v:=.agg #[.int .i64 m,.int .i64 t,.int .i64 0,.bool f,.int .u32 r]) ?_ rfl ⟨rfl,_,_,_,_,rfl⟩
 simp [results,go_sem]
theorem implStart (t:Int) (w:World) :
  Calls Tryz.prog 56 #[.int .i64 t] w fun e w'=>e=.returned (congVal 200 (min (max t 200) 8000) 0 false 0)∧Since w w':=by
 unfold congVal
 go_enter Tryz.func56,Tryz.ntmps56
 go_wp2
 ·rw [show min (max t 200) 8000=200 by omega]
  refine bodyPost_ret (v:=.agg #[.int .i64 200,.int .i64 200,.int .i64 0,.bool false,.int .u32 0]) ?_ rfl ⟨rfl,by repeat (first|exact Since.refl _|apply Since.drew|apply Since.alloc)⟩
  simp [results,go_sem]
 ·rw [show min (max t 200) 8000=8000 by omega]
  refine bodyPost_ret (v:=.agg #[.int .i64 200,.int .i64 8000,.int .i64 0,.bool false,.int .u32 0]) ?_ rfl ⟨rfl,by repeat (first|exact Since.refl _|apply Since.drew|apply Since.alloc)⟩
  simp [results,go_sem]
 ·rw [show min (max t 200) 8000=t by omega]
  refine bodyPost_ret (v:=.agg #[.int .i64 200,.int .i64 t,.int .i64 0,.bool false,.int .u32 0]) ?_ rfl ⟨rfl,by repeat (first|exact Since.refl _|apply Since.drew|apply Since.alloc)⟩
  simp [results,go_sem]
theorem specStart (t:Int) (w:World) :
  Calls Tryz.prog 130 #[.int .i64 t] w fun e w'=>e=.returned (congVal 200 (min (max t 200) 8000) 0 false 0)∧Since w w':=by
 have hc:=fun wx=>specClip t 200 8000 (by omega) wx
 generalize min (max t 200) 8000=m at hc ⊢
 unfold congVal
 go_enter Tryz.func130,Tryz.ntmps130
 go_wp2_with (go_at_call 154;refine (hc _).mono ?_;rintro _ _ ⟨rfl,rfl⟩)
 refine bodyPost_ret (v:=.agg #[.int .i64 200,.int .i64 m,.int .i64 0,.bool false,.int .u32 0]) ?_ rfl ⟨rfl,by repeat (first|exact Since.refl _|apply Since.drew|apply Since.alloc)⟩
 simp [results,go_sem]
end Go.Proofs.YtmigalhmlofbkaaGreatDoor
namespace Go.Proofs.YtmigalhmlofbkaaGreatDoor
open Go.ChangeShapes Go.WideShapes Go.ChangeAt Go.RowKit Go.Shelf
attribute [local go_sem] Oper.semAt_some
def part (f:Nat→Int):Nat→Int
 | 0=>0
 | i+1=>part f i+(if i % 2=0 then 256*f i else f i)
def byteAt (s:ByteArray) (i:Nat):Int:=if h:i<s.size then (s[i].toNat:Int) else 0
theorem byteAt_in (s:ByteArray) (i:Nat) (h:i<s.size):byteAt s i=(s[i].toNat:Int):=by
 simp [byteAt,h]
theorem byteAt_range (s:ByteArray) (i:Nat):0≤byteAt s i∧byteAt s i<256:=by
 unfold byteAt
 split
 ·have:=UInt8.toNat_lt s[i]
  omega
 ·omega
attribute [local go_sem] Oper.semAt_some
def ones (s:ByteArray):Int:=if 2000<s.size then -1 else foldOf (part (byteAt s) s.size)
end Go.Proofs.YtmigalhmlofbkaaGreatDoor
namespace Go.Proofs.YtmigalhmlofbkaaGreatDoor
open Go.ChangeShapes Go.WideShapes Go.ChangeAt Go.RowKit
def textOf (f:Nat→Int) (n:Nat):ByteArray:=strOfNums ((List.range n).map f)
theorem textOf_size (f:Nat→Int) (n:Nat):(textOf f n).size=n:=by
 simp [textOf,strOfNums_size]
theorem byteAt_textOf (f:Nat→Int) (n i:Nat) (hi:i<n) (h:0≤f i∧f i<256):byteAt (textOf f n) i=f i:=by
 rw [byteAt_in _ _ (by rw [textOf_size];exact hi)]
 have e:(textOf f n)[i]'(by rw [textOf_size];exact hi)=UInt8.ofNat (f i).toNat:=by
  show (textOf f n).data[i]'_=_
  simp [textOf,strOfNums]
 rw [e,UInt8.toNat_ofNat']
 omega
theorem text_ext (s t:ByteArray) (h:s.size=t.size) (hb:∀ i,i<s.size→byteAt s i=byteAt t i):s=t:=by
 have hd:s.data=t.data:=by
  apply Array.ext
  ·exact h
  ·intro i h1 h2
   have:=hb i h1
   rw [byteAt_in s i h1,byteAt_in t i h2] at this
   exact UInt8.toNat_inj.1 (by exact_mod_cast this)
 cases s
 cases t
 exact congrArg ByteArray.mk hd
theorem textOf_bytes (s:ByteArray):textOf (byteAt s) s.size=s:=
 text_ext _ _ (textOf_size _ _) fun i hi=>by
  rw [textOf_size] at hi
  exact byteAt_textOf _ _ _ hi (byteAt_range s i)
theorem bytesBack (f:Nat→Int) (n cap b:Nat) (w:World) (hc:∀ i,i<n→w.cell? ⟨b,i,none⟩=some (.int .u8 (f i))) :
  (convert 22 9 (.slice (some ⟨b,0,none⟩) n cap)).run Tryz.prog w=.ok (.string (textOf f n)) w:=by
 refine run_convert_bytes_arg _ 22 5 Tryz.underlying22 Tryz.underlying5 b 0 n cap _ (by simp) ?_ 9 Tryz.underlying9
 intro i hi
 rw [Nat.zero_add,hc i hi]
 simp [List.getD,hi]
end Go.Proofs.YtmigalhmlofbkaaGreatDoor
namespace Go.Proofs.YtmigalhmlofbkaaGreatDoor
open Go.ChangeShapes Go.WideShapes Go.ChangeAt Go.RowKit Go.Deep
def shP:Shape (Int×ByteArray):=⟨141,2,fun x=>[.int .u32 x.1,.string x.2],fun _=>rfl,fun x v hv=>by simp at hv;rcases hv with rfl|rfl<;>rfl,(0,ByteArray.empty),by decide⟩
def pAt (ps:List (Int×ByteArray)) (i:Nat):Int×ByteArray:=ps.getD i (0,ByteArray.empty)
theorem info_P:(Tryz.prog.info? 141).map (fun i=>(i.zero,i.size,i.bytes))=some (some (.agg #[.int .u32 0,.string ByteArray.empty]),2,24):=by kernel_rfl
theorem Rd.prt {w:World} {a:Option Addr} {n:Nat} {ps:List (Int×ByteArray)} (h:Rd shP w a n ps) (i:Nat) (hi:i<n):∃ x,a=some x∧x.block<w.heap.size∧w.cell? (x.add (i*2))=some (.int .u32 (pAt ps i).1)∧w.cell? ⟨(x.add (i*2)).block,(x.add (i*2)).off+1,none⟩=some (.string (pAt ps i).2):=by
 obtain ⟨x,e,hb,hc⟩:=h.cell i hi
 refine ⟨x,e,hb,hc 0 (by decide),?_⟩
 rw [addr_step x (i*2) 1 (by omega)]
 exact hc 1 (by decide)
theorem Held.prt {w:World} {B g n cap:Nat} {ps:List (Int×ByteArray)} (h:Held shP w B g n cap ps) (i:Nat) (hi:i<n):w.cell? ⟨g,i*2,none⟩=some (.int .u32 (pAt ps i).1)∧w.cell? ⟨g,i*2+1,none⟩=some (.string (pAt ps i).2):=⟨h.cell i hi 0 (by decide),h.cell i hi 1 (by decide)⟩
theorem Held.setP {w:World} {B g n cap:Nat} {ps:List (Int×ByteArray)} (h:Held shP w B g n cap ps) (i:Nat) (hi:i<n) (x:Int) (y:ByteArray):Held shP ((w.setCell ⟨g,i*2,none⟩ (.int .u32 x)).setCell ⟨g,i*2+1,none⟩ (.string y)) B g n cap (ps.set i (x,y)):=h.set i hi (x,y)
theorem pcells_zero:∀ n:Nat,shP.cells (List.replicate n (0,ByteArray.empty))=(List.range (n*2)).map (fun j=>if j % 2=0 then .int .u32 0 else .string ByteArray.empty)
 | 0=>rfl
 | n+1=>by
  rw [List.replicate_succ',show (n+1)*2=n*2+1+1 by omega,List.range_succ,List.range_succ,List.map_append,List.map_append,← pcells_zero n,Shape.cells_append]
  simp [Shape.cells,shP]
theorem made_prt {w:World} {B g n:Nat} (h:w.ownsRow B 141 2 (.slice (some ⟨g,0,none⟩) n n) n (madeCells #[.int .u32 0,.string ByteArray.empty] (n*2)).toList):Held shP w B g n n (List.replicate n (0,ByteArray.empty)):=by
 refine Held.of_owns (by simp) ?_ h
 rw [pcells_zero n]
 apply List.ext_getElem?
 intro j
 by_cases hj:j<n*2
 ·simp only [madeCells,Array.getElem?_toList]
  have hm:j % 2=0∨j % 2=1:=by omega
  rcases hm with h|h<;>simp [hj,h]
 ·simp [madeCells,hj]
def inVal (q:Int) (d:ByteArray) (v:Value) (r:Int):Value:=.agg #[.int .u32 q,.string d,v,.int .i64 r]
def distI (a b:Int):Int:=(b - a+2147483648) % 4294967296 - 2147483648
theorem distI_is (a b:Int):IsDist a b (distI a b):=by
 unfold IsDist distI
 omega
def okB:Int→Int→List (Int×Int)→Bool
 | _,_,[]=>true
 | e,W,s :: r=>decide (e<s.1∧s.1<s.2∧s.2≤W) && okB s.2 W r
def spn (q:Int) (p:Int×ByteArray):Int×Int:=(distI q p.1,distI q p.1+p.2.size)
def spans (q:Int) (ps:List (Int×ByteArray)):List (Int×Int):=ps.map (spn q)
def inOk (q:Int) (d:ByteArray) (r:Int) (ps:List (Int×ByteArray)):Bool:=decide (1≤r∧r≤4096) && (decide ((d.size:Int)≤r) && okB 0 (r - d.size) (spans q ps))
structure Good (q:Int) (d:ByteArray) (r:Int) (n:Nat) (ps:List (Int×ByteArray)):Prop where
 hq:IsWord q
 hd:d.size≤1048576
 hr:IsInt r
 hn:n≤1048576
 hp:∀ i,i<n→IsWord (pAt ps i).1∧(pAt ps i).2.size≤1048576
theorem okB_many:∀ (l:List (Int×Int)) (e W:Int),okB e W l=true→e≤W→(l.length:Int)≤W - e
 | [],e,W,_,h=>by simpa using h
 | s :: r,e,W,h,hw=>by
  simp only [okB,Bool.and_eq_true,decide_eq_true_eq] at h
  have:=okB_many r s.2 W h.2 (by omega)
  simp
  omega
theorem okB_great {l:List (Int×Int)} {W:Int} (hW:W≤4096) (hW0:0≤W) (h:4096<l.length):okB 0 W l=false:=by
 cases hk:okB 0 W l
 ·rfl
 ·have:=okB_many l 0 W hk hW0
  omega
theorem spans_len (q:Int) (ps:List (Int×ByteArray)):(spans q ps).length=ps.length:=by simp [spans]
theorem spans_drop (q:Int) (ps:List (Int×ByteArray)) (k:Nat) (h:k<ps.length):(spans q ps).drop k=spn q (pAt ps k) :: (spans q ps).drop (k+1):=by
 have hl:k<(spans q ps).length:=by rw [spans_len];exact h
 rw [List.drop_eq_getElem_cons hl]
 congr 1
 simp [spans,pAt,List.getD,List.getElem?_eq_getElem h]
theorem okB_step {q W e:Int} {ps:List (Int×ByteArray)} {k:Nat} (h:k<ps.length):okB e W ((spans q ps).drop k)=(decide (e<(spn q (pAt ps k)).1∧(spn q (pAt ps k)).1<(spn q (pAt ps k)).2∧(spn q (pAt ps k)).2≤W) && okB (spn q (pAt ps k)).2 W ((spans q ps).drop (k+1))):=by
 rw [spans_drop q ps k h,okB]
theorem okB_end {q W e:Int} {ps:List (Int×ByteArray)} {k:Nat} (h:ps.length≤k):okB e W ((spans q ps).drop k)=true:=by
 rw [List.drop_eq_nil_of_le (by rw [spans_len];exact h),okB]
theorem specInOk (q:Int) (d:ByteArray) (r:Int) (a:Option Addr) (n cap:Nat) (ps:List (Int×ByteArray)) (g:Good q d r n ps) (w:World) (R:Rd shP w a n ps) :
  Calls Tryz.prog 155 #[inVal q d (.slice a n cap) r] w fun e w'=>e=.returned (.bool (inOk q d r ps))∧Since w w':=by
 have G:Since w (w.alloc (.cells #[.int .u32 q,.string d,.slice a n cap,.int .i64 r] 33)):=(Since.refl _).alloc _
 have A:=Blk.new w #[.int .u32 q,.string d,.slice a n cap,.int .i64 r] 33
 have a0:=A.cell 0
 have a1:=A.cell 1
 have a2:=A.cell 2
 have a3:=A.cell 3
 simp at a0 a1 a2 a3
 have hlen:=R.len
 obtain ⟨hq,hd,⟨hr1,hr2⟩,hn,hp⟩:=g
 have i1:=fun wx=>specIn r 1 4096 wx
 unfold inVal inOk
 by_cases c1:1≤r∧r≤4096
 ·rw [show decide (1≤r∧r≤4096)=true by simp;omega] at i1 ⊢
  rw [Bool.true_and]
  by_cases c2:(d.size:Int)≤r
  ·rw [show decide ((d.size:Int)≤r)=true by simp;omega,Bool.true_and]
   obtain ⟨c1,c1'⟩:=c1
   by_cases c3:(4096:Int)<(n:Int)
   ·rw [okB_great (by omega) (by omega) (by rw [spans_len,hlen];omega)]
    clear R hp
    go_enter Tryz.func155,Tryz.ntmps155
    go_wp2_with (go_at_call 49;refine (i1 _).mono ?_;rintro _ _ ⟨rfl,rfl⟩)
    go_ret
    exact ⟨rfl,G⟩
   ·have Rw:=R.since G
    obtain ⟨W,hW⟩:∃ W,r - (d.size:Int)=W:=⟨_,rfl⟩
    obtain ⟨z,hz⟩:∃ z,Hid (okB 0 (r - d.size) (spans q ps)=z):=⟨_,rfl⟩
    rw [hz.out]
    go_enter Tryz.func155,Tryz.ntmps155
    go_wp2_with (go_at_call 49;refine (i1 _).mono ?_;rintro _ _ ⟨rfl,rfl⟩)
    go_loopw [3,4] (fun e i wr=>∃ (k:Nat) (ev:Int),k≤n∧i=.int .i64 k∧e=.int .i64 ev∧0≤ev∧ev≤4096∧Hid (okB ev (r - d.size) ((spans q ps).drop k)=z)∧Since (w.alloc (.cells #[.int .u32 q,.string d,.slice a n cap,.int .i64 r] 33)) wr) (fun _ i _=>n - (intOf i).toNat)
    case atStart=>exact ⟨0,0,by omega,rfl,rfl,by omega,by omega,by simpa using hz,Since.refl _⟩
    case round=>
     obtain ⟨k,ev,hk,rfl,rfl,he0,he1,hz',S⟩:=hrel
     have A2:=A.since S
     have b0:=A2.cell 0
     have b1:=A2.cell 1
     have b2:=A2.cell 2
     have b3:=A2.cell 3
     simp at b0 b1 b2 b3
     clear a0 a1 a2 a3 i1
     by_cases hlt:k<n
     ·obtain ⟨x,rfl,hb,p0,p1⟩:=(Rw.since S).prt k hlt
      obtain ⟨hp1,hp2⟩:=hp k hlt
      have hz2:=hz'.out
      rw [okB_step (by omega)] at hz2
      unfold spn at hz2
      have hdist:=fun wx=>specDist q (pAt ps k).1 (distI q (pAt ps k).1) hq hp1 (distI_is _ _) wx
      obtain ⟨hd1,hd2,_⟩:=distI_is q (pAt ps k).1
      generalize hO:pAt ps k=O at p0 p1 hp1 hp2 hz2 hdist hd1 hd2
      generalize distI q O.1=t at hz2 hdist hd1 hd2
      have hlt':(k:Int)<(n:Int):=by omega
      have hadd:IntKind.i64.wrap (t+(O.2.size:Int))=t+(O.2.size:Int):=by rw [IntWalk.i64_left];exact IntWalk.wrap64_in _ ⟨by omega,by omega⟩
      have hsub:IntKind.i64.wrap (r - (d.size:Int))=r - (d.size:Int):=by rw [IntWalk.i64_left];exact IntWalk.wrap64_in _ ⟨by omega,by omega⟩
      clear hp R Rw hz'
      replace hz2:Hid _:=hz2
      have xb:(x.add (k*2)).block=x.block:=add_block _ _
      have k0:∀ z:Later wr,z.val.cell? ⟨w.heap.size,0,none⟩=some (.int .u32 q):=fun z=>(Below.cell z.ok (p:=⟨w.heap.size,0,none⟩) A2.lt).trans b0
      have k1:∀ z:Later wr,z.val.cell? ⟨w.heap.size,1,none⟩=some (.string d):=fun z=>(Below.cell z.ok (p:=⟨w.heap.size,1,none⟩) A2.lt).trans b1
      have k2:∀ z:Later wr,z.val.cell? ⟨w.heap.size,2,none⟩=some (.slice (some x) n cap):=fun z=>(Below.cell z.ok (p:=⟨w.heap.size,2,none⟩) A2.lt).trans b2
      have k3:∀ z:Later wr,z.val.cell? ⟨w.heap.size,3,none⟩=some (.int .i64 r):=fun z=>(Below.cell z.ok (p:=⟨w.heap.size,3,none⟩) A2.lt).trans b3
      have m0:∀ z:Later wr,z.val.cell? (x.add (k*2))=some (.int .u32 O.1):=fun z=>(Below.cell z.ok (p:=x.add (k*2)) (by rw [xb];exact hb)).trans p0
      have m1:∀ z:Later wr,z.val.cell? ⟨(x.add (k*2)).block,(x.add (k*2)).off+1,none⟩=some (.string O.2):=fun z=>(Below.cell z.ok (p:=⟨(x.add (k*2)).block,(x.add (k*2)).off+1,none⟩) (by show (x.add (k*2)).block<_;rw [xb];exact hb)).trans p1
      have hcall:∀ z:Later wr,Calls Tryz.prog 165 #[.int .u32 q,.int .u32 O.1] z.val fun e w''=>e=.returned (.int .i64 t)∧∃ y:Later wr,w''=y.val:=fun z=>(hdist z.val).mono (by rintro _ _ ⟨h1,rfl⟩;exact ⟨h1,z,rfl⟩)
      clear hdist xb hb
      by_cases hc:ev<t∧t<t+(O.2.size:Int)∧t+(O.2.size:Int)≤r - (d.size:Int)
      ·obtain ⟨hc1,hc2,hc3⟩:=hc
       have hd3:((O.2.size:Int) == 0)=false:=by rw [beq_eq_false_iff_ne];omega
       have hd4:decide ((4096:Int)<(O.2.size:Int))=false:=decide_eq_false (by omega)
       have hd5:decide (t≤ev)=false:=decide_eq_false (by omega)
       have hd6:decide (r - (d.size:Int)<t+(O.2.size:Int))=false:=decide_eq_false (by omega)
       go_wp2
       have hne:Nonempty (Later wr):=⟨⟨wr,Since.refl _⟩⟩
       refine wp_region_calm (wb:=wr) (by kernel_rfl) (by kernel_rfl) (Since.refl _) ?_
       repeat (go_big_quiet_step (exact hcall _))
       refine wpQuiet_nil ?_
       rintro _ ⟨y,rfl⟩
       have d0:=k0 y
       have d1:=k1 y
       have d2:=k2 y
       have d3:=k3 y
       have e1:=m1 y
       clear k0 k1 k2 k3 m0 m1 hcall b0 b1 b2 b3 p0 p1
       go_wp2
       go_quiet (fail)
       go_wp2
       have hz3:=hz2.out
       rw [show decide (ev<t∧t<t+(O.2.size:Int)∧t+(O.2.size:Int)≤r - (d.size:Int))=true from decide_eq_true ⟨hc1,hc2,hc3⟩,Bool.true_and] at hz3
       clear hz2
       replace hz3:Hid _:=hz3
       go_roundw
       case rel=>exact ⟨k+1,t+O.2.size,by omega,by go_num,rfl,by omega,by omega,hz3,since_drews (S.trans y.ok) _⟩
       case measure=>simp [intOf];omega
      ·by_cases s3:(O.2.size:Int)=0
       ·have hz3:z=false:=by rw [← hz2.out,decide_eq_false hc,Bool.false_and]
        subst hz3
        clear hz2 hc
        have hd3:((O.2.size:Int) == 0)=true:=by rw [beq_iff_eq];omega
        go_wp2
        have hne:Nonempty (Later wr):=⟨⟨wr,Since.refl _⟩⟩
        refine wp_region_calm (wb:=wr) (by kernel_rfl) (by kernel_rfl) (Since.refl _) ?_
        repeat (go_big_quiet_step (exact hcall _))
        refine wpQuiet_nil ?_
        rintro _ ⟨y,rfl⟩
        have d0:=k0 y
        have d1:=k1 y
        have d2:=k2 y
        have d3:=k3 y
        have e1:=m1 y
        clear k0 k1 k2 k3 m0 m1 hcall b0 b1 b2 b3 p0 p1
        go_wp2
        go_quiet (fail)
        go_wp2
        go_ret
        exact ⟨rfl,G.trans (since_drews (S.trans y.ok) _)⟩
       by_cases s4:(4096:Int)<(O.2.size:Int)
       ·have hz3:z=false:=by rw [← hz2.out,decide_eq_false hc,Bool.false_and]
        subst hz3
        clear hz2 hc
        have hd3:((O.2.size:Int) == 0)=false:=by rw [beq_eq_false_iff_ne];omega
        have hd4:decide ((4096:Int)<(O.2.size:Int))=true:=decide_eq_true (by omega)
        go_wp2
        have hne:Nonempty (Later wr):=⟨⟨wr,Since.refl _⟩⟩
        refine wp_region_calm (wb:=wr) (by kernel_rfl) (by kernel_rfl) (Since.refl _) ?_
        repeat (go_big_quiet_step (exact hcall _))
        refine wpQuiet_nil ?_
        rintro _ ⟨y,rfl⟩
        have d0:=k0 y
        have d1:=k1 y
        have d2:=k2 y
        have d3:=k3 y
        have e1:=m1 y
        clear k0 k1 k2 k3 m0 m1 hcall b0 b1 b2 b3 p0 p1
        go_wp2
        go_quiet (fail)
        go_wp2
        go_ret
        exact ⟨rfl,G.trans (since_drews (S.trans y.ok) _)⟩
       by_cases s5:t≤ev
       ·have hz3:z=false:=by rw [← hz2.out,decide_eq_false hc,Bool.false_and]
        subst hz3
        clear hz2 hc
        have hd3:((O.2.size:Int) == 0)=false:=by rw [beq_eq_false_iff_ne];omega
        have hd4:decide ((4096:Int)<(O.2.size:Int))=false:=decide_eq_false (by omega)
        have hd5:decide (t≤ev)=true:=decide_eq_true (by omega)
        go_wp2
        have hne:Nonempty (Later wr):=⟨⟨wr,Since.refl _⟩⟩
        refine wp_region_calm (wb:=wr) (by kernel_rfl) (by kernel_rfl) (Since.refl _) ?_
        repeat (go_big_quiet_step (exact hcall _))
        refine wpQuiet_nil ?_
        rintro _ ⟨y,rfl⟩
        have d0:=k0 y
        have d1:=k1 y
        have d2:=k2 y
        have d3:=k3 y
        have e1:=m1 y
        clear k0 k1 k2 k3 m0 m1 hcall b0 b1 b2 b3 p0 p1
        go_wp2
        go_quiet (fail)
        go_wp2
        go_ret
        exact ⟨rfl,G.trans (since_drews (S.trans y.ok) _)⟩
       have s6:r - (d.size:Int)<t+(O.2.size:Int):=by omega
       have hz3:z=false:=by rw [← hz2.out,decide_eq_false hc,Bool.false_and]
       subst hz3
       clear hz2 hc
       have hd3:((O.2.size:Int) == 0)=false:=by rw [beq_eq_false_iff_ne];omega
       have hd4:decide ((4096:Int)<(O.2.size:Int))=false:=decide_eq_false (by omega)
       have hd5:decide (t≤ev)=false:=decide_eq_false (by omega)
       have hd6:decide (r - (d.size:Int)<t+(O.2.size:Int))=true:=decide_eq_true (by omega)
       go_wp2
       have hne:Nonempty (Later wr):=⟨⟨wr,Since.refl _⟩⟩
       refine wp_region_calm (wb:=wr) (by kernel_rfl) (by kernel_rfl) (Since.refl _) ?_
       repeat (go_big_quiet_step (exact hcall _))
       refine wpQuiet_nil ?_
       rintro _ ⟨y,rfl⟩
       have d0:=k0 y
       have d1:=k1 y
       have d2:=k2 y
       have d3:=k3 y
       have e1:=m1 y
       clear k0 k1 k2 k3 m0 m1 hcall b0 b1 b2 b3 p0 p1
       go_wp2
       go_quiet (fail)
       go_wp2
       go_ret
       exact ⟨rfl,G.trans (since_drews (S.trans y.ok) _)⟩
     ·have hkn:k=n:=by omega
      subst hkn
      have hz2:=hz'.out
      rw [okB_end (by omega)] at hz2
      subst hz2
      clear hp R Rw hz' hz
      go_wp2
      go_ret
      exact ⟨rfl,G.trans S⟩
  ·rw [show decide ((d.size:Int)≤r)=false from decide_eq_false c2,Bool.false_and]
   obtain ⟨c1,c1'⟩:=c1
   clear R hp
   go_enter Tryz.func155,Tryz.ntmps155
   go_wp2_with (go_at_call 49;refine (i1 _).mono ?_;rintro _ _ ⟨rfl,rfl⟩)
   go_ret
   exact ⟨rfl,G⟩
 ·rw [show decide (1≤r∧r≤4096)=false from decide_eq_false c1] at i1 ⊢
  rw [Bool.false_and]
  clear R hp c1
  go_enter Tryz.func155,Tryz.ntmps155
  go_wp2_with (go_at_call 49;refine (i1 _).mono ?_;rintro _ _ ⟨rfl,rfl⟩)
  go_ret
  exact ⟨rfl,G⟩
end Go.Proofs.YtmigalhmlofbkaaGreatDoor
namespace Go.Proofs.YtmigalhmlofbkaaGreatDoor
open Go.ChangeShapes Go.WideShapes Go.ChangeAt Go.RowKit
def connOk (c:Cn) (ps:List (Int×ByteArray)):Bool:=
 decide (0≤c.st∧c.st≤9) && (
 outOk c.oD c.oR && (
 inOk c.iN c.iD c.iR ps && (
 rttOk c.rA c.rS c.rV c.rD && (
 congOk c.cX c.cT c.cD && (
 decide (0≤c.wnd∧c.wnd≤65535) && (
 decide (0≤c.trs∧c.trs≤10) && (
 decide (0≤c.why∧c.why≤4) && (
 decide (0≤distI c.una c.nxt∧distI c.una c.nxt≤4098) && (
 decide (0≤distI c.una c.mx∧distI c.una c.mx≤4098) && (
 decide (0≤distI c.nxt c.mx) && (
 decide (0≤c.agn∧c.agn≤2000000000) && (
 decide (0≤c.prb∧c.prb≤2000000000) && (
 decide (0≤c.rst∧c.rst≤2000000000) && (
 decide (0≤c.tat∧c.tat≤2000000000) && (
 (decide (c.oF=c.una) || (decide (c.st=1∨c.st=2∨c.st=0) && decide (c.oF=(c.una+1) % 4294967296) || c.fsn && decide (c.oF=(c.una - 1) % 4294967296))))))))))))))))))
structure GoodC (c:Cn) (ps:List (Int×ByteArray)):Prop where
 w_iss:IsWord c.iss
 w_una:IsWord c.una
 w_nxt:IsWord c.nxt
 w_mx:IsWord c.mx
 w_wsq:IsWord c.wsq
 w_wak:IsWord c.wak
 w_oF:IsWord c.oF
 w_fsq:IsWord c.fsq
 w_cR:IsWord c.cR
 w_tsq:IsWord c.tsq
 hod:c.oD.size≤1048576
 gd:Good c.iN c.iD c.iR c.pn ps
end Go.Proofs.YtmigalhmlofbkaaGreatDoor
