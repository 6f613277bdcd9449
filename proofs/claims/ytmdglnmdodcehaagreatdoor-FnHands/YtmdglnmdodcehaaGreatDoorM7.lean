/-
  Contracts of impl's and spec's CongOk, CongStart and CongLost, of impl's small methods over what may be under way, of spec's clipping, and of the laws' copying, at every value.
  Contracts of impl's halves (a function that tells the halves of a text to a yield) and of its OnesSum, at every text.
  Contract of impl's OnesSum, at every text.
  Contracts of impl's and spec's Turned, at every text of at most 1048576 bytes, every place and every number.
  Contracts of the laws' functions over buffers of bytes that came: their lists of parts measured, copied, held against another, marked, the marks looked for.
  Spans of bytes behind Next: in order with gaps between; which bytes they cover.
  What ConnOk answers, and spec's ConnOk, at every end.
-/
import Derived.Test.YtmdglnmdodcehaaGreatDoorM0
import Derived.Test.YtmdglnmdodcehaaGreatDoorMB
import Derived.RangeFuncNested
import Derived.RangeFuncBound
import Derived.RangeFuncCalls
import Derived.RangeFuncLeaves
import Derived.Shelf.Abstract
import Derived.Shelf.RegionOpen
import Derived.OwnWalkIn
import Derived.TacticsInMore
import Derived.LoopNIn
import Derived.LoopIn
import Derived.Laws.IdiomStrings
import Derived.Laws.BytesArg
import Derived.Lib.LazyBuf
import Derived.WalkLawsBesides
import Derived.Test.YtmdglnmdodcehaaGreatDoorTab
import Derived.Test.YtmdglnmdodcehaaGreatDoorM6
import Derived.Laws.Concat
import Derived.LoopTactic
import Derived.Laws.ByValue
import Derived.Maps.RangeWalk
import Derived.Test.YtmdglnmdodcehaaGreatDoorM5
import Derived.Test.YtmdglnmdodcehaaGreatDoorOut
import Derived.BigQuiet
import Derived.Deep.DeepCutAuto
namespace Go.Proofs.YtmdglnmdodcehaaGreatDoor
open Go.ChangeShapes Go.WideShapes Go.ChangeAt Go.RowKit
set_option linter.unusedVariables false
set_option maxRecDepth 10000

def congVal (x t d:Int) (f:Bool) (r:Int):Value:=.agg #[.int .i64 x,.int .i64 t,.int .i64 d,.bool f,.int .u32 r]

def congOk (x t d:Int):Bool:=decide (100≤x∧x≤8000) && (decide (200≤t∧t≤8000) && decide (0≤d∧d≤1000000))

theorem cong_bounds {x t d:Int} (k:congOk x t d=true):(100≤x∧x≤8000)∧(200≤t∧t≤8000)∧0≤d∧d≤1000000:=by
 simp [congOk] at k
 omega

theorem implCongOk (x t d:Int) (f:Bool) (r:Int) (w:World) :
  Calls Tryz.prog 84 #[congVal x t d f r] w fun e w'=>e=.returned (.bool (congOk x t d))∧w'=w.alloc (.cells #[.int .i64 x,.int .i64 t,.int .i64 d,.bool f,.int .u32 r] 35):=by
 unfold congVal
 go_enter Tryz.func84,Tryz.ntmps84
 go_wp2
 all_goals go_ret
 all_goals refine ⟨ret_bool ?_,by first|rfl|simp [*]⟩
 all_goals rw [Bool.eq_iff_iff]
 all_goals simp [congOk, *]
 all_goals omega

theorem isUnderWay (n:Int) (w:World) :
  Calls Tryz.prog 165 #[.int .i64 n] w fun e w'=>e=.returned (.bool (decide (0≤n∧n≤8000)))∧w=w':=by
 go_enter Tryz.func165,Tryz.ntmps165
 go_wp2
 all_goals go_ret
 all_goals refine ⟨ret_bool ?_,by first|rfl|simp [*]⟩
 all_goals rw [Bool.eq_iff_iff]
 all_goals simp [*]
 all_goals omega

theorem implHalved (n:Int) (h0:0≤n) (h1:n≤8000) (w:World) :
  Calls Tryz.prog 181 #[.int .i64 n] w fun e w'=>e=.returned (.int .i64 (max (n / 2) 200))∧w=w':=by
 go_enter Tryz.func181,Tryz.ntmps181
 go_wp2
 all_goals go_ret
 all_goals exact ⟨ret_int (by omega),rfl⟩

theorem implSized (x t d:Int) (f:Bool) (r n:Int) (w:World) :
  Calls Tryz.prog 182 #[congVal x t d f r,.int .i64 n] w fun e w'=>e=.returned (congVal (min (max n 100) 8000) t d f r)∧∃ y z:Array Value,w'=(w.alloc (.cells y 35)).alloc (.cells z 35):=by
 unfold congVal
 go_enter Tryz.func182,Tryz.ntmps182
 go_wp2
 ·rw [show min (max n 100) 8000=100 by omega]
  refine bodyPost_ret (v:=.agg #[.int .i64 100,.int .i64 t,.int .i64 d,.bool f,.int .u32 r]) ?_ rfl ⟨rfl,_,_,rfl⟩
  simp [results,go_sem]
 ·rw [show min (max n 100) 8000=8000 by omega]
  refine bodyPost_ret (v:=.agg #[.int .i64 8000,.int .i64 t,.int .i64 d,.bool f,.int .u32 r]) ?_ rfl ⟨rfl,_,_,rfl⟩
  simp [results,go_sem]
 ·rw [show min (max n 100) 8000=n by omega]
  refine bodyPost_ret (v:=.agg #[.int .i64 n,.int .i64 t,.int .i64 d,.bool f,.int .u32 r]) ?_ rfl ⟨rfl,_,_,rfl⟩
  simp [results,go_sem]

theorem implGrown (x t d:Int) (f:Bool) (r n:Int) (h0:0≤x) (h1:x≤8000) (h2:0≤n) (h3:n≤8000) (w:World) :
  Calls Tryz.prog 180 #[congVal x t d f r,.int .i64 n] w fun e w'=>e=.returned (congVal (min (max (x+n) 100) 8000) t 0 f r)∧∃ p q y z:Array Value,w'=(((w.alloc (.cells p 35)).alloc (.cells q 35)).alloc (.cells y 35)).alloc (.cells z 35):=by
 have hs:=fun wx=>implSized x t 0 f r (x+n) wx
 generalize min (max (x+n) 100) 8000=m at hs ⊢
 unfold congVal at *
 go_enter Tryz.func180,Tryz.ntmps180
 go_wp2_with (go_at_call 182;refine (hs _).mono ?_;rintro _ _ ⟨rfl,y,z,rfl⟩)
 refine bodyPost_ret (v:=.agg #[.int .i64 m,.int .i64 t,.int .i64 0,.bool f,.int .u32 r]) ?_ rfl ⟨rfl,_,_,_,_,rfl⟩
 simp [results,go_sem]

theorem implStart (t:Int) (w:World) :
  Calls Tryz.prog 58 #[.int .i64 t] w fun e w'=>e=.returned (congVal 200 (min (max t 200) 8000) 0 false 0)∧Since w w':=by
 unfold congVal
 go_enter Tryz.func58,Tryz.ntmps58
 go_wp2
 ·rw [show min (max t 200) 8000=200 by omega]
  refine bodyPost_ret (v:=.agg #[.int .i64 200,.int .i64 200,.int .i64 0,.bool false,.int .u32 0]) ?_ rfl ⟨rfl,by repeat (first|exact Since.refl _|apply Since.drew|apply Since.alloc)⟩
  simp [results,go_sem]
 ·rw [show min (max t 200) 8000=8000 by omega]
  refine bodyPost_ret (v:=.agg #[.int .i64 200,.int .i64 8000,.int .i64 0,.bool false,.int .u32 0]) ?_ rfl ⟨rfl,by repeat (first|exact Since.refl _|apply Since.drew|apply Since.alloc)⟩
  simp [results,go_sem]
 ·rw [show min (max t 200) 8000=t by omega]
  refine bodyPost_ret (v:=.agg #[.int .i64 200,.int .i64 t,.int .i64 0,.bool false,.int .u32 0]) ?_ rfl ⟨rfl,by repeat (first|exact Since.refl _|apply Since.drew|apply Since.alloc)⟩
  simp [results,go_sem]
end Go.Proofs.YtmdglnmdodcehaaGreatDoor

namespace Go.Proofs.YtmdglnmdodcehaaGreatDoor
open Go.ChangeShapes Go.WideShapes Go.ChangeAt Go.RowKit Go.Shelf
attribute [local go_sem] Oper.semAt_some
set_option linter.unusedVariables false
set_option maxRecDepth 10000

def part (f:Nat→Int):Nat→Int
 | 0=>0
 | i+1=>part f i+(if i % 2=0 then 256*f i else f i)

def byteAt (s:ByteArray) (i:Nat):Int:=if h:i<s.size then (s[i].toNat:Int) else 0

theorem byteAt_in (s:ByteArray) (i:Nat) (h:i<s.size):byteAt s i=(s[i].toNat:Int):=by
 simp [byteAt,h]

theorem byteAt_range (s:ByteArray) (i:Nat):0≤byteAt s i∧byteAt s i<256:=by
 unfold byteAt
 split
 ·have:=UInt8.toNat_lt s[i]
  omega
 ·omega
end Go.Proofs.YtmdglnmdodcehaaGreatDoor

namespace Go.Proofs.YtmdglnmdodcehaaGreatDoor
open Go.ChangeShapes Go.WideShapes Go.ChangeAt Go.RowKit Go.Shelf
attribute [local go_sem] Oper.semAt_some
set_option linter.unusedVariables false
set_option maxRecDepth 10000

def ones (s:ByteArray):Int:=if 2000<s.size then -1 else foldOf (part (byteAt s) s.size)
end Go.Proofs.YtmdglnmdodcehaaGreatDoor

namespace Go.Proofs.YtmdglnmdodcehaaGreatDoor
open Go.ChangeShapes Go.WideShapes Go.ChangeAt Go.RowKit
set_option linter.unusedVariables false
set_option maxRecDepth 10000

def textOf (f:Nat→Int) (n:Nat):ByteArray:=strOfNums ((List.range n).map f)

theorem textOf_size (f:Nat→Int) (n:Nat):(textOf f n).size=n:=by
 simp [textOf,strOfNums_size]

theorem byteAt_textOf (f:Nat→Int) (n i:Nat) (hi:i<n) (h:0≤f i∧f i<256):byteAt (textOf f n) i=f i:=by
 rw [byteAt_in _ _ (by rw [textOf_size];exact hi)]
 have e:(textOf f n)[i]'(by rw [textOf_size];exact hi)=UInt8.ofNat (f i).toNat:=by
  show (textOf f n).data[i]'_=_
  simp [textOf,strOfNums]
 rw [e,UInt8.toNat_ofNat']
 omega

theorem text_ext (s t:ByteArray) (h:s.size=t.size) (hb:∀ i,i<s.size→byteAt s i=byteAt t i):s=t:=by
 have hd:s.data=t.data:=by
  apply Array.ext
  ·exact h
  ·intro i h1 h2
   have:=hb i h1
   rw [byteAt_in s i h1,byteAt_in t i h2] at this
   exact UInt8.toNat_inj.1 (by exact_mod_cast this)
 cases s
 cases t
 exact congrArg ByteArray.mk hd

theorem textOf_bytes (s:ByteArray):textOf (byteAt s) s.size=s:=
 text_ext _ _ (textOf_size _ _) fun i hi=>by
  rw [textOf_size] at hi
  exact byteAt_textOf _ _ _ hi (byteAt_range s i)

theorem bytesBack (f:Nat→Int) (n cap b:Nat) (w:World) (hc:∀ i,i<n→w.cell? ⟨b,i,none⟩=some (.int .u8 (f i))) :
  (convert 22 9 (.slice (some ⟨b,0,none⟩) n cap)).run Tryz.prog w=.ok (.string (textOf f n)) w:=by
 refine run_convert_bytes_arg _ 22 5 Tryz.underlying22 Tryz.underlying5 b 0 n cap _ (by simp) ?_ 9 Tryz.underlying9
 intro i hi
 rw [Nat.zero_add,hc i hi]
 simp [List.getD,hi]
end Go.Proofs.YtmdglnmdodcehaaGreatDoor

namespace Go.Proofs.YtmdglnmdodcehaaGreatDoor
open Go.ChangeShapes Go.WideShapes Go.ChangeAt Go.RowKit Go.Deep
set_option linter.unusedVariables false
set_option maxRecDepth 10000

def shP:Shape (Int×ByteArray):=⟨157,2,fun x=>[.int .u32 x.1,.string x.2],fun _=>rfl,fun x v hv=>by simp at hv;rcases hv with rfl|rfl<;>rfl,(0,ByteArray.empty),by decide⟩

def pAt (ps:List (Int×ByteArray)) (i:Nat):Int×ByteArray:=ps.getD i (0,ByteArray.empty)

theorem info_P:(Tryz.prog.info? 157).map (fun i=>(i.zero,i.size,i.bytes))=some (some (.agg #[.int .u32 0,.string ByteArray.empty]),2,24):=by kernel_rfl

theorem Rd.prt {w:World} {a:Option Addr} {n:Nat} {ps:List (Int×ByteArray)} (h:Rd shP w a n ps) (i:Nat) (hi:i<n):∃ x,a=some x∧x.block<w.heap.size∧w.cell? (x.add (i*2))=some (.int .u32 (pAt ps i).1)∧w.cell? ⟨(x.add (i*2)).block,(x.add (i*2)).off+1,none⟩=some (.string (pAt ps i).2):=by
 obtain ⟨x,e,hb,hc⟩:=h.cell i hi
 refine ⟨x,e,hb,hc 0 (by decide),?_⟩
 rw [addr_step x (i*2) 1 (by omega)]
 exact hc 1 (by decide)

theorem Held.prt {w:World} {B g n cap:Nat} {ps:List (Int×ByteArray)} (h:Held shP w B g n cap ps) (i:Nat) (hi:i<n):w.cell? ⟨g,i*2,none⟩=some (.int .u32 (pAt ps i).1)∧w.cell? ⟨g,i*2+1,none⟩=some (.string (pAt ps i).2):=⟨h.cell i hi 0 (by decide),h.cell i hi 1 (by decide)⟩

theorem Held.setP {w:World} {B g n cap:Nat} {ps:List (Int×ByteArray)} (h:Held shP w B g n cap ps) (i:Nat) (hi:i<n) (x:Int) (y:ByteArray):Held shP ((w.setCell ⟨g,i*2,none⟩ (.int .u32 x)).setCell ⟨g,i*2+1,none⟩ (.string y)) B g n cap (ps.set i (x,y)):=h.set i hi (x,y)

theorem pcells_zero:∀ n:Nat,shP.cells (List.replicate n (0,ByteArray.empty))=(List.range (n*2)).map (fun j=>if j % 2=0 then .int .u32 0 else .string ByteArray.empty)
 | 0=>rfl
 | n+1=>by
  rw [List.replicate_succ',show (n+1)*2=n*2+1+1 by omega,List.range_succ,List.range_succ,List.map_append,List.map_append,← pcells_zero n,Shape.cells_append]
  simp [Shape.cells,shP]

theorem made_prt {w:World} {B g n:Nat} (h:w.ownsRow B 157 2 (.slice (some ⟨g,0,none⟩) n n) n (madeCells #[.int .u32 0,.string ByteArray.empty] (n*2)).toList):Held shP w B g n n (List.replicate n (0,ByteArray.empty)):=by
 refine Held.of_owns (by simp) ?_ h
 rw [pcells_zero n]
 apply List.ext_getElem?
 intro j
 by_cases hj:j<n*2
 ·simp only [madeCells,Array.getElem?_toList]
  have hm:j % 2=0∨j % 2=1:=by omega
  rcases hm with h|h<;>simp [hj,h]
 ·simp [madeCells,hj]

def inVal (q:Int) (d:ByteArray) (v:Value) (r:Int):Value:=.agg #[.int .u32 q,.string d,v,.int .i64 r]
end Go.Proofs.YtmdglnmdodcehaaGreatDoor

namespace Go.Proofs.YtmdglnmdodcehaaGreatDoor
open Go.ChangeShapes Go.WideShapes Go.ChangeAt Go.RowKit Go.Deep
set_option linter.unusedVariables false
set_option maxRecDepth 10000

def distI (a b:Int):Int:=(b - a+2147483648) % 4294967296 - 2147483648

theorem distI_is (a b:Int):IsDist a b (distI a b):=by
 unfold IsDist distI
 omega

def okB:Int→Int→List (Int×Int)→Bool
 | _,_,[]=>true
 | e,W,s :: r=>decide (e<s.1∧s.1<s.2∧s.2≤W) && okB s.2 W r

def spn (q:Int) (p:Int×ByteArray):Int×Int:=(distI q p.1,distI q p.1+p.2.size)

def spans (q:Int) (ps:List (Int×ByteArray)):List (Int×Int):=ps.map (spn q)

def inOk (q:Int) (d:ByteArray) (r:Int) (ps:List (Int×ByteArray)):Bool:=decide (1≤r∧r≤4096) && (decide ((d.size:Int)≤r) && okB 0 (r - d.size) (spans q ps))

structure Good (q:Int) (d:ByteArray) (r:Int) (n:Nat) (ps:List (Int×ByteArray)):Prop where
 hq:IsWord q
 hd:d.size≤1048576
 hr:IsInt r
 hn:n≤1048576
 hp:∀ i,i<n→IsWord (pAt ps i).1∧(pAt ps i).2.size≤1048576

theorem okB_many:∀ (l:List (Int×Int)) (e W:Int),okB e W l=true→e≤W→(l.length:Int)≤W - e
 | [],e,W,_,h=>by simpa using h
 | s :: r,e,W,h,hw=>by
  simp only [okB,Bool.and_eq_true,decide_eq_true_eq] at h
  have:=okB_many r s.2 W h.2 (by omega)
  simp
  omega

theorem spans_len (q:Int) (ps:List (Int×ByteArray)):(spans q ps).length=ps.length:=by simp [spans]

theorem spans_drop (q:Int) (ps:List (Int×ByteArray)) (k:Nat) (h:k<ps.length):(spans q ps).drop k=spn q (pAt ps k) :: (spans q ps).drop (k+1):=by
 have hl:k<(spans q ps).length:=by rw [spans_len];exact h
 rw [List.drop_eq_getElem_cons hl]
 congr 1
 simp [spans,pAt,List.getD,List.getElem?_eq_getElem h]

theorem okB_step {q W e:Int} {ps:List (Int×ByteArray)} {k:Nat} (h:k<ps.length):okB e W ((spans q ps).drop k)=(decide (e<(spn q (pAt ps k)).1∧(spn q (pAt ps k)).1<(spn q (pAt ps k)).2∧(spn q (pAt ps k)).2≤W) && okB (spn q (pAt ps k)).2 W ((spans q ps).drop (k+1))):=by
 rw [spans_drop q ps k h,okB]

theorem okB_end {q W e:Int} {ps:List (Int×ByteArray)} {k:Nat} (h:ps.length≤k):okB e W ((spans q ps).drop k)=true:=by
 rw [List.drop_eq_nil_of_le (by rw [spans_len];exact h),okB]
end Go.Proofs.YtmdglnmdodcehaaGreatDoor

namespace Go.Proofs.YtmdglnmdodcehaaGreatDoor
open Go.ChangeShapes Go.WideShapes Go.ChangeAt Go.RowKit
set_option linter.unusedVariables false
set_option maxRecDepth 10000

def connOk (c:Cn) (ps:List (Int×ByteArray)):Bool:=
 decide (0≤c.st∧c.st≤9) && (
 outOk c.oD c.oR && (
 inOk c.iN c.iD c.iR ps && (
 rttOk c.rA c.rS c.rV c.rD && (
 congOk c.cX c.cT c.cD && (
 decide (0≤c.wnd∧c.wnd≤65535) && (
 decide (0≤c.trs∧c.trs≤10) && (
 decide (0≤c.why∧c.why≤4) && (
 decide (0≤distI c.una c.nxt∧distI c.una c.nxt≤4098) && (
 decide (0≤distI c.una c.mx∧distI c.una c.mx≤4098) && (
 decide (0≤distI c.nxt c.mx) && (
 decide (0≤c.agn∧c.agn≤2000000000) && (
 decide (0≤c.prb∧c.prb≤2000000000) && (
 decide (0≤c.rst∧c.rst≤2000000000) && (
 decide (0≤c.tat∧c.tat≤2000000000) && (
 (decide (c.oF=c.una) || (decide (c.st=1∨c.st=2∨c.st=0) && decide (c.oF=(c.una+1) % 4294967296) || c.fsn && decide (c.oF=(c.una - 1) % 4294967296))))))))))))))))))

structure GoodC (c:Cn) (ps:List (Int×ByteArray)):Prop where
 w_iss:IsWord c.iss
 w_una:IsWord c.una
 w_nxt:IsWord c.nxt
 w_mx:IsWord c.mx
 w_wsq:IsWord c.wsq
 w_wak:IsWord c.wak
 w_oF:IsWord c.oF
 w_fsq:IsWord c.fsq
 w_cR:IsWord c.cR
 w_tsq:IsWord c.tsq
 hod:c.oD.size≤1048576
 gd:Good c.iN c.iD c.iR c.pn ps
end Go.Proofs.YtmdglnmdodcehaaGreatDoor
