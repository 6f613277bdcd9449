/-
  A pipe in memory of its own, as impl moves it, wherever it lies in a greater block.
-/
import Derived.Test.YtnbopjlpemmkcaaGreatVl
import Derived.Test.YtnbopjlpemmkcaaGreatM23
import Derived.Test.YtnbopjlpemmkcaaGreatM7
import Derived.Deep.DeepCutAuto
namespace Go.Proofs.YtnbopjlpemmkcaaGreat
open Go.ChangeShapes Go.WideShapes Go.ChangeAt Go.RowKit
set_option linter.unusedVariables false
set_option maxRecDepth 10000

theorem cd_big:IsBig 89 4:=⟨⟨_,Tryz.underlying89,rfl⟩,by kernel_rfl⟩

theorem touch_any {c b:Nat} {w x y:World} (h:Touch c w x) (t:Touch b x y) (k:b=c∨w.heap.size≤b):Touch c w y:=by
 refine ⟨t.os.trans h.os,t.tape.trans h.tape,t.output.trans h.output,Nat.le_trans h.size t.size,fun j hj hne=>?_⟩
 rw [t.block j (Nat.lt_of_lt_of_le hj h.size) (by omega)]
 exact h.block j hj hne

theorem condOf (r:Int) (d:ByteArray) (e:Bool) (n:Int) (hd:d.size≤1048576) (w:World) :
  Calls Tryz.prog 59 #[.agg #[.int .i64 r,.string d,.bool e,.int .i64 n]] w fun x w'=>x=.returned (.agg #[.int .i64 r,.string d,.bool e,.int .i64 n])∧Since w w':=by
 have hcl:=fun wx=>clone d hd wx
 go_enter Tryz.func59,Tryz.ntmps59
 have G:=Since.refl w
 go_upto_region 0 with (fail)
 refine vR ?_
 refine vW (w.alloc (.cells #[.int .i64 r,.string d,.bool e,.int .i64 n] 40)) (.pointer (some ⟨w.heap.size,0,none⟩)) ?_
 have qB2:=Blk.new w #[.int .i64 r,.string d,.bool e,.int .i64 n] 40
 have qg3:=(Since.refl w).alloc (.cells #[.int .i64 r,.string d,.bool e,.int .i64 n] 40)
 replace G:=G.trans qg3
 generalize w.alloc (.cells #[.int .i64 r,.string d,.bool e,.int .i64 n] 40)=qw1 at  G qB2 qg3 ⊢
 have qB2_l:=qB2.lt
 have qg3_s:=qg3.size
 refine vW (qw1.alloc (.cells #[.int .i64 0,.string ByteArray.empty,.bool false,.int .i64 0] 89)) (.pointer (some ⟨qw1.heap.size,0,none⟩)) ?_
 have qB5:=Blk.new qw1 #[.int .i64 0,.string ByteArray.empty,.bool false,.int .i64 0] 89
 have qg6:=(Since.refl qw1).alloc (.cells #[.int .i64 0,.string ByteArray.empty,.bool false,.int .i64 0] 89)
 replace qB2:=qB2.since qg6
 replace G:=G.trans qg6
 generalize qw1.alloc (.cells #[.int .i64 0,.string ByteArray.empty,.bool false,.int .i64 0] 89)=qw4 at qB2 G qB5 qg6 ⊢
 have qB5_l:=qB5.lt
 have qg6_s:=qg6.size
 refine vE #[.agg #[.int .i64 r,.string d,.bool e,.int .i64 n],.pointer (some ⟨w.heap.size,0,none⟩),.pointer (some ⟨qw1.heap.size,0,none⟩),undef,undef,undef,undef,undef,undef,undef,undef,undef,undef,undef] ?_
 go_upto_region 1 with (fail)
 refine wp_region_tail (wb:=qw4) 11 (fun i x v=>match i with
   | 0=>v=.pointer (some ⟨w.heap.size,0,none⟩)
   | 1=>v=.int .i64 r
   | 2=>v=.pointer (some ⟨w.heap.size,1,none⟩)
   | 3=>v=.string d
   | 4=>v=.string d
   | 5=>v=.agg #[.int .i64 r,.string d]
   | 6=>v=.pointer (some ⟨w.heap.size,2,none⟩)
   | 7=>v=.bool e
   | 8=>v=.pointer (some ⟨w.heap.size,3,none⟩)
   | 9=>v=.int .i64 n
   | 10=>v=.agg #[.int .i64 r,.string d,.bool e,.int .i64 n]
   | _=>True) (fun v=>{tmps:=#[.agg #[.int .i64 r,.string d,.bool e,.int .i64 n],.pointer (some ⟨w.heap.size,0,none⟩),.pointer (some ⟨qw1.heap.size,0,none⟩),v 0,v 1,v 2,v 3,v 4,v 5,v 6,v 7,v 8,v 9,v 10],defers:=[]}) (by kernel_rfl) (by kernel_rfl) (by kernel_rfl) (Since.refl _) ?_ (fun vals=>by kernel_rfl) ?_ ?_
 case refine_1=>
  intro j x x' v h1 h2
  match j,h2 with
  | 0,h2|1,h2|2,h2|3,h2|4,h2|5,h2|6,h2|7,h2|8,h2|9,h2|10,h2=>exact h2
  | n+11,_=>trivial
 case refine_2=>
  repeat (first|exact eachDoes_nil|refine eachDoes_cons ?_ ?_)
  all_goals intro vals x hx hv
  all_goals simp [Region.binds] at hv
  ·simp [does,doesUpon,go_sem,hv,Since.refl]
  ·have fl0:x.cell? ⟨w.heap.size,3,none⟩=some (.int .i64 n):=(qB2.since hx).cell 3
   simp [does,doesUpon,go_sem,hv,fl0,Since.refl]
  ·simp [does,doesUpon,go_sem,Since.refl]
  ·have fl0:x.cell? ⟨w.heap.size,2,none⟩=some (.bool e):=(qB2.since hx).cell 2
   simp [does,doesUpon,go_sem,hv,fl0,Since.refl]
  ·simp [does,doesUpon,go_sem,Since.refl]
  ·simp [does,doesUpon,go_sem,hv,Since.refl]
  ·simp [does,doesUpon,go_sem,hv]
   refine (hcl _).mono ?_
   rintro _ x' ⟨rfl,h1⟩
   simp [h1]
  ·have fl0:x.cell? ⟨w.heap.size,1,none⟩=some (.string d):=(qB2.since hx).cell 1
   simp [does,doesUpon,go_sem,hv,fl0,Since.refl]
  ·simp [does,doesUpon,go_sem,Since.refl]
  ·have fl0:x.cell? ⟨w.heap.size,0,none⟩=some (.int .i64 r):=(qB2.since hx).cell 0
   simp [does,doesUpon,go_sem,hv,fl0,Since.refl]
  ·simp [does,doesUpon,go_sem,Since.refl]
 case refine_3=>
  intro qv9 qw7 qh8 hv
  have hv0:qv9 0=_:=hv 0 (by decide)
  have hv1:qv9 1=_:=hv 1 (by decide)
  have hv2:qv9 2=_:=hv 2 (by decide)
  have hv3:qv9 3=_:=hv 3 (by decide)
  have hv4:qv9 4=_:=hv 4 (by decide)
  have hv5:qv9 5=_:=hv 5 (by decide)
  have hv6:qv9 6=_:=hv 6 (by decide)
  have hv7:qv9 7=_:=hv 7 (by decide)
  have hv8:qv9 8=_:=hv 8 (by decide)
  have hv9:qv9 9=_:=hv 9 (by decide)
  have hv10:qv9 10=_:=hv 10 (by decide)
  clear hv
  simp only [hv0,hv1,hv2,hv3,hv4,hv5,hv6,hv7,hv8,hv9,hv10,List.drop]
  clear hv0 hv1 hv2 hv3 hv4 hv5 hv6 hv7 hv8 hv9 hv10
  replace qB2:=qB2.since qh8
  replace qB5:=qB5.since qh8
  replace G:=G.trans qh8
  have qh8_s:=qh8.size
  refine VL.out ?_
  refine sB #[.int .i64 r,.string d,.bool e,.int .i64 n] cd_big qB5 rfl rfl (by simp [Value.oneCell']) ?_
  intro qw10 qt11 qB12
  clear qB5
  replace qB2:=qB2.touch qt11 (by omega)
  replace G:=since_touch G qt11 (by omega)
  have qt11_s:=qt11.size
  refine vE #[.agg #[.int .i64 r,.string d,.bool e,.int .i64 n],.pointer (some ⟨w.heap.size,0,none⟩),.pointer (some ⟨qw1.heap.size,0,none⟩),.pointer (some ⟨w.heap.size,0,none⟩),.int .i64 r,.pointer (some ⟨w.heap.size,1,none⟩),.string d,.string d,.agg #[.int .i64 r,.string d],.pointer (some ⟨w.heap.size,2,none⟩),.bool e,.pointer (some ⟨w.heap.size,3,none⟩),.int .i64 n,.agg #[.int .i64 r,.string d,.bool e,.int .i64 n]] ?_
  go_wp2_with (fail)
  exact bodyPost_ret (results_big cd_big rfl (u:=2) rfl _ rfl qB12) rfl ⟨rfl,G⟩

def Cdt (c kk:Nat) (pre post:List Value) (w:World) (cs:Array Value):Prop:=pre.length=kk∧cs.size=4∧Blk c w (pre++(cs.toList++post)).toArray

theorem Cdt.since {c kk:Nat} {pre post:List Value} {w w':World} {cs:Array Value} (h:Cdt c kk pre post w cs) (s:Since w w'):Cdt c kk pre post w' cs:=⟨h.1,h.2.1,h.2.2.since s⟩

theorem Cdt.touch {c kk b:Nat} {pre post:List Value} {w w':World} {cs:Array Value} (h:Cdt c kk pre post w cs) (t:Touch b w w') (k:c≠b):Cdt c kk pre post w' cs:=⟨h.1,h.2.1,h.2.2.touch t k⟩

theorem Cdt.lt {c kk:Nat} {pre post:List Value} {w:World} {cs:Array Value} (h:Cdt c kk pre post w cs):c<w.heap.size:=h.2.2.lt

theorem Cdt.cell {c kk:Nat} {pre post:List Value} {w:World} {cs:Array Value} (h:Cdt c kk pre post w cs) (i:Nat) (hi:i<4:=by decide):w.cell? ⟨c,kk+i,none⟩=cs[i]?:=by
 obtain ⟨h1,h2,B⟩:=h
 rw [B.cell,List.getElem?_toArray,List.getElem?_append_right (by omega),show kk+i - pre.length=i by omega,List.getElem?_append_left (by simp;omega)]
 simp

theorem splice_set (pre post l:List Value) (i:Nat) (v:Value) (hi:i<l.length):(pre++(l++post)).toArray.setIfInBounds (pre.length+i) v=(pre++(l.set i v++post)).toArray:=by
 rw [List.setIfInBounds_toArray,List.set_append,if_neg (by omega),show pre.length+i - pre.length=i by omega,List.set_append,if_pos hi]

theorem sCd {ops:Array Oper} {rest:List Oper} {o:Oper} {a:Act} {w:World} {Q:Exit→Act→World→Prop} {c kk:Nat} {pre post:List Value} {cs:Array Value} (cs':Array Value) (C:Cdt c kk pre post w cs) (i:Nat) (v:Value) {n:Nat} (hn:cs.size=n) {ty:TypeId} {x y:Operand} (h:∀ z,Touch c w z→Cdt c kk pre post z cs'→VL ops Q rest (a.put o.dst undef) z) (ho:o.op=.store ty x y:=by rfl) (hg:o.guard=none:=by rfl)
  (hx:a.eval x=.pointer (some ⟨c,kk+i,none⟩):=by kernel_rfl) (hy:a.eval y=v:=by kernel_rfl) (hv:v.oneCell'=true:=by rfl) (hs:(Tryz.prog.info? ty).map (·.size)=some 1:=by kernel_rfl) (hi:decide (i<n)=true:=by rfl) (hcs:cs.setIfInBounds i v=cs':=by kernel_rfl):VL ops Q (o :: rest) a w:=by
 obtain ⟨h1,h2,B⟩:=C
 have hi':i<cs.toList.length:=by simp;rw [hn];exact of_decide_eq_true hi
 refine ⟨store_cell B hg ty x y ho (kk+i) hx v hy hv hs (by simp at hi' ⊢;omega) (cs':=(pre++(cs'.toList++post)).toArray) ?_ fun z t B=>(h z t ⟨h1,?_,B⟩).out⟩
 ·rw [← h1,splice_set _ _ _ _ _ hi',← hcs]
  simp
 ·rw [← hcs]
  simpa using h2

theorem condPipe (r:Int) (d:ByteArray) (e:Bool) (n:Int) (c kk:Nat) (pre post:List Value) (w:World) (C:Cdt c kk pre post w #[.int .i64 r,.string d,.bool e,.int .i64 n]) :
  Calls Tryz.prog 73 #[.pointer (some ⟨c,kk,none⟩)] w fun x w'=>x=.returned (.agg #[.int .i64 r,.string d,.bool e,.int .i64 n])∧Since w w':=by
 go_enter Tryz.func73,Tryz.ntmps73
 have G:=Since.refl w
 have hC0:=C.lt
 go_upto_region 0 with (fail)
 refine vR ?_
 refine vW (w.alloc (.cells #[.int .i64 0,.string ByteArray.empty,.bool false,.int .i64 0] 40)) (.pointer (some ⟨w.heap.size,0,none⟩)) ?_
 have qB2:=Blk.new w #[.int .i64 0,.string ByteArray.empty,.bool false,.int .i64 0] 40
 have qg3:=(Since.refl w).alloc (.cells #[.int .i64 0,.string ByteArray.empty,.bool false,.int .i64 0] 40)
 replace C:=C.since qg3
 replace G:=G.trans qg3
 generalize w.alloc (.cells #[.int .i64 0,.string ByteArray.empty,.bool false,.int .i64 0] 40)=qw1 at C G qB2 qg3 ⊢
 have qB2_l:=qB2.lt
 have qg3_s:=qg3.size
 refine vE #[.pointer (some ⟨c,kk,none⟩),undef,.pointer (some ⟨w.heap.size,0,none⟩),undef,undef,undef,undef,undef,undef,undef,undef,undef,undef,undef,undef,undef,undef,undef,undef,undef,undef,undef] ?_
 go_upto_region 1 with (fail)
 refine wp_region_tail (wb:=qw1) 19 (fun i x v=>match i with
   | 0=>v=.pointer (some ⟨c,kk,none⟩)
   | 1=>v=.pointer (some ⟨c,kk,none⟩)
   | 2=>v=.pointer (some ⟨c,kk,none⟩)
   | 3=>v=.pointer (some ⟨c,kk,none⟩)
   | 4=>v=.int .i64 r
   | 5=>v=.pointer (some ⟨c,kk,none⟩)
   | 6=>v=.pointer (some ⟨c,kk,none⟩)
   | 7=>v=.pointer (some ⟨c,kk,none⟩)
   | 8=>v=.pointer (some ⟨c,kk+1,none⟩)
   | 9=>v=.string d
   | 10=>v=.pointer (some ⟨c,kk,none⟩)
   | 11=>v=.pointer (some ⟨c,kk,none⟩)
   | 12=>v=.pointer (some ⟨c,kk+2,none⟩)
   | 13=>v=.bool e
   | 14=>v=.pointer (some ⟨c,kk,none⟩)
   | 15=>v=.pointer (some ⟨c,kk,none⟩)
   | 16=>v=.pointer (some ⟨c,kk+3,none⟩)
   | 17=>v=.int .i64 n
   | 18=>v=.agg #[.int .i64 r,.string d,.bool e,.int .i64 n]
   | _=>True) (fun v=>{tmps:=#[.pointer (some ⟨c,kk,none⟩),undef,.pointer (some ⟨w.heap.size,0,none⟩),v 0,v 1,v 2,v 3,v 4,v 5,v 6,v 7,v 8,v 9,v 10,v 11,v 12,v 13,v 14,v 15,v 16,v 17,v 18],defers:=[]}) (by kernel_rfl) (by kernel_rfl) (by kernel_rfl) (Since.refl _) ?_ (fun vals=>by kernel_rfl) ?_ ?_
 case refine_1=>
  intro j x x' v h1 h2
  match j,h2 with
  | 0,h2|1,h2|2,h2|3,h2|4,h2|5,h2|6,h2|7,h2|8,h2|9,h2|10,h2|11,h2|12,h2|13,h2|14,h2|15,h2|16,h2|17,h2|18,h2=>exact h2
  | n+19,_=>trivial
 case refine_2=>
  repeat (first|exact eachDoes_nil|refine eachDoes_cons ?_ ?_)
  all_goals intro vals x hx hv
  all_goals simp [Region.binds] at hv
  ·simp [does,doesUpon,go_sem,hv,Since.refl]
  ·have fl0:x.cell? ⟨c,kk+3,none⟩=some (.int .i64 n):=(C.since hx).cell 3
   simp [does,doesUpon,go_sem,hv,fl0,Since.refl]
  ·simp [does,doesUpon,go_sem,hv,Since.refl]
  ·simp [does,doesUpon,go_sem,hv,Since.refl]
  ·simp [does,doesUpon,go_sem,Since.refl]
  ·have fl0:x.cell? ⟨c,kk+2,none⟩=some (.bool e):=(C.since hx).cell 2
   simp [does,doesUpon,go_sem,hv,fl0,Since.refl]
  ·simp [does,doesUpon,go_sem,hv,Since.refl]
  ·simp [does,doesUpon,go_sem,hv,Since.refl]
  ·simp [does,doesUpon,go_sem,Since.refl]
  ·have fl0:x.cell? ⟨c,kk+1,none⟩=some (.string d):=(C.since hx).cell 1
   simp [does,doesUpon,go_sem,hv,fl0,Since.refl]
  ·simp [does,doesUpon,go_sem,hv,Since.refl]
  ·simp [does,doesUpon,go_sem,hv,Since.refl]
  ·simp [does,doesUpon,go_sem,hv,Since.refl]
  ·simp [does,doesUpon,go_sem,Since.refl]
  ·have fl0:x.cell? ⟨c,kk,none⟩=some (.int .i64 r):=(C.since hx).cell 0
   simp [does,doesUpon,go_sem,hv,fl0,Since.refl]
  ·simp [does,doesUpon,go_sem,hv,Since.refl]
  ·simp [does,doesUpon,go_sem,hv,Since.refl]
  ·simp [does,doesUpon,go_sem,hv,Since.refl]
  ·simp [does,doesUpon,go_sem,Since.refl]
 case refine_3=>
  intro qv6 qw4 qh5 hv
  have hv0:qv6 0=_:=hv 0 (by decide)
  have hv1:qv6 1=_:=hv 1 (by decide)
  have hv2:qv6 2=_:=hv 2 (by decide)
  have hv3:qv6 3=_:=hv 3 (by decide)
  have hv4:qv6 4=_:=hv 4 (by decide)
  have hv5:qv6 5=_:=hv 5 (by decide)
  have hv6:qv6 6=_:=hv 6 (by decide)
  have hv7:qv6 7=_:=hv 7 (by decide)
  have hv8:qv6 8=_:=hv 8 (by decide)
  have hv9:qv6 9=_:=hv 9 (by decide)
  have hv10:qv6 10=_:=hv 10 (by decide)
  have hv11:qv6 11=_:=hv 11 (by decide)
  have hv12:qv6 12=_:=hv 12 (by decide)
  have hv13:qv6 13=_:=hv 13 (by decide)
  have hv14:qv6 14=_:=hv 14 (by decide)
  have hv15:qv6 15=_:=hv 15 (by decide)
  have hv16:qv6 16=_:=hv 16 (by decide)
  have hv17:qv6 17=_:=hv 17 (by decide)
  have hv18:qv6 18=_:=hv 18 (by decide)
  clear hv
  simp only [hv0,hv1,hv2,hv3,hv4,hv5,hv6,hv7,hv8,hv9,hv10,hv11,hv12,hv13,hv14,hv15,hv16,hv17,hv18,List.drop]
  clear hv0 hv1 hv2 hv3 hv4 hv5 hv6 hv7 hv8 hv9 hv10 hv11 hv12 hv13 hv14 hv15 hv16 hv17 hv18
  replace C:=C.since qh5
  replace qB2:=qB2.since qh5
  replace G:=G.trans qh5
  have qh5_s:=qh5.size
  refine VL.out ?_
  refine sB #[.int .i64 r,.string d,.bool e,.int .i64 n] pp_big qB2 rfl rfl (by simp [Value.oneCell']) ?_
  intro qw7 qt8 qB9
  clear qB2
  replace C:=C.touch qt8 (by omega)
  replace G:=since_touch G qt8 (by omega)
  have qt8_s:=qt8.size
  refine vE #[.pointer (some ⟨c,kk,none⟩),undef,.pointer (some ⟨w.heap.size,0,none⟩),.pointer (some ⟨c,kk,none⟩),.pointer (some ⟨c,kk,none⟩),.pointer (some ⟨c,kk,none⟩),.pointer (some ⟨c,kk,none⟩),.int .i64 r,.pointer (some ⟨c,kk,none⟩),.pointer (some ⟨c,kk,none⟩),.pointer (some ⟨c,kk,none⟩),.pointer (some ⟨c,kk+1,none⟩),.string d,.pointer (some ⟨c,kk,none⟩),.pointer (some ⟨c,kk,none⟩),.pointer (some ⟨c,kk+2,none⟩),.bool e,.pointer (some ⟨c,kk,none⟩),.pointer (some ⟨c,kk,none⟩),.pointer (some ⟨c,kk+3,none⟩),.int .i64 n,.agg #[.int .i64 r,.string d,.bool e,.int .i64 n]] ?_
  go_wp2_with (fail)
  exact bodyPost_ret (results_big pp_big rfl (u:=2) rfl _ rfl qB9) rfl ⟨rfl,G⟩

theorem condFree (r:Int) (d:ByteArray) (e:Bool) (n:Int) (hd:d.size≤1048576) (hr:0≤r∧r≤2048) (c kk:Nat) (pre post:List Value) (w:World) (C:Cdt c kk pre post w #[.int .i64 r,.string d,.bool e,.int .i64 n]) :
  Calls Tryz.prog 118 #[.pointer (some ⟨c,kk,none⟩)] w fun x w'=>x=.returned (.int .i64 (r - d.size))∧Since w w':=by
 have e1:IntKind.i64.wrap (r - (d.size:Int))=r - (d.size:Int):=by rw [IntWalk.i64_left];exact IntWalk.wrap64_in _ ⟨by omega,by omega⟩
 go_enter Tryz.func118,Tryz.ntmps118
 have G:=Since.refl w
 have hC0:=C.lt
 go_upto_region 1 with (fail)
 refine wp_region_each (wb:=w) (fun i x v=>match i with
   | 0=>v=.pointer (some ⟨c,kk,none⟩)
   | 1=>v=.pointer (some ⟨c,kk,none⟩)
   | 2=>v=.pointer (some ⟨c,kk,none⟩)
   | 3=>v=.int .i64 r
   | 4=>v=.pointer (some ⟨c,kk,none⟩)
   | 5=>v=.pointer (some ⟨c,kk,none⟩)
   | 6=>v=.pointer (some ⟨c,kk+1,none⟩)
   | 7=>v=.string d
   | 8=>v=.int .i64 (d.size:Int)
   | 9=>v=.int .i64 (r - (d.size:Int))
   | 10=>v=.int .i64 (r - (d.size:Int))
   | _=>True) (fun v=>{tmps:=#[.pointer (some ⟨c,kk,none⟩),undef,v 10,v 0,v 1,v 2,v 3,v 4,v 5,v 6,v 7,v 8,v 9],defers:=[]}) (by kernel_rfl) (by kernel_rfl) (Since.refl _) ?_ (fun vals=>by kernel_rfl) ?_ ?_
 case refine_1=>
  intro j x x' v h1 h2
  match j,h2 with
  | 0,h2|1,h2|2,h2|3,h2|4,h2|5,h2|6,h2|7,h2|8,h2|9,h2|10,h2=>exact h2
  | n+11,_=>trivial
 case refine_2=>
  repeat (first|exact eachDoes_nil|refine eachDoes_cons ?_ ?_)
  all_goals intro vals x hx hv
  all_goals simp [Region.binds] at hv
  ·simp [does,doesUpon,go_sem,hv,Since.refl]
  ·simp [does,doesUpon,go_sem,hv,Since.refl,e1]
  ·simp [does,doesUpon,go_sem,hv,Since.refl]
  ·have fl0:x.cell? ⟨c,kk+1,none⟩=some (.string d):=(C.since hx).cell 1
   simp [does,doesUpon,go_sem,hv,fl0,Since.refl]
  ·simp [does,doesUpon,go_sem,hv,Since.refl]
  ·simp [does,doesUpon,go_sem,hv,Since.refl]
  ·simp [does,doesUpon,go_sem,Since.refl]
  ·have fl0:x.cell? ⟨c,kk,none⟩=some (.int .i64 r):=(C.since hx).cell 0
   simp [does,doesUpon,go_sem,hv,fl0,Since.refl]
  ·simp [does,doesUpon,go_sem,hv,Since.refl]
  ·simp [does,doesUpon,go_sem,hv,Since.refl]
  ·simp [does,doesUpon,go_sem,Since.refl]
 case refine_3=>
  intro qv3 qw1 qh2 hv
  have hv0:qv3 0=_:=hv 0 (by decide)
  have hv1:qv3 1=_:=hv 1 (by decide)
  have hv2:qv3 2=_:=hv 2 (by decide)
  have hv3:qv3 3=_:=hv 3 (by decide)
  have hv4:qv3 4=_:=hv 4 (by decide)
  have hv5:qv3 5=_:=hv 5 (by decide)
  have hv6:qv3 6=_:=hv 6 (by decide)
  have hv7:qv3 7=_:=hv 7 (by decide)
  have hv8:qv3 8=_:=hv 8 (by decide)
  have hv9:qv3 9=_:=hv 9 (by decide)
  have hv10:qv3 10=_:=hv 10 (by decide)
  clear hv
  simp only [hv0,hv1,hv2,hv3,hv4,hv5,hv6,hv7,hv8,hv9,hv10]
  clear hv0 hv1 hv2 hv3 hv4 hv5 hv6 hv7 hv8 hv9 hv10
  replace C:=C.since qh2
  replace G:=G.trans qh2
  have qh2_s:=qh2.size
  go_wp2_with (fail)
  go_ret
  exact ⟨rfl,G⟩

theorem condEmpty (r:Int) (d:ByteArray) (e:Bool) (n:Int) (c kk:Nat) (pre post:List Value) (b:Bool) (hb:emp d=b) (w:World) (C:Cdt c kk pre post w #[.int .i64 r,.string d,.bool e,.int .i64 n]) :
  Calls Tryz.prog 122 #[.pointer (some ⟨c,kk,none⟩)] w fun x w'=>x=.returned (.bool b)∧Since w w':=by
 replace hb:Hid _:=hb
 go_enter Tryz.func122,Tryz.ntmps122
 have G:=Since.refl w
 have hC0:=C.lt
 go_upto_region 1 with (fail)
 refine vR ?_
 refine vV (.pointer (some ⟨c,kk,none⟩)) ?_
 refine vV (.pointer (some ⟨c,kk,none⟩)) ?_
 refine vV (.pointer (some ⟨c,kk+1,none⟩)) ?_
 refine vD (.string d) (C.cell 1) ?_
 refine vEmp (d) b (hb.out) ?_
 refine vV (.bool b) ?_
 refine vE #[.pointer (some ⟨c,kk,none⟩),undef,.bool b,.pointer (some ⟨c,kk,none⟩),.pointer (some ⟨c,kk,none⟩),.pointer (some ⟨c,kk+1,none⟩),.string d,.bool b] ?_
 go_wp2_with (fail)
 go_ret
 exact ⟨rfl,G⟩

theorem condPut (r:Int) (d:ByteArray) (e:Bool) (n:Int) (s t:ByteArray) (hz:d.size+s.size≤9223372036854775807) (ht:d++s=t) (c kk:Nat) (pre post:List Value) (w:World) (C:Cdt c kk pre post w #[.int .i64 r,.string d,.bool e,.int .i64 n]) :
  Calls Tryz.prog 119 #[.pointer (some ⟨c,kk,none⟩),.string s] w fun x w'=>x=.returned (.tuple #[])∧Touch c w w'∧Cdt c kk pre post w' #[.int .i64 r,.string t,.bool e,.int .i64 n]:=by
 replace ht:Hid _:=ht
 go_enter Tryz.func119,Tryz.ntmps119
 have G:=Touch.refl c w
 have hC0:=C.lt
 go_upto_region 0 with (fail)
 refine vR ?_
 refine vV (.pointer (some ⟨c,kk,none⟩)) ?_
 refine vV (.pointer (some ⟨c,kk,none⟩)) ?_
 refine vV (.pointer (some ⟨c,kk+1,none⟩)) ?_
 refine vD (.string d) (C.cell 1) ?_
 refine vV (.string s) ?_
 refine vAdd d s (by omega) ?_
 rw [ht.out]
 refine vV (.pointer (some ⟨c,kk,none⟩)) ?_
 refine vV (.pointer (some ⟨c,kk+1,none⟩)) ?_
 refine sCd #[.int .i64 r,.string t,.bool e,.int .i64 n] C 1 (.string t) rfl ?_
 intro qw1 qt2 qB3
 clear C
 replace G:=touch_any G qt2 (by omega)
 have qt2_s:=qt2.size
 refine vE #[.pointer (some ⟨c,kk,none⟩),.string s,undef,undef,.pointer (some ⟨c,kk,none⟩),.pointer (some ⟨c,kk,none⟩),.pointer (some ⟨c,kk+1,none⟩),.string d,.string s,.string t,.pointer (some ⟨c,kk,none⟩),.pointer (some ⟨c,kk+1,none⟩)] ?_
 go_wp2_with (fail)
 exact bodyPost_end (v:=.tuple #[]) (results_none rfl _ _ _) rfl ⟨rfl,G,qB3⟩

theorem condDrop (r:Int) (d:ByteArray) (e:Bool) (n:Int) (m:Nat) (t:ByteArray) (hm:m≤d.size) (hz:d.size≤9223372036854775807) (ht:t=d.extract m d.size) (c kk:Nat) (pre post:List Value) (w:World) (C:Cdt c kk pre post w #[.int .i64 r,.string d,.bool e,.int .i64 n]) :
  Calls Tryz.prog 121 #[.pointer (some ⟨c,kk,none⟩),.int .i64 (m:Int)] w fun x w'=>x=.returned (.tuple #[])∧Touch c w w'∧Cdt c kk pre post w' #[.int .i64 r,.string t,.bool e,.int .i64 n]:=by
 replace ht:Hid _:=ht
 go_enter Tryz.func121,Tryz.ntmps121
 have G:=Touch.refl c w
 have hC0:=C.lt
 go_upto_region 0 with (fail)
 refine vR ?_
 refine vV (.pointer (some ⟨c,kk,none⟩)) ?_
 refine vV (.pointer (some ⟨c,kk,none⟩)) ?_
 refine vV (.pointer (some ⟨c,kk,none⟩)) ?_
 refine vV (.pointer (some ⟨c,kk+1,none⟩)) ?_
 refine vD (.string d) (C.cell 1) ?_
 refine vV (.int .i64 (m:Int)) ?_
 refine vCut d m (by omega) (by omega) ?_
 rw [← ht.out]
 refine vV (.pointer (some ⟨c,kk,none⟩)) ?_
 refine vV (.pointer (some ⟨c,kk+1,none⟩)) ?_
 refine sCd #[.int .i64 r,.string t,.bool e,.int .i64 n] C 1 (.string t) rfl ?_
 intro qw1 qt2 qB3
 clear C
 replace G:=touch_any G qt2 (by omega)
 have qt2_s:=qt2.size
 refine vE #[.pointer (some ⟨c,kk,none⟩),.int .i64 (m:Int),undef,undef,.pointer (some ⟨c,kk,none⟩),.pointer (some ⟨c,kk,none⟩),.pointer (some ⟨c,kk,none⟩),.pointer (some ⟨c,kk+1,none⟩),.string d,.int .i64 (m:Int),.string t,.pointer (some ⟨c,kk,none⟩),.pointer (some ⟨c,kk+1,none⟩)] ?_
 go_wp2_with (fail)
 exact bodyPost_end (v:=.tuple #[]) (results_none rfl _ _ _) rfl ⟨rfl,G,qB3⟩

set_option maxRecDepth 20000 in
set_option maxHeartbeats 8000000 in
theorem condFill (r:Int) (d:ByteArray) (e:Bool) (n:Int) (hd:d.size≤2048) (hr:0≤r∧r≤2048) {F:Cn} {ps:List (Int×ByteArray)} (gF:GoodC F ps) (F1:Cn) (hF1:F1=readC F ps (r - d.size)) (S1:ByteArray) (hS1:S1=readS F ps (r - d.size)) (D1:ByteArray) (hD1:d++S1=D1) (q p:Nat) (c kk:Nat) (pre post:List Value) (w:World) (C:Cdt c kk pre post w #[.int .i64 r,.string d,.bool e,.int .i64 n]) (R:Rd shP w (some ⟨q,0,none⟩) F.pn ps) :
  Calls Tryz.prog 96 #[.pointer (some ⟨c,kk,none⟩),.agg (cnCells {F with pa:=some ⟨q,0,none⟩,pc:=p})] w fun x w'=>∃ g cp,x=.returned (.agg (cnCells {F1 with pa:=some ⟨g,0,none⟩,pc:=cp}))∧Held shP w' w.heap.size g F.pn cp ps∧Touch c w w'∧Cdt c kk pre post w' #[.int .i64 r,.string D1,.bool e,.int .i64 n]:=by
 have hSz:=readS_size F ps (r - d.size)
 rw [← hS1] at hSz
 have hfr:=fun wx Cx=>condFree r d e n (by omega) hr c kk pre post wx Cx
 have hrd:=fun wx Rx=>iRead gF (r - d.size) (by unfold IsInt;omega) (some ⟨q,0,none⟩) p (fun h=>by cases h) wx Rx
 rw [← hF1,← hS1] at hrd
 replace hF1:Hid _:=hF1
 replace hS1:Hid _:=hS1
 have hpt:=fun wx Cx=>condPut r d e n S1 D1 (by omega) hD1 c kk pre post wx Cx
 replace hD1:Hid _:=hD1
 go_enter Tryz.func96,Tryz.ntmps96
 have G:=Touch.refl c w
 have hC0:=C.lt
 go_upto_region 0 with (fail)
 refine vR ?_
 refine vW (w.alloc (.cells (cnCells {F with pa:=some ⟨q,0,none⟩,pc:=p}) 50)) (.pointer (some ⟨w.heap.size,0,none⟩)) ?_
 have qB2:=Blk.new w (cnCells {F with pa:=some ⟨q,0,none⟩,pc:=p}) 50
 have qg3:=(Since.refl w).alloc (.cells (cnCells {F with pa:=some ⟨q,0,none⟩,pc:=p}) 50)
 replace C:=C.since qg3
 replace R:=R.since qg3
 replace G:=G.trans (Touch.of_since qg3 c)
 generalize w.alloc (.cells (cnCells {F with pa:=some ⟨q,0,none⟩,pc:=p}) 50)=qw1 at C R G qB2 qg3 ⊢
 have qB2_l:=qB2.lt
 have qg3_s:=qg3.size
 refine vW (qw1.alloc (.cells (cnCells cnZero) 50)) (.pointer (some ⟨qw1.heap.size,0,none⟩)) ?_
 have qB5:=Blk.new qw1 (cnCells cnZero) 50
 have qg6:=(Since.refl qw1).alloc (.cells (cnCells cnZero) 50)
 replace C:=C.since qg6
 replace qB2:=qB2.since qg6
 replace R:=R.since qg6
 replace G:=G.trans (Touch.of_since qg6 c)
 generalize qw1.alloc (.cells (cnCells cnZero) 50)=qw4 at C qB2 R G qB5 qg6 ⊢
 have qB5_l:=qB5.lt
 have qg6_s:=qg6.size
 refine vE #[.pointer (some ⟨c,kk,none⟩),.agg (cnCells {F with pa:=some ⟨q,0,none⟩,pc:=p}),undef,.pointer (some ⟨w.heap.size,0,none⟩),.pointer (some ⟨qw1.heap.size,0,none⟩),undef,undef,undef,undef,undef,undef,undef,undef,undef,undef,undef,undef,undef,undef,undef,undef,undef] ?_
 go_upto_region 1 with (fail)
 refine wp_region_store (wb:=qw4) 10 (fun i x v=>match i with
   | 0=>v=.agg (cnCells {F with pa:=some ⟨q,0,none⟩,pc:=p})
   | 1=>v=.pointer (some ⟨c,kk,none⟩)
   | 2=>v=.pointer (some ⟨c,kk,none⟩)
   | 3=>v=.pointer (some ⟨c,kk,none⟩)
   | 4=>v=.int .i64 (r - (d.size:Int))
   | 5=>∃ g cp,v=.tuple #[.agg (cnCells {F1 with pa:=some ⟨g,0,none⟩,pc:=cp}),.string S1]∧Held shP x qw4.heap.size g F.pn cp ps
   | 6=>∃ g cp,v=.tuple #[.agg (cnCells {F1 with pa:=some ⟨g,0,none⟩,pc:=cp}),.string S1]∧Held shP x qw4.heap.size g F.pn cp ps
   | 7=>∃ g cp,v=.agg (cnCells {F1 with pa:=some ⟨g,0,none⟩,pc:=cp})∧Held shP x qw4.heap.size g F.pn cp ps
   | 8=>v=.string S1
   | 9=>BoxB qw4.heap.size 37 x v
   | 10=>True
   | 11=>v=.string S1
   | _=>True) (fun vals x=>∃ b cs,vals 9=.pointer (some ⟨b,0,none⟩)∧vals 7=.agg cs∧qw4.heap.size≤b∧Blk b x cs) (fun v=>{tmps:=#[.pointer (some ⟨c,kk,none⟩),.agg (cnCells {F with pa:=some ⟨q,0,none⟩,pc:=p}),undef,.pointer (some ⟨w.heap.size,0,none⟩),.pointer (some ⟨qw1.heap.size,0,none⟩),v 9,v 11,v 6,v 0,v 1,v 2,v 3,v 4,v 5,v 7,v 8,undef,undef,undef,undef,undef,undef],defers:=[]}) (by kernel_rfl) (by decide) (by kernel_rfl) (Since.refl _) (fun vals=>by kernel_rfl) ?_ ?_ ?_ ?_ ?_ ?_ ?_
 case refine_1=>
  intro i x x' v h1 h2
  match i,h2 with
  | 5,⟨g,cp,e,H⟩=>exact ⟨g,cp,e,H.since h1⟩
  | 6,⟨g,cp,e,H⟩=>exact ⟨g,cp,e,H.since h1⟩
  | 7,⟨g,cp,e,H⟩=>exact ⟨g,cp,e,H.since h1⟩
  | 9,h2=>exact h2.since h1
  | 0,h2|1,h2|2,h2|3,h2|4,h2|8,h2|10,h2|11,h2=>exact h2
  | n+12,_=>trivial
 case refine_2=>exact fun _ _=>trivial
 case refine_3=>exact fun _ _ _ h1 ⟨b,cs,e1,e2,l,B⟩=>⟨b,cs,e1,e2,l,B.since h1⟩
 case refine_4=>
  intro vals vals' x h
  rintro ⟨b,cs,e1,e2,l,B⟩
  exact ⟨b,cs,by rw [← h _ rfl ⟨9,.data⟩ (by simp) rfl];exact e1,by rw [← h _ rfl ⟨7,.data⟩ (by simp) rfl];exact e2,l,B⟩
 case refine_5=>
  repeat (first|exact eachBut_nil|refine eachBut_skip ?_|refine eachBut_cons ?_ ?_)
  all_goals intro vals x hx hv
  all_goals simp [Region.binds] at hv
  ·have hb:=by first|exact hv|exact hv.1|exact hv.2.1
   simp [does,doesUpon,go_sem,hb,Since.refl]
  ·simp [does,doesUpon,go_sem]
   exact ⟨(Since.refl _).alloc _,BoxB.new _ _ _ hx.size rfl⟩
  ·obtain ⟨g,cp,h1,h2⟩:=hv
   simp [does,doesUpon,go_sem,h1,Since.refl]
  ·obtain ⟨g,cp,h1,h2⟩:=hv
   simp [does,doesUpon,go_sem,h1,Since.refl]
   exact ⟨g,cp,rfl,h2⟩
  ·obtain ⟨g,cp,h1,h2⟩:=hv
   simp [does,doesUpon,go_sem,h1,Since.refl]
   exact ⟨g,cp,rfl,h2⟩
  ·simp [does,doesUpon,go_sem,hv]
   refine (hrd _ (R.since hx)).mono ?_
   rintro _ x' ⟨g,cp,rfl,H,h1⟩
   exact ⟨_,rfl,h1,g,cp,rfl,H.raise (by have:=H.low';have:=hx.size;omega)⟩
  ·simp [does,doesUpon,go_sem,hv]
   refine (hfr _ (C.since hx)).mono ?_
   rintro _ x' ⟨rfl,h1⟩
   simp [h1]
  ·simp [does,doesUpon,go_sem,hv,Since.refl]
  ·simp [does,doesUpon,go_sem,hv,Since.refl]
  ·simp [does,doesUpon,go_sem,Since.refl]
  ·exact does_load cn_big (cn_size _) (qB2.since hx) _ rfl rfl ⟨Since.refl _,rfl⟩
 case refine_6=>
  intro op ho vals x hx hv
  obtain rfl:=Option.some.inj ho
  obtain ⟨b,eb,lb,hraw⟩:=hv ⟨9,.data⟩ (by simp) rfl
  obtain ⟨g,cp,ev,H⟩:=hv ⟨7,.data⟩ (by simp) rfl
  obtain ⟨c0,z0,B0⟩:=hraw
  refine does_store cn_big (cn_size _) ⟨c0,z0,B0⟩ (cn_one _) _ _ rfl eb ev ?_
  intro z t B
  refine ⟨since_touch hx t lb,?_,b,_,eb,ev,lb,B⟩
  intro j u hu
  match j,hu with
  | 5,⟨g,cp,e,H⟩=>exact ⟨g,cp,e,H.touch t (held_ne H B0 z0)⟩
  | 6,⟨g,cp,e,H⟩=>exact ⟨g,cp,e,H.touch t (held_ne H B0 z0)⟩
  | 7,⟨g,cp,e,H⟩=>exact ⟨g,cp,e,H.touch t (held_ne H B0 z0)⟩
  | 9,hu=>exact hu.stored t B (cn_size _)
  | 0,hu|1,hu|2,hu|3,hu|4,hu|8,hu|10,hu|11,hu=>exact hu
  | n+12,_=>trivial
 case refine_7=>
  intro qv9 qw7 qh8 hv hS
  obtain ⟨qx10,cs,eb,ec,lb,qB11⟩:=hS
  have hv0:qv9 0=_:=hv 0 (by decide)
  have hv1:qv9 1=_:=hv 1 (by decide)
  have hv2:qv9 2=_:=hv 2 (by decide)
  have hv3:qv9 3=_:=hv 3 (by decide)
  have hv4:qv9 4=_:=hv 4 (by decide)
  have hv8:qv9 8=_:=hv 8 (by decide)
  have hv11:qv9 11=_:=hv 11 (by decide)
  obtain ⟨gH,cpH,hv7,H⟩:=hv 7 (by decide)
  obtain ⟨gg1,cc1,hv5,-⟩:=hv 5 (by decide)
  obtain ⟨gg2,cc2,hv6,-⟩:=hv 6 (by decide)
  clear hv
  rw [hv7] at ec
  obtain rfl:=Value.agg.inj ec
  clear ec
  simp only [hv0,hv1,hv2,hv3,hv4,hv5,hv6,hv7,hv8,hv11,eb]
  clear hv0 hv1 hv2 hv3 hv4 hv5 hv6 hv7 hv8 hv11 eb
  replace C:=C.since qh8
  replace qB2:=qB2.since qh8
  replace qB5:=qB5.since qh8
  replace G:=G.trans (Touch.of_since qh8 c)
  have qh8_s:=qh8.size
  have qB11_l:=qB11.lt
  have H_n:=held_ne H qB11 (cn_size _)
  have H_0:=H.low'
  replace H:=H.raise (show w.heap.size≤gH by omega)
  have H_1:=H.lt
  clear R
  go_upto_region 2 with (fail)
  refine vR ?_
  refine vV (.pointer (some ⟨c,kk,none⟩)) ?_
  refine vV (.pointer (some ⟨c,kk,none⟩)) ?_
  refine vV (.pointer (some ⟨c,kk,none⟩)) ?_
  refine vV (.string S1) ?_
  refine vC (hpt _ C) ?_
  rintro _ qw12 ⟨rfl,qt13,qB14⟩
  refine ⟨_,rfl,?_⟩
  clear C
  replace qB2:=qB2.touch qt13 (by omega)
  replace qB5:=qB5.touch qt13 (by omega)
  replace qB11:=qB11.touch qt13 (by omega)
  replace H:=H.touch qt13 (by omega)
  replace G:=touch_any G qt13 (by omega)
  have qt13_s:=qt13.size
  refine vE #[.pointer (some ⟨c,kk,none⟩),.agg (cnCells {F with pa:=some ⟨q,0,none⟩,pc:=p}),undef,.pointer (some ⟨w.heap.size,0,none⟩),.pointer (some ⟨qw1.heap.size,0,none⟩),.pointer (some ⟨qx10,0,none⟩),.string S1,.tuple #[.agg (cnCells {F1 with pa:=some ⟨gg2,0,none⟩,pc:=cc2}),.string S1],.agg (cnCells {F with pa:=some ⟨q,0,none⟩,pc:=p}),.pointer (some ⟨c,kk,none⟩),.pointer (some ⟨c,kk,none⟩),.pointer (some ⟨c,kk,none⟩),.int .i64 (r - (d.size:Int)),.tuple #[.agg (cnCells {F1 with pa:=some ⟨gg1,0,none⟩,pc:=cc1}),.string S1],.agg (cnCells {F1 with pa:=some ⟨gH,0,none⟩,pc:=cpH}),.string S1,.pointer (some ⟨c,kk,none⟩),.pointer (some ⟨c,kk,none⟩),.pointer (some ⟨c,kk,none⟩),.string S1,.tuple #[],undef] ?_
  go_upto_region 3 with (fail)
  refine vR ?_
  refine vB cn_big qB11 (cn_size _) ?_
  refine sB (cnCells {F1 with pa:=some ⟨gH,0,none⟩,pc:=cpH}) cn_big qB5 (cn_size _) (cn_size _) (cn_one _) ?_
  intro qw15 qt16 qB17
  clear qB5
  replace qB14:=qB14.touch qt16 (by omega)
  replace qB2:=qB2.touch qt16 (by omega)
  replace qB11:=qB11.touch qt16 (by omega)
  replace H:=H.touch qt16 (by omega)
  replace G:=touch_any G qt16 (by omega)
  have qt16_s:=qt16.size
  refine vE #[.pointer (some ⟨c,kk,none⟩),.agg (cnCells {F with pa:=some ⟨q,0,none⟩,pc:=p}),undef,.pointer (some ⟨w.heap.size,0,none⟩),.pointer (some ⟨qw1.heap.size,0,none⟩),.pointer (some ⟨qx10,0,none⟩),.string S1,.tuple #[.agg (cnCells {F1 with pa:=some ⟨gg2,0,none⟩,pc:=cc2}),.string S1],.agg (cnCells {F with pa:=some ⟨q,0,none⟩,pc:=p}),.pointer (some ⟨c,kk,none⟩),.pointer (some ⟨c,kk,none⟩),.pointer (some ⟨c,kk,none⟩),.int .i64 (r - (d.size:Int)),.tuple #[.agg (cnCells {F1 with pa:=some ⟨gg1,0,none⟩,pc:=cc1}),.string S1],.agg (cnCells {F1 with pa:=some ⟨gH,0,none⟩,pc:=cpH}),.string S1,.pointer (some ⟨c,kk,none⟩),.pointer (some ⟨c,kk,none⟩),.pointer (some ⟨c,kk,none⟩),.string S1,.tuple #[],.agg (cnCells {F1 with pa:=some ⟨gH,0,none⟩,pc:=cpH})] ?_
  go_wp2_with (fail)
  exact bodyPost_ret (results_cn (t:=4) rfl _ rfl qB17) rfl ⟨_,_,rfl,H,G,qB14⟩

set_option maxRecDepth 20000 in
set_option maxHeartbeats 8000000 in
theorem condPour (r:Int) (d:ByteArray) (e:Bool) (n:Int) (hd:d.size≤1048576) (hn:0≤n∧n≤1000000000) {T:Cn} {qs:List (Int×ByteArray)} (gT:GoodC T qs) (T1:Cn) (hT1:T1=writeC T qs d) (M:Nat) (hM:M=writeM T qs d) (D2:ByteArray) (hD2:D2=d.extract M d.size) (q p:Nat) (c kk:Nat) (pre post:List Value) (w:World) (C:Cdt c kk pre post w #[.int .i64 r,.string d,.bool e,.int .i64 n]) (R:Rd shP w (some ⟨q,0,none⟩) T.pn qs) :
  Calls Tryz.prog 97 #[.pointer (some ⟨c,kk,none⟩),.agg (cnCells {T with pa:=some ⟨q,0,none⟩,pc:=p})] w fun x w'=>∃ g cp,x=.returned (.agg (cnCells {T1 with pa:=some ⟨g,0,none⟩,pc:=cp}))∧Held shP w' w.heap.size g T.pn cp qs∧Touch c w w'∧Cdt c kk pre post w' #[.int .i64 r,.string D2,.bool e,.int .i64 (capP n M)]:=by
 have hMl:=writeM_le T qs d
 rw [← hM] at hMl
 have hwr:=fun wx Rx=>iWrite gT d hd (some ⟨q,0,none⟩) p wx Rx
 rw [← hT1,← hM] at hwr
 replace hT1:Hid _:=hT1
 replace hM:Hid _:=hM
 have hdr:=fun wx Cx=>condDrop r d e n M D2 hMl (by omega) hD2 c kk pre post wx Cx
 replace hD2:Hid _:=hD2
 have ewn:IntKind.i64.wrap (n+(M:Int))=n+(M:Int):=by rw [IntWalk.i64_left];exact IntWalk.wrap64_in _ ⟨by omega,by omega⟩
 go_enter Tryz.func97,Tryz.ntmps97
 have G:=Touch.refl c w
 have hC0:=C.lt
 go_upto_region 0 with (fail)
 refine vR ?_
 refine vW (w.alloc (.cells (cnCells {T with pa:=some ⟨q,0,none⟩,pc:=p}) 50)) (.pointer (some ⟨w.heap.size,0,none⟩)) ?_
 have qB2:=Blk.new w (cnCells {T with pa:=some ⟨q,0,none⟩,pc:=p}) 50
 have qg3:=(Since.refl w).alloc (.cells (cnCells {T with pa:=some ⟨q,0,none⟩,pc:=p}) 50)
 replace C:=C.since qg3
 replace R:=R.since qg3
 replace G:=G.trans (Touch.of_since qg3 c)
 generalize w.alloc (.cells (cnCells {T with pa:=some ⟨q,0,none⟩,pc:=p}) 50)=qw1 at C R G qB2 qg3 ⊢
 have qB2_l:=qB2.lt
 have qg3_s:=qg3.size
 refine vW (qw1.alloc (.cells (cnCells cnZero) 50)) (.pointer (some ⟨qw1.heap.size,0,none⟩)) ?_
 have qB5:=Blk.new qw1 (cnCells cnZero) 50
 have qg6:=(Since.refl qw1).alloc (.cells (cnCells cnZero) 50)
 replace C:=C.since qg6
 replace qB2:=qB2.since qg6
 replace R:=R.since qg6
 replace G:=G.trans (Touch.of_since qg6 c)
 generalize qw1.alloc (.cells (cnCells cnZero) 50)=qw4 at C qB2 R G qB5 qg6 ⊢
 have qB5_l:=qB5.lt
 have qg6_s:=qg6.size
 refine vE #[.pointer (some ⟨c,kk,none⟩),.agg (cnCells {T with pa:=some ⟨q,0,none⟩,pc:=p}),undef,.pointer (some ⟨w.heap.size,0,none⟩),.pointer (some ⟨qw1.heap.size,0,none⟩),undef,undef,undef,undef,undef,undef,undef,undef,undef,undef,undef,undef,undef,undef,undef,undef,undef,undef,undef,undef,undef,undef,undef,undef,undef,undef,undef,undef] ?_
 go_upto_region 1 with (fail)
 refine wp_region_store (wb:=qw4) 11 (fun i x v=>match i with
   | 0=>v=.agg (cnCells {T with pa:=some ⟨q,0,none⟩,pc:=p})
   | 1=>v=.pointer (some ⟨c,kk,none⟩)
   | 2=>v=.pointer (some ⟨c,kk,none⟩)
   | 3=>v=.pointer (some ⟨c,kk,none⟩)
   | 4=>v=.pointer (some ⟨c,kk+1,none⟩)
   | 5=>v=.string d
   | 6=>∃ g cp,v=.tuple #[.agg (cnCells {T1 with pa:=some ⟨g,0,none⟩,pc:=cp}),.int .i64 (M:Int)]∧Held shP x qw4.heap.size g T.pn cp qs
   | 7=>∃ g cp,v=.tuple #[.agg (cnCells {T1 with pa:=some ⟨g,0,none⟩,pc:=cp}),.int .i64 (M:Int)]∧Held shP x qw4.heap.size g T.pn cp qs
   | 8=>∃ g cp,v=.agg (cnCells {T1 with pa:=some ⟨g,0,none⟩,pc:=cp})∧Held shP x qw4.heap.size g T.pn cp qs
   | 9=>v=.int .i64 (M:Int)
   | 10=>BoxB qw4.heap.size 37 x v
   | 11=>True
   | 12=>v=.int .i64 (M:Int)
   | _=>True) (fun vals x=>∃ b cs,vals 10=.pointer (some ⟨b,0,none⟩)∧vals 8=.agg cs∧qw4.heap.size≤b∧Blk b x cs) (fun v=>{tmps:=#[.pointer (some ⟨c,kk,none⟩),.agg (cnCells {T with pa:=some ⟨q,0,none⟩,pc:=p}),undef,.pointer (some ⟨w.heap.size,0,none⟩),.pointer (some ⟨qw1.heap.size,0,none⟩),v 10,v 12,v 7,v 0,v 1,v 2,v 3,v 4,v 5,v 6,v 8,v 9,undef,undef,undef,undef,undef,undef,undef,undef,undef,undef,undef,undef,undef,undef,undef,undef],defers:=[]}) (by kernel_rfl) (by decide) (by kernel_rfl) (Since.refl _) (fun vals=>by kernel_rfl) ?_ ?_ ?_ ?_ ?_ ?_ ?_
 case refine_1=>
  intro i x x' v h1 h2
  match i,h2 with
  | 6,⟨g,cp,e,H⟩=>exact ⟨g,cp,e,H.since h1⟩
  | 7,⟨g,cp,e,H⟩=>exact ⟨g,cp,e,H.since h1⟩
  | 8,⟨g,cp,e,H⟩=>exact ⟨g,cp,e,H.since h1⟩
  | 10,h2=>exact h2.since h1
  | 0,h2|1,h2|2,h2|3,h2|4,h2|5,h2|9,h2|11,h2|12,h2=>exact h2
  | n+13,_=>trivial
 case refine_2=>exact fun _ _=>trivial
 case refine_3=>exact fun _ _ _ h1 ⟨b,cs,e1,e2,l,B⟩=>⟨b,cs,e1,e2,l,B.since h1⟩
 case refine_4=>
  intro vals vals' x h
  rintro ⟨b,cs,e1,e2,l,B⟩
  exact ⟨b,cs,by rw [← h _ rfl ⟨10,.data⟩ (by simp) rfl];exact e1,by rw [← h _ rfl ⟨8,.data⟩ (by simp) rfl];exact e2,l,B⟩
 case refine_5=>
  repeat (first|exact eachBut_nil|refine eachBut_skip ?_|refine eachBut_cons ?_ ?_)
  all_goals intro vals x hx hv
  all_goals simp [Region.binds] at hv
  ·have hb:=by first|exact hv|exact hv.1|exact hv.2.1
   simp [does,doesUpon,go_sem,hb,Since.refl]
  ·simp [does,doesUpon,go_sem]
   exact ⟨(Since.refl _).alloc _,BoxB.new _ _ _ hx.size rfl⟩
  ·obtain ⟨g,cp,h1,h2⟩:=hv
   simp [does,doesUpon,go_sem,h1,Since.refl]
  ·obtain ⟨g,cp,h1,h2⟩:=hv
   simp [does,doesUpon,go_sem,h1,Since.refl]
   exact ⟨g,cp,rfl,h2⟩
  ·obtain ⟨g,cp,h1,h2⟩:=hv
   simp [does,doesUpon,go_sem,h1,Since.refl]
   exact ⟨g,cp,rfl,h2⟩
  ·simp [does,doesUpon,go_sem,hv]
   refine (hwr _ (R.since hx)).mono ?_
   rintro _ x' ⟨g,cp,rfl,H,h1⟩
   exact ⟨_,rfl,h1,g,cp,rfl,H.raise (by have:=H.low';have:=hx.size;omega)⟩
  ·have fl:x.cell? ⟨c,kk+1,none⟩=some (.string d):=(C.since hx).cell 1
   simp [does,doesUpon,go_sem,hv,fl,Since.refl]
  ·simp [does,doesUpon,go_sem,hv,Since.refl]
  ·simp [does,doesUpon,go_sem,hv,Since.refl]
  ·simp [does,doesUpon,go_sem,hv,Since.refl]
  ·simp [does,doesUpon,go_sem,Since.refl]
  ·exact does_load cn_big (cn_size _) (qB2.since hx) _ rfl rfl ⟨Since.refl _,rfl⟩
 case refine_6=>
  intro op ho vals x hx hv
  obtain rfl:=Option.some.inj ho
  obtain ⟨b,eb,lb,hraw⟩:=hv ⟨10,.data⟩ (by simp) rfl
  obtain ⟨g,cp,ev,H⟩:=hv ⟨8,.data⟩ (by simp) rfl
  obtain ⟨c0,z0,B0⟩:=hraw
  refine does_store cn_big (cn_size _) ⟨c0,z0,B0⟩ (cn_one _) _ _ rfl eb ev ?_
  intro z t B
  refine ⟨since_touch hx t lb,?_,b,_,eb,ev,lb,B⟩
  intro j u hu
  match j,hu with
  | 6,⟨g,cp,e,H⟩=>exact ⟨g,cp,e,H.touch t (held_ne H B0 z0)⟩
  | 7,⟨g,cp,e,H⟩=>exact ⟨g,cp,e,H.touch t (held_ne H B0 z0)⟩
  | 8,⟨g,cp,e,H⟩=>exact ⟨g,cp,e,H.touch t (held_ne H B0 z0)⟩
  | 10,hu=>exact hu.stored t B (cn_size _)
  | 0,hu|1,hu|2,hu|3,hu|4,hu|5,hu|9,hu|11,hu|12,hu=>exact hu
  | n+13,_=>trivial
 case refine_7=>
  intro qv9 qw7 qh8 hv hS
  obtain ⟨qx10,cs,eb,ec,lb,qB11⟩:=hS
  have hv0:qv9 0=_:=hv 0 (by decide)
  have hv1:qv9 1=_:=hv 1 (by decide)
  have hv2:qv9 2=_:=hv 2 (by decide)
  have hv3:qv9 3=_:=hv 3 (by decide)
  have hv4:qv9 4=_:=hv 4 (by decide)
  have hv5:qv9 5=_:=hv 5 (by decide)
  have hv9:qv9 9=_:=hv 9 (by decide)
  have hv12:qv9 12=_:=hv 12 (by decide)
  obtain ⟨gH,cpH,hv8,H⟩:=hv 8 (by decide)
  obtain ⟨gg1,cc1,hv6,-⟩:=hv 6 (by decide)
  obtain ⟨gg2,cc2,hv7,-⟩:=hv 7 (by decide)
  clear hv
  rw [hv8] at ec
  obtain rfl:=Value.agg.inj ec
  clear ec
  simp only [hv0,hv1,hv2,hv3,hv4,hv5,hv6,hv7,hv8,hv9,hv12,eb]
  clear hv0 hv1 hv2 hv3 hv4 hv5 hv6 hv7 hv8 hv9 hv12 eb
  replace C:=C.since qh8
  replace qB2:=qB2.since qh8
  replace qB5:=qB5.since qh8
  replace G:=G.trans (Touch.of_since qh8 c)
  have qh8_s:=qh8.size
  have qB11_l:=qB11.lt
  have H_n:=held_ne H qB11 (cn_size _)
  have H_0:=H.low'
  replace H:=H.raise (show w.heap.size≤gH by omega)
  have H_1:=H.lt
  clear R
  go_upto_region 2 with (fail)
  refine vR ?_
  refine vV (.pointer (some ⟨c,kk,none⟩)) ?_
  refine vV (.pointer (some ⟨c,kk,none⟩)) ?_
  refine vV (.pointer (some ⟨c,kk,none⟩)) ?_
  refine vV (.int .i64 (M:Int)) ?_
  refine vC (hdr _ C) ?_
  rintro _ qw12 ⟨rfl,qt13,qB14⟩
  refine ⟨_,rfl,?_⟩
  clear C
  replace qB2:=qB2.touch qt13 (by omega)
  replace qB5:=qB5.touch qt13 (by omega)
  replace qB11:=qB11.touch qt13 (by omega)
  replace H:=H.touch qt13 (by omega)
  replace G:=touch_any G qt13 (by omega)
  have qt13_s:=qt13.size
  refine vE #[.pointer (some ⟨c,kk,none⟩),.agg (cnCells {T with pa:=some ⟨q,0,none⟩,pc:=p}),undef,.pointer (some ⟨w.heap.size,0,none⟩),.pointer (some ⟨qw1.heap.size,0,none⟩),.pointer (some ⟨qx10,0,none⟩),.int .i64 (M:Int),.tuple #[.agg (cnCells {T1 with pa:=some ⟨gg2,0,none⟩,pc:=cc2}),.int .i64 (M:Int)],.agg (cnCells {T with pa:=some ⟨q,0,none⟩,pc:=p}),.pointer (some ⟨c,kk,none⟩),.pointer (some ⟨c,kk,none⟩),.pointer (some ⟨c,kk,none⟩),.pointer (some ⟨c,kk+1,none⟩),.string d,.tuple #[.agg (cnCells {T1 with pa:=some ⟨gg1,0,none⟩,pc:=cc1}),.int .i64 (M:Int)],.agg (cnCells {T1 with pa:=some ⟨gH,0,none⟩,pc:=cpH}),.int .i64 (M:Int),.pointer (some ⟨c,kk,none⟩),.pointer (some ⟨c,kk,none⟩),.pointer (some ⟨c,kk,none⟩),.int .i64 (M:Int),.tuple #[],undef,undef,undef,undef,undef,undef,undef,undef,undef,undef,undef] ?_
  go_upto_region 3 with (fail)
  refine vR ?_
  refine vV (.pointer (some ⟨c,kk,none⟩)) ?_
  refine vV (.pointer (some ⟨c,kk,none⟩)) ?_
  refine vV (.pointer (some ⟨c,kk,none⟩)) ?_
  refine vV (.pointer (some ⟨c,kk+3,none⟩)) ?_
  refine vD (.int .i64 n) (qB14.cell 3) ?_
  refine vV (.int .i64 (M:Int)) ?_
  refine vV (.int .i64 (n+(M:Int))) ?_ (hrun:=by rw [← ewn];kernel_rfl)
  refine vV (.int .i64 (capP n M)) ?_
  refine vV (.pointer (some ⟨c,kk,none⟩)) ?_
  refine vV (.pointer (some ⟨c,kk+3,none⟩)) ?_
  refine sCd #[.int .i64 r,.string D2,.bool e,.int .i64 (capP n M)] qB14 3 (.int .i64 (capP n M)) rfl ?_
  intro qw15 qt16 qB17
  clear qB14
  replace qB2:=qB2.touch qt16 (by omega)
  replace qB5:=qB5.touch qt16 (by omega)
  replace qB11:=qB11.touch qt16 (by omega)
  replace H:=H.touch qt16 (by omega)
  replace G:=touch_any G qt16 (by omega)
  have qt16_s:=qt16.size
  refine vE #[.pointer (some ⟨c,kk,none⟩),.agg (cnCells {T with pa:=some ⟨q,0,none⟩,pc:=p}),undef,.pointer (some ⟨w.heap.size,0,none⟩),.pointer (some ⟨qw1.heap.size,0,none⟩),.pointer (some ⟨qx10,0,none⟩),.int .i64 (M:Int),.tuple #[.agg (cnCells {T1 with pa:=some ⟨gg2,0,none⟩,pc:=cc2}),.int .i64 (M:Int)],.agg (cnCells {T with pa:=some ⟨q,0,none⟩,pc:=p}),.pointer (some ⟨c,kk,none⟩),.pointer (some ⟨c,kk,none⟩),.pointer (some ⟨c,kk,none⟩),.pointer (some ⟨c,kk+1,none⟩),.string d,.tuple #[.agg (cnCells {T1 with pa:=some ⟨gg1,0,none⟩,pc:=cc1}),.int .i64 (M:Int)],.agg (cnCells {T1 with pa:=some ⟨gH,0,none⟩,pc:=cpH}),.int .i64 (M:Int),.pointer (some ⟨c,kk,none⟩),.pointer (some ⟨c,kk,none⟩),.pointer (some ⟨c,kk,none⟩),.int .i64 (M:Int),.tuple #[],.pointer (some ⟨c,kk,none⟩),.pointer (some ⟨c,kk,none⟩),.pointer (some ⟨c,kk,none⟩),.pointer (some ⟨c,kk+3,none⟩),.int .i64 n,.int .i64 (M:Int),.int .i64 (n+(M:Int)),.int .i64 (capP n M),.pointer (some ⟨c,kk,none⟩),.pointer (some ⟨c,kk+3,none⟩),undef] ?_
  go_upto_region 4 with (fail)
  refine vR ?_
  refine vB cn_big qB11 (cn_size _) ?_
  refine sB (cnCells {T1 with pa:=some ⟨gH,0,none⟩,pc:=cpH}) cn_big qB5 (cn_size _) (cn_size _) (cn_one _) ?_
  intro qw18 qt19 qB20
  clear qB5
  replace qB17:=qB17.touch qt19 (by omega)
  replace qB2:=qB2.touch qt19 (by omega)
  replace qB11:=qB11.touch qt19 (by omega)
  replace H:=H.touch qt19 (by omega)
  replace G:=touch_any G qt19 (by omega)
  have qt19_s:=qt19.size
  refine vE #[.pointer (some ⟨c,kk,none⟩),.agg (cnCells {T with pa:=some ⟨q,0,none⟩,pc:=p}),undef,.pointer (some ⟨w.heap.size,0,none⟩),.pointer (some ⟨qw1.heap.size,0,none⟩),.pointer (some ⟨qx10,0,none⟩),.int .i64 (M:Int),.tuple #[.agg (cnCells {T1 with pa:=some ⟨gg2,0,none⟩,pc:=cc2}),.int .i64 (M:Int)],.agg (cnCells {T with pa:=some ⟨q,0,none⟩,pc:=p}),.pointer (some ⟨c,kk,none⟩),.pointer (some ⟨c,kk,none⟩),.pointer (some ⟨c,kk,none⟩),.pointer (some ⟨c,kk+1,none⟩),.string d,.tuple #[.agg (cnCells {T1 with pa:=some ⟨gg1,0,none⟩,pc:=cc1}),.int .i64 (M:Int)],.agg (cnCells {T1 with pa:=some ⟨gH,0,none⟩,pc:=cpH}),.int .i64 (M:Int),.pointer (some ⟨c,kk,none⟩),.pointer (some ⟨c,kk,none⟩),.pointer (some ⟨c,kk,none⟩),.int .i64 (M:Int),.tuple #[],.pointer (some ⟨c,kk,none⟩),.pointer (some ⟨c,kk,none⟩),.pointer (some ⟨c,kk,none⟩),.pointer (some ⟨c,kk+3,none⟩),.int .i64 n,.int .i64 (M:Int),.int .i64 (n+(M:Int)),.int .i64 (capP n M),.pointer (some ⟨c,kk,none⟩),.pointer (some ⟨c,kk+3,none⟩),.agg (cnCells {T1 with pa:=some ⟨gH,0,none⟩,pc:=cpH})] ?_
  go_wp2_with (fail)
  exact bodyPost_ret (results_cn (t:=4) rfl _ rfl qB20) rfl ⟨_,_,rfl,H,G,qB17⟩

set_option maxRecDepth 20000 in
set_option maxHeartbeats 16000000 in
theorem condEnd (r:Int) (d:ByteArray) (e:Bool) (n:Int) (F1 T1:Cn) (qs:List (Int×ByteArray)) (gT1:GoodC T1 qs) (e2:Bool) (he2:e2=if F1.gfn && emp F1.iD then true else e) (T2:Cn) (hT2:T2=shutT e2 d T1 qs) (g1 p1 q p B c kk:Nat) (pre post:List Value) (w:World) (C:Cdt c kk pre post w #[.int .i64 r,.string d,.bool e,.int .i64 n]) (H:Held shP w B q T1.pn p qs) (hqc:q≠c) :
  Calls Tryz.prog 98 #[.pointer (some ⟨c,kk,none⟩),.agg (cnCells {F1 with pa:=some ⟨g1,0,none⟩,pc:=p1}),.agg (cnCells {T1 with pa:=some ⟨q,0,none⟩,pc:=p})] w fun x w'=>∃ g cp,x=.returned (.agg (cnCells {T2 with pa:=some ⟨g,0,none⟩,pc:=cp}))∧Held shP w' B g T1.pn cp qs∧(g=q∨w.heap.size≤g)∧Touch c w w'∧Cdt c kk pre post w' #[.int .i64 r,.string d,.bool e2,.int .i64 n]:=by
 have hcl:=fun wx Rx=>iClose gT1 (some ⟨q,0,none⟩) p wx Rx
 obtain ⟨TC,hTC⟩:∃ x,Hid (x=closeC T1 qs):=⟨_,rfl⟩
 rw [← hTC.out] at hcl
 replace he2:Hid _:=he2
 replace hT2:Hid _:=hT2
 obtain ⟨c1,hc1⟩:∃ b,Hid (b=emp F1.iD):=⟨_,rfl⟩
 obtain ⟨c2,hc2⟩:∃ b,Hid (b=emp d):=⟨_,rfl⟩
 have hH0:=H.low'
 have hH1:=H.lt
 have G:=Touch.refl c w
 have hC0:=C.lt
 go_enter Tryz.func98,Tryz.ntmps98
 go_upto_region 0 with (fail)
 refine vR ?_
 refine vW (w.alloc (.cells (cnCells {F1 with pa:=some ⟨g1,0,none⟩,pc:=p1}) 50)) (.pointer (some ⟨w.heap.size,0,none⟩)) ?_
 have qB2:=Blk.new w (cnCells {F1 with pa:=some ⟨g1,0,none⟩,pc:=p1}) 50
 have qg3:=(Since.refl w).alloc (.cells (cnCells {F1 with pa:=some ⟨g1,0,none⟩,pc:=p1}) 50)
 replace C:=C.since qg3
 replace H:=H.since qg3
 replace G:=G.trans (Touch.of_since qg3 c)
 generalize w.alloc (.cells (cnCells {F1 with pa:=some ⟨g1,0,none⟩,pc:=p1}) 50)=qw1 at C H G qB2 qg3 ⊢
 have qB2_l:=qB2.lt
 have qg3_s:=qg3.size
 refine vW (qw1.alloc (.cells (cnCells {T1 with pa:=some ⟨q,0,none⟩,pc:=p}) 50)) (.pointer (some ⟨qw1.heap.size,0,none⟩)) ?_
 have qB5:=Blk.new qw1 (cnCells {T1 with pa:=some ⟨q,0,none⟩,pc:=p}) 50
 have qg6:=(Since.refl qw1).alloc (.cells (cnCells {T1 with pa:=some ⟨q,0,none⟩,pc:=p}) 50)
 replace C:=C.since qg6
 replace qB2:=qB2.since qg6
 replace H:=H.since qg6
 replace G:=G.trans (Touch.of_since qg6 c)
 generalize qw1.alloc (.cells (cnCells {T1 with pa:=some ⟨q,0,none⟩,pc:=p}) 50)=qw4 at C qB2 H G qB5 qg6 ⊢
 have qB5_l:=qB5.lt
 have qg6_s:=qg6.size
 refine vW (qw4.alloc (.cells (cnCells cnZero) 50)) (.pointer (some ⟨qw4.heap.size,0,none⟩)) ?_
 have qB8:=Blk.new qw4 (cnCells cnZero) 50
 have qg9:=(Since.refl qw4).alloc (.cells (cnCells cnZero) 50)
 replace C:=C.since qg9
 replace qB2:=qB2.since qg9
 replace qB5:=qB5.since qg9
 replace H:=H.since qg9
 replace G:=G.trans (Touch.of_since qg9 c)
 generalize qw4.alloc (.cells (cnCells cnZero) 50)=qw7 at C qB2 qB5 H G qB8 qg9 ⊢
 have qB8_l:=qB8.lt
 have qg9_s:=qg9.size
 refine vE #[.pointer (some ⟨c,kk,none⟩),.agg (cnCells {F1 with pa:=some ⟨g1,0,none⟩,pc:=p1}),.agg (cnCells {T1 with pa:=some ⟨q,0,none⟩,pc:=p}),undef,.pointer (some ⟨w.heap.size,0,none⟩),.pointer (some ⟨qw1.heap.size,0,none⟩),.pointer (some ⟨qw4.heap.size,0,none⟩),undef,undef,undef,undef,undef,undef,undef,undef,undef,undef,undef,undef,undef,undef,undef,undef,undef,undef,undef,undef,undef,undef,undef,undef] ?_
 go_upto_region 1 with (fail)
 rcases Bool.eq_false_or_eq_true F1.gfn with hgf|hgf
 all_goals replace hgf:Hid _:=hgf
 case inl=>
  cases c1
  case false=>
   rcases Bool.eq_false_or_eq_true e with hee|hee
   all_goals replace hee:Hid _:=hee
   case inl=>
    cases c2
    case false=>
     have eE:Hid (e2=true):=(by rw [he2.out,hgf.out,← hc1.out];exact hee.out:e2=true)
     have eT:Hid (T2=T1):=(by rw [hT2.out,eE.out];unfold shutT;rw [← hc2.out];rfl:T2=T1)
     refine vR ?_
     refine vV (.pointer (some ⟨w.heap.size,18,none⟩)) ?_
     refine vD (.bool true) ((qB2.cell 18).trans (by show some (.bool F1.gfn:Value)=some (.bool true:Value);rw [hgf.out])) ?_
     refine vV (.bool true) ?_
     refine vV (.pointer (some ⟨w.heap.size,11,none⟩)) ?_
     refine vV (.pointer (some ⟨w.heap.size,12,none⟩)) ?_
     refine vD (.string F1.iD) (qB2.cell 12) ?_
     refine vEmp (F1.iD) false (hc1.out.symm) ?_
     refine vV (.bool false) ?_
     refine vE #[.pointer (some ⟨c,kk,none⟩),.agg (cnCells {F1 with pa:=some ⟨g1,0,none⟩,pc:=p1}),.agg (cnCells {T1 with pa:=some ⟨q,0,none⟩,pc:=p}),undef,.pointer (some ⟨w.heap.size,0,none⟩),.pointer (some ⟨qw1.heap.size,0,none⟩),.pointer (some ⟨qw4.heap.size,0,none⟩),.pointer (some ⟨w.heap.size,18,none⟩),.bool true,.bool true,.pointer (some ⟨w.heap.size,11,none⟩),.pointer (some ⟨w.heap.size,12,none⟩),.string F1.iD,.bool false,.bool false,undef,undef,undef,undef,undef,undef,undef,undef,undef,undef,undef,undef,undef,undef,undef,undef] ?_
     go_upto_region 3 with (fail)
     refine vR ?_
     refine vV (.pointer (some ⟨c,kk,none⟩)) ?_
     refine vV (.pointer (some ⟨c,kk,none⟩)) ?_
     refine vV (.pointer (some ⟨c,kk+2,none⟩)) ?_
     refine vD (.bool true) ((C.cell 2).trans (by show some (.bool e:Value)=some (.bool true:Value);rw [hee.out])) ?_
     refine vV (.bool true) ?_
     refine vV (.pointer (some ⟨c,kk,none⟩)) ?_
     refine vV (.pointer (some ⟨c,kk,none⟩)) ?_
     refine vV (.pointer (some ⟨c,kk,none⟩)) ?_
     refine vK (condEmpty r d e n c kk pre post false hc2.out.symm _ C) ?_
     intro qw10 qg11
     replace C:=C.since qg11
     replace qB2:=qB2.since qg11
     replace qB5:=qB5.since qg11
     replace qB8:=qB8.since qg11
     replace H:=H.since qg11
     replace G:=G.trans (Touch.of_since qg11 c)
     have qg11_s:=qg11.size
     refine vV (.bool false) ?_
     refine vE #[.pointer (some ⟨c,kk,none⟩),.agg (cnCells {F1 with pa:=some ⟨g1,0,none⟩,pc:=p1}),.agg (cnCells {T1 with pa:=some ⟨q,0,none⟩,pc:=p}),undef,.pointer (some ⟨w.heap.size,0,none⟩),.pointer (some ⟨qw1.heap.size,0,none⟩),.pointer (some ⟨qw4.heap.size,0,none⟩),.pointer (some ⟨w.heap.size,18,none⟩),.bool true,.bool true,.pointer (some ⟨w.heap.size,11,none⟩),.pointer (some ⟨w.heap.size,12,none⟩),.string F1.iD,.bool false,.bool false,undef,undef,undef,.pointer (some ⟨c,kk,none⟩),.pointer (some ⟨c,kk,none⟩),.pointer (some ⟨c,kk+2,none⟩),.bool true,.bool true,.pointer (some ⟨c,kk,none⟩),.pointer (some ⟨c,kk,none⟩),.pointer (some ⟨c,kk,none⟩),.bool false,.bool false,undef,undef,undef] ?_
     go_upto_region 5 with (fail)
     refine vR ?_
     refine vB cn_big qB5 (cn_size _) ?_
     refine sB (cnCells {T1 with pa:=some ⟨q,0,none⟩,pc:=p}) cn_big qB8 (cn_size _) (cn_size _) (cn_one _) ?_
     intro qw12 qt13 qB14
     clear qB8
     replace C:=C.touch qt13 (by omega)
     replace qB2:=qB2.touch qt13 (by omega)
     replace qB5:=qB5.touch qt13 (by omega)
     replace H:=H.touch qt13 (by omega)
     replace G:=touch_any G qt13 (by omega)
     have qt13_s:=qt13.size
     refine vE #[.pointer (some ⟨c,kk,none⟩),.agg (cnCells {F1 with pa:=some ⟨g1,0,none⟩,pc:=p1}),.agg (cnCells {T1 with pa:=some ⟨q,0,none⟩,pc:=p}),undef,.pointer (some ⟨w.heap.size,0,none⟩),.pointer (some ⟨qw1.heap.size,0,none⟩),.pointer (some ⟨qw4.heap.size,0,none⟩),.pointer (some ⟨w.heap.size,18,none⟩),.bool true,.bool true,.pointer (some ⟨w.heap.size,11,none⟩),.pointer (some ⟨w.heap.size,12,none⟩),.string F1.iD,.bool false,.bool false,undef,undef,undef,.pointer (some ⟨c,kk,none⟩),.pointer (some ⟨c,kk,none⟩),.pointer (some ⟨c,kk+2,none⟩),.bool true,.bool true,.pointer (some ⟨c,kk,none⟩),.pointer (some ⟨c,kk,none⟩),.pointer (some ⟨c,kk,none⟩),.bool false,.bool false,undef,undef,.agg (cnCells {T1 with pa:=some ⟨q,0,none⟩,pc:=p})] ?_
     have hfin:Cdt c kk pre post qw12 #[.int .i64 r,.string d,.bool e2,.int .i64 n]:=by rw [eE.out];rw [hee.out] at C;exact C
     go_wp2_with (fail)
     exact bodyPost_ret (results_cn (t:=6) rfl _ rfl qB14) rfl ⟨_,_,by rw [eT.out],H,Or.inl rfl,G,hfin⟩
    case true=>
     have eE:Hid (e2=true):=(by rw [he2.out,hgf.out,← hc1.out];exact hee.out:e2=true)
     have eT:Hid (T2=TC):=(by rw [hT2.out,eE.out];unfold shutT;rw [← hc2.out];exact hTC.out.symm:T2=TC)
     refine vR ?_
     refine vV (.pointer (some ⟨w.heap.size,18,none⟩)) ?_
     refine vD (.bool true) ((qB2.cell 18).trans (by show some (.bool F1.gfn:Value)=some (.bool true:Value);rw [hgf.out])) ?_
     refine vV (.bool true) ?_
     refine vV (.pointer (some ⟨w.heap.size,11,none⟩)) ?_
     refine vV (.pointer (some ⟨w.heap.size,12,none⟩)) ?_
     refine vD (.string F1.iD) (qB2.cell 12) ?_
     refine vEmp (F1.iD) false (hc1.out.symm) ?_
     refine vV (.bool false) ?_
     refine vE #[.pointer (some ⟨c,kk,none⟩),.agg (cnCells {F1 with pa:=some ⟨g1,0,none⟩,pc:=p1}),.agg (cnCells {T1 with pa:=some ⟨q,0,none⟩,pc:=p}),undef,.pointer (some ⟨w.heap.size,0,none⟩),.pointer (some ⟨qw1.heap.size,0,none⟩),.pointer (some ⟨qw4.heap.size,0,none⟩),.pointer (some ⟨w.heap.size,18,none⟩),.bool true,.bool true,.pointer (some ⟨w.heap.size,11,none⟩),.pointer (some ⟨w.heap.size,12,none⟩),.string F1.iD,.bool false,.bool false,undef,undef,undef,undef,undef,undef,undef,undef,undef,undef,undef,undef,undef,undef,undef,undef] ?_
     go_upto_region 3 with (fail)
     refine vR ?_
     refine vV (.pointer (some ⟨c,kk,none⟩)) ?_
     refine vV (.pointer (some ⟨c,kk,none⟩)) ?_
     refine vV (.pointer (some ⟨c,kk+2,none⟩)) ?_
     refine vD (.bool true) ((C.cell 2).trans (by show some (.bool e:Value)=some (.bool true:Value);rw [hee.out])) ?_
     refine vV (.bool true) ?_
     refine vV (.pointer (some ⟨c,kk,none⟩)) ?_
     refine vV (.pointer (some ⟨c,kk,none⟩)) ?_
     refine vV (.pointer (some ⟨c,kk,none⟩)) ?_
     refine vK (condEmpty r d e n c kk pre post true hc2.out.symm _ C) ?_
     intro qw10 qg11
     replace C:=C.since qg11
     replace qB2:=qB2.since qg11
     replace qB5:=qB5.since qg11
     replace qB8:=qB8.since qg11
     replace H:=H.since qg11
     replace G:=G.trans (Touch.of_since qg11 c)
     have qg11_s:=qg11.size
     refine vV (.bool true) ?_
     refine vE #[.pointer (some ⟨c,kk,none⟩),.agg (cnCells {F1 with pa:=some ⟨g1,0,none⟩,pc:=p1}),.agg (cnCells {T1 with pa:=some ⟨q,0,none⟩,pc:=p}),undef,.pointer (some ⟨w.heap.size,0,none⟩),.pointer (some ⟨qw1.heap.size,0,none⟩),.pointer (some ⟨qw4.heap.size,0,none⟩),.pointer (some ⟨w.heap.size,18,none⟩),.bool true,.bool true,.pointer (some ⟨w.heap.size,11,none⟩),.pointer (some ⟨w.heap.size,12,none⟩),.string F1.iD,.bool false,.bool false,undef,undef,undef,.pointer (some ⟨c,kk,none⟩),.pointer (some ⟨c,kk,none⟩),.pointer (some ⟨c,kk+2,none⟩),.bool true,.bool true,.pointer (some ⟨c,kk,none⟩),.pointer (some ⟨c,kk,none⟩),.pointer (some ⟨c,kk,none⟩),.bool true,.bool true,undef,undef,undef] ?_
     go_upto_region 4 with (fail)
     refine vR ?_
     refine vB cn_big qB5 (cn_size _) ?_
     refine vC (hcl _ H.reads) ?_
     rintro _ qw12 ⟨g3,cp3,rfl,H3,qg13⟩
     refine ⟨_,rfl,?_⟩
     replace C:=C.since qg13
     replace qB2:=qB2.since qg13
     replace qB5:=qB5.since qg13
     replace qB8:=qB8.since qg13
     replace H:=H.since qg13
     replace G:=G.trans (Touch.of_since qg13 c)
     have qg13_s:=qg13.size
     have H3_0:=H3.low'
     replace H3:=H3.raise (show B≤g3 by omega)
     have H3_1:=H3.lt
     clear H
     refine sB (cnCells {TC with pa:=some ⟨g3,0,none⟩,pc:=cp3}) cn_big qB8 (cn_size _) (cn_size _) (cn_one _) ?_
     intro qw14 qt15 qB16
     clear qB8
     replace C:=C.touch qt15 (by omega)
     replace qB2:=qB2.touch qt15 (by omega)
     replace qB5:=qB5.touch qt15 (by omega)
     replace H3:=H3.touch qt15 (by omega)
     replace G:=touch_any G qt15 (by omega)
     have qt15_s:=qt15.size
     refine vE #[.pointer (some ⟨c,kk,none⟩),.agg (cnCells {F1 with pa:=some ⟨g1,0,none⟩,pc:=p1}),.agg (cnCells {T1 with pa:=some ⟨q,0,none⟩,pc:=p}),undef,.pointer (some ⟨w.heap.size,0,none⟩),.pointer (some ⟨qw1.heap.size,0,none⟩),.pointer (some ⟨qw4.heap.size,0,none⟩),.pointer (some ⟨w.heap.size,18,none⟩),.bool true,.bool true,.pointer (some ⟨w.heap.size,11,none⟩),.pointer (some ⟨w.heap.size,12,none⟩),.string F1.iD,.bool false,.bool false,undef,undef,undef,.pointer (some ⟨c,kk,none⟩),.pointer (some ⟨c,kk,none⟩),.pointer (some ⟨c,kk+2,none⟩),.bool true,.bool true,.pointer (some ⟨c,kk,none⟩),.pointer (some ⟨c,kk,none⟩),.pointer (some ⟨c,kk,none⟩),.bool true,.bool true,.agg (cnCells {T1 with pa:=some ⟨q,0,none⟩,pc:=p}),.agg (cnCells {TC with pa:=some ⟨g3,0,none⟩,pc:=cp3}),undef] ?_
     have hfin:Cdt c kk pre post qw14 #[.int .i64 r,.string d,.bool e2,.int .i64 n]:=by rw [eE.out];rw [hee.out] at C;exact C
     go_wp2_with (fail)
     exact bodyPost_ret (results_cn (t:=6) rfl _ rfl qB16) rfl ⟨_,_,by rw [eT.out],H3,Or.inr (by omega),G,hfin⟩
   case inr=>
    have eE:Hid (e2=false):=(by rw [he2.out,hgf.out,← hc1.out];exact hee.out:e2=false)
    have eT:Hid (T2=T1):=(by rw [hT2.out,eE.out];unfold shutT;rfl:T2=T1)
    refine vR ?_
    refine vV (.pointer (some ⟨w.heap.size,18,none⟩)) ?_
    refine vD (.bool true) ((qB2.cell 18).trans (by show some (.bool F1.gfn:Value)=some (.bool true:Value);rw [hgf.out])) ?_
    refine vV (.bool true) ?_
    refine vV (.pointer (some ⟨w.heap.size,11,none⟩)) ?_
    refine vV (.pointer (some ⟨w.heap.size,12,none⟩)) ?_
    refine vD (.string F1.iD) (qB2.cell 12) ?_
    refine vEmp (F1.iD) false (hc1.out.symm) ?_
    refine vV (.bool false) ?_
    refine vE #[.pointer (some ⟨c,kk,none⟩),.agg (cnCells {F1 with pa:=some ⟨g1,0,none⟩,pc:=p1}),.agg (cnCells {T1 with pa:=some ⟨q,0,none⟩,pc:=p}),undef,.pointer (some ⟨w.heap.size,0,none⟩),.pointer (some ⟨qw1.heap.size,0,none⟩),.pointer (some ⟨qw4.heap.size,0,none⟩),.pointer (some ⟨w.heap.size,18,none⟩),.bool true,.bool true,.pointer (some ⟨w.heap.size,11,none⟩),.pointer (some ⟨w.heap.size,12,none⟩),.string F1.iD,.bool false,.bool false,undef,undef,undef,undef,undef,undef,undef,undef,undef,undef,undef,undef,undef,undef,undef,undef] ?_
    go_upto_region 3 with (fail)
    refine vR ?_
    refine vV (.pointer (some ⟨c,kk,none⟩)) ?_
    refine vV (.pointer (some ⟨c,kk,none⟩)) ?_
    refine vV (.pointer (some ⟨c,kk+2,none⟩)) ?_
    refine vD (.bool false) ((C.cell 2).trans (by show some (.bool e:Value)=some (.bool false:Value);rw [hee.out])) ?_
    refine vV (.bool false) ?_
    refine vS ?_
    refine vS ?_
    refine vS ?_
    refine vS ?_
    refine vV (.bool false) ?_
    refine vE #[.pointer (some ⟨c,kk,none⟩),.agg (cnCells {F1 with pa:=some ⟨g1,0,none⟩,pc:=p1}),.agg (cnCells {T1 with pa:=some ⟨q,0,none⟩,pc:=p}),undef,.pointer (some ⟨w.heap.size,0,none⟩),.pointer (some ⟨qw1.heap.size,0,none⟩),.pointer (some ⟨qw4.heap.size,0,none⟩),.pointer (some ⟨w.heap.size,18,none⟩),.bool true,.bool true,.pointer (some ⟨w.heap.size,11,none⟩),.pointer (some ⟨w.heap.size,12,none⟩),.string F1.iD,.bool false,.bool false,undef,undef,undef,.pointer (some ⟨c,kk,none⟩),.pointer (some ⟨c,kk,none⟩),.pointer (some ⟨c,kk+2,none⟩),.bool false,.bool false,undef,undef,undef,undef,.bool false,undef,undef,undef] ?_
    go_upto_region 5 with (fail)
    refine vR ?_
    refine vB cn_big qB5 (cn_size _) ?_
    refine sB (cnCells {T1 with pa:=some ⟨q,0,none⟩,pc:=p}) cn_big qB8 (cn_size _) (cn_size _) (cn_one _) ?_
    intro qw10 qt11 qB12
    clear qB8
    replace C:=C.touch qt11 (by omega)
    replace qB2:=qB2.touch qt11 (by omega)
    replace qB5:=qB5.touch qt11 (by omega)
    replace H:=H.touch qt11 (by omega)
    replace G:=touch_any G qt11 (by omega)
    have qt11_s:=qt11.size
    refine vE #[.pointer (some ⟨c,kk,none⟩),.agg (cnCells {F1 with pa:=some ⟨g1,0,none⟩,pc:=p1}),.agg (cnCells {T1 with pa:=some ⟨q,0,none⟩,pc:=p}),undef,.pointer (some ⟨w.heap.size,0,none⟩),.pointer (some ⟨qw1.heap.size,0,none⟩),.pointer (some ⟨qw4.heap.size,0,none⟩),.pointer (some ⟨w.heap.size,18,none⟩),.bool true,.bool true,.pointer (some ⟨w.heap.size,11,none⟩),.pointer (some ⟨w.heap.size,12,none⟩),.string F1.iD,.bool false,.bool false,undef,undef,undef,.pointer (some ⟨c,kk,none⟩),.pointer (some ⟨c,kk,none⟩),.pointer (some ⟨c,kk+2,none⟩),.bool false,.bool false,undef,undef,undef,undef,.bool false,undef,undef,.agg (cnCells {T1 with pa:=some ⟨q,0,none⟩,pc:=p})] ?_
    have hfin:Cdt c kk pre post qw10 #[.int .i64 r,.string d,.bool e2,.int .i64 n]:=by rw [eE.out];rw [hee.out] at C;exact C
    go_wp2_with (fail)
    exact bodyPost_ret (results_cn (t:=6) rfl _ rfl qB12) rfl ⟨_,_,by rw [eT.out],H,Or.inl rfl,G,hfin⟩
  case true=>
   cases c2
   case false=>
    have eE:Hid (e2=true):=(by rw [he2.out,hgf.out,← hc1.out];rfl:e2=true)
    have eT:Hid (T2=T1):=(by rw [hT2.out,eE.out];unfold shutT;rw [← hc2.out];rfl:T2=T1)
    refine vR ?_
    refine vV (.pointer (some ⟨w.heap.size,18,none⟩)) ?_
    refine vD (.bool true) ((qB2.cell 18).trans (by show some (.bool F1.gfn:Value)=some (.bool true:Value);rw [hgf.out])) ?_
    refine vV (.bool true) ?_
    refine vV (.pointer (some ⟨w.heap.size,11,none⟩)) ?_
    refine vV (.pointer (some ⟨w.heap.size,12,none⟩)) ?_
    refine vD (.string F1.iD) (qB2.cell 12) ?_
    refine vEmp (F1.iD) true (hc1.out.symm) ?_
    refine vV (.bool true) ?_
    refine vE #[.pointer (some ⟨c,kk,none⟩),.agg (cnCells {F1 with pa:=some ⟨g1,0,none⟩,pc:=p1}),.agg (cnCells {T1 with pa:=some ⟨q,0,none⟩,pc:=p}),undef,.pointer (some ⟨w.heap.size,0,none⟩),.pointer (some ⟨qw1.heap.size,0,none⟩),.pointer (some ⟨qw4.heap.size,0,none⟩),.pointer (some ⟨w.heap.size,18,none⟩),.bool true,.bool true,.pointer (some ⟨w.heap.size,11,none⟩),.pointer (some ⟨w.heap.size,12,none⟩),.string F1.iD,.bool true,.bool true,undef,undef,undef,undef,undef,undef,undef,undef,undef,undef,undef,undef,undef,undef,undef,undef] ?_
    go_upto_region 2 with (fail)
    refine vR ?_
    refine vV (.pointer (some ⟨c,kk,none⟩)) ?_
    refine vV (.pointer (some ⟨c,kk,none⟩)) ?_
    refine vV (.pointer (some ⟨c,kk+2,none⟩)) ?_
    refine sCd #[.int .i64 r,.string d,.bool true,.int .i64 n] C 2 (.bool true) rfl ?_
    intro qw10 qt11 qB12
    clear C
    replace qB2:=qB2.touch qt11 (by omega)
    replace qB5:=qB5.touch qt11 (by omega)
    replace qB8:=qB8.touch qt11 (by omega)
    replace H:=H.touch qt11 (by omega)
    replace G:=touch_any G qt11 (by omega)
    have qt11_s:=qt11.size
    refine vE #[.pointer (some ⟨c,kk,none⟩),.agg (cnCells {F1 with pa:=some ⟨g1,0,none⟩,pc:=p1}),.agg (cnCells {T1 with pa:=some ⟨q,0,none⟩,pc:=p}),undef,.pointer (some ⟨w.heap.size,0,none⟩),.pointer (some ⟨qw1.heap.size,0,none⟩),.pointer (some ⟨qw4.heap.size,0,none⟩),.pointer (some ⟨w.heap.size,18,none⟩),.bool true,.bool true,.pointer (some ⟨w.heap.size,11,none⟩),.pointer (some ⟨w.heap.size,12,none⟩),.string F1.iD,.bool true,.bool true,.pointer (some ⟨c,kk,none⟩),.pointer (some ⟨c,kk,none⟩),.pointer (some ⟨c,kk+2,none⟩),undef,undef,undef,undef,undef,undef,undef,undef,undef,undef,undef,undef,undef] ?_
    go_upto_region 3 with (fail)
    refine vR ?_
    refine vV (.pointer (some ⟨c,kk,none⟩)) ?_
    refine vV (.pointer (some ⟨c,kk,none⟩)) ?_
    refine vV (.pointer (some ⟨c,kk+2,none⟩)) ?_
    refine vD (.bool true) (qB12.cell 2) ?_
    refine vV (.bool true) ?_
    refine vV (.pointer (some ⟨c,kk,none⟩)) ?_
    refine vV (.pointer (some ⟨c,kk,none⟩)) ?_
    refine vV (.pointer (some ⟨c,kk,none⟩)) ?_
    refine vK (condEmpty r d true n c kk pre post false hc2.out.symm _ qB12) ?_
    intro qw13 qg14
    replace qB12:=qB12.since qg14
    replace qB2:=qB2.since qg14
    replace qB5:=qB5.since qg14
    replace qB8:=qB8.since qg14
    replace H:=H.since qg14
    replace G:=G.trans (Touch.of_since qg14 c)
    have qg14_s:=qg14.size
    refine vV (.bool false) ?_
    refine vE #[.pointer (some ⟨c,kk,none⟩),.agg (cnCells {F1 with pa:=some ⟨g1,0,none⟩,pc:=p1}),.agg (cnCells {T1 with pa:=some ⟨q,0,none⟩,pc:=p}),undef,.pointer (some ⟨w.heap.size,0,none⟩),.pointer (some ⟨qw1.heap.size,0,none⟩),.pointer (some ⟨qw4.heap.size,0,none⟩),.pointer (some ⟨w.heap.size,18,none⟩),.bool true,.bool true,.pointer (some ⟨w.heap.size,11,none⟩),.pointer (some ⟨w.heap.size,12,none⟩),.string F1.iD,.bool true,.bool true,.pointer (some ⟨c,kk,none⟩),.pointer (some ⟨c,kk,none⟩),.pointer (some ⟨c,kk+2,none⟩),.pointer (some ⟨c,kk,none⟩),.pointer (some ⟨c,kk,none⟩),.pointer (some ⟨c,kk+2,none⟩),.bool true,.bool true,.pointer (some ⟨c,kk,none⟩),.pointer (some ⟨c,kk,none⟩),.pointer (some ⟨c,kk,none⟩),.bool false,.bool false,undef,undef,undef] ?_
    go_upto_region 5 with (fail)
    refine vR ?_
    refine vB cn_big qB5 (cn_size _) ?_
    refine sB (cnCells {T1 with pa:=some ⟨q,0,none⟩,pc:=p}) cn_big qB8 (cn_size _) (cn_size _) (cn_one _) ?_
    intro qw15 qt16 qB17
    clear qB8
    replace qB12:=qB12.touch qt16 (by omega)
    replace qB2:=qB2.touch qt16 (by omega)
    replace qB5:=qB5.touch qt16 (by omega)
    replace H:=H.touch qt16 (by omega)
    replace G:=touch_any G qt16 (by omega)
    have qt16_s:=qt16.size
    refine vE #[.pointer (some ⟨c,kk,none⟩),.agg (cnCells {F1 with pa:=some ⟨g1,0,none⟩,pc:=p1}),.agg (cnCells {T1 with pa:=some ⟨q,0,none⟩,pc:=p}),undef,.pointer (some ⟨w.heap.size,0,none⟩),.pointer (some ⟨qw1.heap.size,0,none⟩),.pointer (some ⟨qw4.heap.size,0,none⟩),.pointer (some ⟨w.heap.size,18,none⟩),.bool true,.bool true,.pointer (some ⟨w.heap.size,11,none⟩),.pointer (some ⟨w.heap.size,12,none⟩),.string F1.iD,.bool true,.bool true,.pointer (some ⟨c,kk,none⟩),.pointer (some ⟨c,kk,none⟩),.pointer (some ⟨c,kk+2,none⟩),.pointer (some ⟨c,kk,none⟩),.pointer (some ⟨c,kk,none⟩),.pointer (some ⟨c,kk+2,none⟩),.bool true,.bool true,.pointer (some ⟨c,kk,none⟩),.pointer (some ⟨c,kk,none⟩),.pointer (some ⟨c,kk,none⟩),.bool false,.bool false,undef,undef,.agg (cnCells {T1 with pa:=some ⟨q,0,none⟩,pc:=p})] ?_
    have hfin:Cdt c kk pre post qw15 #[.int .i64 r,.string d,.bool e2,.int .i64 n]:=by rw [eE.out];exact qB12
    go_wp2_with (fail)
    exact bodyPost_ret (results_cn (t:=6) rfl _ rfl qB17) rfl ⟨_,_,by rw [eT.out],H,Or.inl rfl,G,hfin⟩
   case true=>
    have eE:Hid (e2=true):=(by rw [he2.out,hgf.out,← hc1.out];rfl:e2=true)
    have eT:Hid (T2=TC):=(by rw [hT2.out,eE.out];unfold shutT;rw [← hc2.out];exact hTC.out.symm:T2=TC)
    refine vR ?_
    refine vV (.pointer (some ⟨w.heap.size,18,none⟩)) ?_
    refine vD (.bool true) ((qB2.cell 18).trans (by show some (.bool F1.gfn:Value)=some (.bool true:Value);rw [hgf.out])) ?_
    refine vV (.bool true) ?_
    refine vV (.pointer (some ⟨w.heap.size,11,none⟩)) ?_
    refine vV (.pointer (some ⟨w.heap.size,12,none⟩)) ?_
    refine vD (.string F1.iD) (qB2.cell 12) ?_
    refine vEmp (F1.iD) true (hc1.out.symm) ?_
    refine vV (.bool true) ?_
    refine vE #[.pointer (some ⟨c,kk,none⟩),.agg (cnCells {F1 with pa:=some ⟨g1,0,none⟩,pc:=p1}),.agg (cnCells {T1 with pa:=some ⟨q,0,none⟩,pc:=p}),undef,.pointer (some ⟨w.heap.size,0,none⟩),.pointer (some ⟨qw1.heap.size,0,none⟩),.pointer (some ⟨qw4.heap.size,0,none⟩),.pointer (some ⟨w.heap.size,18,none⟩),.bool true,.bool true,.pointer (some ⟨w.heap.size,11,none⟩),.pointer (some ⟨w.heap.size,12,none⟩),.string F1.iD,.bool true,.bool true,undef,undef,undef,undef,undef,undef,undef,undef,undef,undef,undef,undef,undef,undef,undef,undef] ?_
    go_upto_region 2 with (fail)
    refine vR ?_
    refine vV (.pointer (some ⟨c,kk,none⟩)) ?_
    refine vV (.pointer (some ⟨c,kk,none⟩)) ?_
    refine vV (.pointer (some ⟨c,kk+2,none⟩)) ?_
    refine sCd #[.int .i64 r,.string d,.bool true,.int .i64 n] C 2 (.bool true) rfl ?_
    intro qw10 qt11 qB12
    clear C
    replace qB2:=qB2.touch qt11 (by omega)
    replace qB5:=qB5.touch qt11 (by omega)
    replace qB8:=qB8.touch qt11 (by omega)
    replace H:=H.touch qt11 (by omega)
    replace G:=touch_any G qt11 (by omega)
    have qt11_s:=qt11.size
    refine vE #[.pointer (some ⟨c,kk,none⟩),.agg (cnCells {F1 with pa:=some ⟨g1,0,none⟩,pc:=p1}),.agg (cnCells {T1 with pa:=some ⟨q,0,none⟩,pc:=p}),undef,.pointer (some ⟨w.heap.size,0,none⟩),.pointer (some ⟨qw1.heap.size,0,none⟩),.pointer (some ⟨qw4.heap.size,0,none⟩),.pointer (some ⟨w.heap.size,18,none⟩),.bool true,.bool true,.pointer (some ⟨w.heap.size,11,none⟩),.pointer (some ⟨w.heap.size,12,none⟩),.string F1.iD,.bool true,.bool true,.pointer (some ⟨c,kk,none⟩),.pointer (some ⟨c,kk,none⟩),.pointer (some ⟨c,kk+2,none⟩),undef,undef,undef,undef,undef,undef,undef,undef,undef,undef,undef,undef,undef] ?_
    go_upto_region 3 with (fail)
    refine vR ?_
    refine vV (.pointer (some ⟨c,kk,none⟩)) ?_
    refine vV (.pointer (some ⟨c,kk,none⟩)) ?_
    refine vV (.pointer (some ⟨c,kk+2,none⟩)) ?_
    refine vD (.bool true) (qB12.cell 2) ?_
    refine vV (.bool true) ?_
    refine vV (.pointer (some ⟨c,kk,none⟩)) ?_
    refine vV (.pointer (some ⟨c,kk,none⟩)) ?_
    refine vV (.pointer (some ⟨c,kk,none⟩)) ?_
    refine vK (condEmpty r d true n c kk pre post true hc2.out.symm _ qB12) ?_
    intro qw13 qg14
    replace qB12:=qB12.since qg14
    replace qB2:=qB2.since qg14
    replace qB5:=qB5.since qg14
    replace qB8:=qB8.since qg14
    replace H:=H.since qg14
    replace G:=G.trans (Touch.of_since qg14 c)
    have qg14_s:=qg14.size
    refine vV (.bool true) ?_
    refine vE #[.pointer (some ⟨c,kk,none⟩),.agg (cnCells {F1 with pa:=some ⟨g1,0,none⟩,pc:=p1}),.agg (cnCells {T1 with pa:=some ⟨q,0,none⟩,pc:=p}),undef,.pointer (some ⟨w.heap.size,0,none⟩),.pointer (some ⟨qw1.heap.size,0,none⟩),.pointer (some ⟨qw4.heap.size,0,none⟩),.pointer (some ⟨w.heap.size,18,none⟩),.bool true,.bool true,.pointer (some ⟨w.heap.size,11,none⟩),.pointer (some ⟨w.heap.size,12,none⟩),.string F1.iD,.bool true,.bool true,.pointer (some ⟨c,kk,none⟩),.pointer (some ⟨c,kk,none⟩),.pointer (some ⟨c,kk+2,none⟩),.pointer (some ⟨c,kk,none⟩),.pointer (some ⟨c,kk,none⟩),.pointer (some ⟨c,kk+2,none⟩),.bool true,.bool true,.pointer (some ⟨c,kk,none⟩),.pointer (some ⟨c,kk,none⟩),.pointer (some ⟨c,kk,none⟩),.bool true,.bool true,undef,undef,undef] ?_
    go_upto_region 4 with (fail)
    refine vR ?_
    refine vB cn_big qB5 (cn_size _) ?_
    refine vC (hcl _ H.reads) ?_
    rintro _ qw15 ⟨g3,cp3,rfl,H3,qg16⟩
    refine ⟨_,rfl,?_⟩
    replace qB12:=qB12.since qg16
    replace qB2:=qB2.since qg16
    replace qB5:=qB5.since qg16
    replace qB8:=qB8.since qg16
    replace H:=H.since qg16
    replace G:=G.trans (Touch.of_since qg16 c)
    have qg16_s:=qg16.size
    have H3_0:=H3.low'
    replace H3:=H3.raise (show B≤g3 by omega)
    have H3_1:=H3.lt
    clear H
    refine sB (cnCells {TC with pa:=some ⟨g3,0,none⟩,pc:=cp3}) cn_big qB8 (cn_size _) (cn_size _) (cn_one _) ?_
    intro qw17 qt18 qB19
    clear qB8
    replace qB12:=qB12.touch qt18 (by omega)
    replace qB2:=qB2.touch qt18 (by omega)
    replace qB5:=qB5.touch qt18 (by omega)
    replace H3:=H3.touch qt18 (by omega)
    replace G:=touch_any G qt18 (by omega)
    have qt18_s:=qt18.size
    refine vE #[.pointer (some ⟨c,kk,none⟩),.agg (cnCells {F1 with pa:=some ⟨g1,0,none⟩,pc:=p1}),.agg (cnCells {T1 with pa:=some ⟨q,0,none⟩,pc:=p}),undef,.pointer (some ⟨w.heap.size,0,none⟩),.pointer (some ⟨qw1.heap.size,0,none⟩),.pointer (some ⟨qw4.heap.size,0,none⟩),.pointer (some ⟨w.heap.size,18,none⟩),.bool true,.bool true,.pointer (some ⟨w.heap.size,11,none⟩),.pointer (some ⟨w.heap.size,12,none⟩),.string F1.iD,.bool true,.bool true,.pointer (some ⟨c,kk,none⟩),.pointer (some ⟨c,kk,none⟩),.pointer (some ⟨c,kk+2,none⟩),.pointer (some ⟨c,kk,none⟩),.pointer (some ⟨c,kk,none⟩),.pointer (some ⟨c,kk+2,none⟩),.bool true,.bool true,.pointer (some ⟨c,kk,none⟩),.pointer (some ⟨c,kk,none⟩),.pointer (some ⟨c,kk,none⟩),.bool true,.bool true,.agg (cnCells {T1 with pa:=some ⟨q,0,none⟩,pc:=p}),.agg (cnCells {TC with pa:=some ⟨g3,0,none⟩,pc:=cp3}),undef] ?_
    have hfin:Cdt c kk pre post qw17 #[.int .i64 r,.string d,.bool e2,.int .i64 n]:=by rw [eE.out];exact qB12
    go_wp2_with (fail)
    exact bodyPost_ret (results_cn (t:=6) rfl _ rfl qB19) rfl ⟨_,_,by rw [eT.out],H3,Or.inr (by omega),G,hfin⟩
 case inr=>
  rcases Bool.eq_false_or_eq_true e with hee|hee
  all_goals replace hee:Hid _:=hee
  case inl=>
   cases c2
   case false=>
    have eE:Hid (e2=true):=(by rw [he2.out,hgf.out];exact hee.out:e2=true)
    have eT:Hid (T2=T1):=(by rw [hT2.out,eE.out];unfold shutT;rw [← hc2.out];rfl:T2=T1)
    refine vR ?_
    refine vV (.pointer (some ⟨w.heap.size,18,none⟩)) ?_
    refine vD (.bool false) ((qB2.cell 18).trans (by show some (.bool F1.gfn:Value)=some (.bool false:Value);rw [hgf.out])) ?_
    refine vV (.bool false) ?_
    refine vS ?_
    refine vS ?_
    refine vS ?_
    refine vS ?_
    refine vV (.bool false) ?_
    refine vE #[.pointer (some ⟨c,kk,none⟩),.agg (cnCells {F1 with pa:=some ⟨g1,0,none⟩,pc:=p1}),.agg (cnCells {T1 with pa:=some ⟨q,0,none⟩,pc:=p}),undef,.pointer (some ⟨w.heap.size,0,none⟩),.pointer (some ⟨qw1.heap.size,0,none⟩),.pointer (some ⟨qw4.heap.size,0,none⟩),.pointer (some ⟨w.heap.size,18,none⟩),.bool false,.bool false,undef,undef,undef,undef,.bool false,undef,undef,undef,undef,undef,undef,undef,undef,undef,undef,undef,undef,undef,undef,undef,undef] ?_
    go_upto_region 3 with (fail)
    refine vR ?_
    refine vV (.pointer (some ⟨c,kk,none⟩)) ?_
    refine vV (.pointer (some ⟨c,kk,none⟩)) ?_
    refine vV (.pointer (some ⟨c,kk+2,none⟩)) ?_
    refine vD (.bool true) ((C.cell 2).trans (by show some (.bool e:Value)=some (.bool true:Value);rw [hee.out])) ?_
    refine vV (.bool true) ?_
    refine vV (.pointer (some ⟨c,kk,none⟩)) ?_
    refine vV (.pointer (some ⟨c,kk,none⟩)) ?_
    refine vV (.pointer (some ⟨c,kk,none⟩)) ?_
    refine vK (condEmpty r d e n c kk pre post false hc2.out.symm _ C) ?_
    intro qw10 qg11
    replace C:=C.since qg11
    replace qB2:=qB2.since qg11
    replace qB5:=qB5.since qg11
    replace qB8:=qB8.since qg11
    replace H:=H.since qg11
    replace G:=G.trans (Touch.of_since qg11 c)
    have qg11_s:=qg11.size
    refine vV (.bool false) ?_
    refine vE #[.pointer (some ⟨c,kk,none⟩),.agg (cnCells {F1 with pa:=some ⟨g1,0,none⟩,pc:=p1}),.agg (cnCells {T1 with pa:=some ⟨q,0,none⟩,pc:=p}),undef,.pointer (some ⟨w.heap.size,0,none⟩),.pointer (some ⟨qw1.heap.size,0,none⟩),.pointer (some ⟨qw4.heap.size,0,none⟩),.pointer (some ⟨w.heap.size,18,none⟩),.bool false,.bool false,undef,undef,undef,undef,.bool false,undef,undef,undef,.pointer (some ⟨c,kk,none⟩),.pointer (some ⟨c,kk,none⟩),.pointer (some ⟨c,kk+2,none⟩),.bool true,.bool true,.pointer (some ⟨c,kk,none⟩),.pointer (some ⟨c,kk,none⟩),.pointer (some ⟨c,kk,none⟩),.bool false,.bool false,undef,undef,undef] ?_
    go_upto_region 5 with (fail)
    refine vR ?_
    refine vB cn_big qB5 (cn_size _) ?_
    refine sB (cnCells {T1 with pa:=some ⟨q,0,none⟩,pc:=p}) cn_big qB8 (cn_size _) (cn_size _) (cn_one _) ?_
    intro qw12 qt13 qB14
    clear qB8
    replace C:=C.touch qt13 (by omega)
    replace qB2:=qB2.touch qt13 (by omega)
    replace qB5:=qB5.touch qt13 (by omega)
    replace H:=H.touch qt13 (by omega)
    replace G:=touch_any G qt13 (by omega)
    have qt13_s:=qt13.size
    refine vE #[.pointer (some ⟨c,kk,none⟩),.agg (cnCells {F1 with pa:=some ⟨g1,0,none⟩,pc:=p1}),.agg (cnCells {T1 with pa:=some ⟨q,0,none⟩,pc:=p}),undef,.pointer (some ⟨w.heap.size,0,none⟩),.pointer (some ⟨qw1.heap.size,0,none⟩),.pointer (some ⟨qw4.heap.size,0,none⟩),.pointer (some ⟨w.heap.size,18,none⟩),.bool false,.bool false,undef,undef,undef,undef,.bool false,undef,undef,undef,.pointer (some ⟨c,kk,none⟩),.pointer (some ⟨c,kk,none⟩),.pointer (some ⟨c,kk+2,none⟩),.bool true,.bool true,.pointer (some ⟨c,kk,none⟩),.pointer (some ⟨c,kk,none⟩),.pointer (some ⟨c,kk,none⟩),.bool false,.bool false,undef,undef,.agg (cnCells {T1 with pa:=some ⟨q,0,none⟩,pc:=p})] ?_
    have hfin:Cdt c kk pre post qw12 #[.int .i64 r,.string d,.bool e2,.int .i64 n]:=by rw [eE.out];rw [hee.out] at C;exact C
    go_wp2_with (fail)
    exact bodyPost_ret (results_cn (t:=6) rfl _ rfl qB14) rfl ⟨_,_,by rw [eT.out],H,Or.inl rfl,G,hfin⟩
   case true=>
    have eE:Hid (e2=true):=(by rw [he2.out,hgf.out];exact hee.out:e2=true)
    have eT:Hid (T2=TC):=(by rw [hT2.out,eE.out];unfold shutT;rw [← hc2.out];exact hTC.out.symm:T2=TC)
    refine vR ?_
    refine vV (.pointer (some ⟨w.heap.size,18,none⟩)) ?_
    refine vD (.bool false) ((qB2.cell 18).trans (by show some (.bool F1.gfn:Value)=some (.bool false:Value);rw [hgf.out])) ?_
    refine vV (.bool false) ?_
    refine vS ?_
    refine vS ?_
    refine vS ?_
    refine vS ?_
    refine vV (.bool false) ?_
    refine vE #[.pointer (some ⟨c,kk,none⟩),.agg (cnCells {F1 with pa:=some ⟨g1,0,none⟩,pc:=p1}),.agg (cnCells {T1 with pa:=some ⟨q,0,none⟩,pc:=p}),undef,.pointer (some ⟨w.heap.size,0,none⟩),.pointer (some ⟨qw1.heap.size,0,none⟩),.pointer (some ⟨qw4.heap.size,0,none⟩),.pointer (some ⟨w.heap.size,18,none⟩),.bool false,.bool false,undef,undef,undef,undef,.bool false,undef,undef,undef,undef,undef,undef,undef,undef,undef,undef,undef,undef,undef,undef,undef,undef] ?_
    go_upto_region 3 with (fail)
    refine vR ?_
    refine vV (.pointer (some ⟨c,kk,none⟩)) ?_
    refine vV (.pointer (some ⟨c,kk,none⟩)) ?_
    refine vV (.pointer (some ⟨c,kk+2,none⟩)) ?_
    refine vD (.bool true) ((C.cell 2).trans (by show some (.bool e:Value)=some (.bool true:Value);rw [hee.out])) ?_
    refine vV (.bool true) ?_
    refine vV (.pointer (some ⟨c,kk,none⟩)) ?_
    refine vV (.pointer (some ⟨c,kk,none⟩)) ?_
    refine vV (.pointer (some ⟨c,kk,none⟩)) ?_
    refine vK (condEmpty r d e n c kk pre post true hc2.out.symm _ C) ?_
    intro qw10 qg11
    replace C:=C.since qg11
    replace qB2:=qB2.since qg11
    replace qB5:=qB5.since qg11
    replace qB8:=qB8.since qg11
    replace H:=H.since qg11
    replace G:=G.trans (Touch.of_since qg11 c)
    have qg11_s:=qg11.size
    refine vV (.bool true) ?_
    refine vE #[.pointer (some ⟨c,kk,none⟩),.agg (cnCells {F1 with pa:=some ⟨g1,0,none⟩,pc:=p1}),.agg (cnCells {T1 with pa:=some ⟨q,0,none⟩,pc:=p}),undef,.pointer (some ⟨w.heap.size,0,none⟩),.pointer (some ⟨qw1.heap.size,0,none⟩),.pointer (some ⟨qw4.heap.size,0,none⟩),.pointer (some ⟨w.heap.size,18,none⟩),.bool false,.bool false,undef,undef,undef,undef,.bool false,undef,undef,undef,.pointer (some ⟨c,kk,none⟩),.pointer (some ⟨c,kk,none⟩),.pointer (some ⟨c,kk+2,none⟩),.bool true,.bool true,.pointer (some ⟨c,kk,none⟩),.pointer (some ⟨c,kk,none⟩),.pointer (some ⟨c,kk,none⟩),.bool true,.bool true,undef,undef,undef] ?_
    go_upto_region 4 with (fail)
    refine vR ?_
    refine vB cn_big qB5 (cn_size _) ?_
    refine vC (hcl _ H.reads) ?_
    rintro _ qw12 ⟨g3,cp3,rfl,H3,qg13⟩
    refine ⟨_,rfl,?_⟩
    replace C:=C.since qg13
    replace qB2:=qB2.since qg13
    replace qB5:=qB5.since qg13
    replace qB8:=qB8.since qg13
    replace H:=H.since qg13
    replace G:=G.trans (Touch.of_since qg13 c)
    have qg13_s:=qg13.size
    have H3_0:=H3.low'
    replace H3:=H3.raise (show B≤g3 by omega)
    have H3_1:=H3.lt
    clear H
    refine sB (cnCells {TC with pa:=some ⟨g3,0,none⟩,pc:=cp3}) cn_big qB8 (cn_size _) (cn_size _) (cn_one _) ?_
    intro qw14 qt15 qB16
    clear qB8
    replace C:=C.touch qt15 (by omega)
    replace qB2:=qB2.touch qt15 (by omega)
    replace qB5:=qB5.touch qt15 (by omega)
    replace H3:=H3.touch qt15 (by omega)
    replace G:=touch_any G qt15 (by omega)
    have qt15_s:=qt15.size
    refine vE #[.pointer (some ⟨c,kk,none⟩),.agg (cnCells {F1 with pa:=some ⟨g1,0,none⟩,pc:=p1}),.agg (cnCells {T1 with pa:=some ⟨q,0,none⟩,pc:=p}),undef,.pointer (some ⟨w.heap.size,0,none⟩),.pointer (some ⟨qw1.heap.size,0,none⟩),.pointer (some ⟨qw4.heap.size,0,none⟩),.pointer (some ⟨w.heap.size,18,none⟩),.bool false,.bool false,undef,undef,undef,undef,.bool false,undef,undef,undef,.pointer (some ⟨c,kk,none⟩),.pointer (some ⟨c,kk,none⟩),.pointer (some ⟨c,kk+2,none⟩),.bool true,.bool true,.pointer (some ⟨c,kk,none⟩),.pointer (some ⟨c,kk,none⟩),.pointer (some ⟨c,kk,none⟩),.bool true,.bool true,.agg (cnCells {T1 with pa:=some ⟨q,0,none⟩,pc:=p}),.agg (cnCells {TC with pa:=some ⟨g3,0,none⟩,pc:=cp3}),undef] ?_
    have hfin:Cdt c kk pre post qw14 #[.int .i64 r,.string d,.bool e2,.int .i64 n]:=by rw [eE.out];rw [hee.out] at C;exact C
    go_wp2_with (fail)
    exact bodyPost_ret (results_cn (t:=6) rfl _ rfl qB16) rfl ⟨_,_,by rw [eT.out],H3,Or.inr (by omega),G,hfin⟩
  case inr=>
   have eE:Hid (e2=false):=(by rw [he2.out,hgf.out];exact hee.out:e2=false)
   have eT:Hid (T2=T1):=(by rw [hT2.out,eE.out];unfold shutT;rfl:T2=T1)
   refine vR ?_
   refine vV (.pointer (some ⟨w.heap.size,18,none⟩)) ?_
   refine vD (.bool false) ((qB2.cell 18).trans (by show some (.bool F1.gfn:Value)=some (.bool false:Value);rw [hgf.out])) ?_
   refine vV (.bool false) ?_
   refine vS ?_
   refine vS ?_
   refine vS ?_
   refine vS ?_
   refine vV (.bool false) ?_
   refine vE #[.pointer (some ⟨c,kk,none⟩),.agg (cnCells {F1 with pa:=some ⟨g1,0,none⟩,pc:=p1}),.agg (cnCells {T1 with pa:=some ⟨q,0,none⟩,pc:=p}),undef,.pointer (some ⟨w.heap.size,0,none⟩),.pointer (some ⟨qw1.heap.size,0,none⟩),.pointer (some ⟨qw4.heap.size,0,none⟩),.pointer (some ⟨w.heap.size,18,none⟩),.bool false,.bool false,undef,undef,undef,undef,.bool false,undef,undef,undef,undef,undef,undef,undef,undef,undef,undef,undef,undef,undef,undef,undef,undef] ?_
   go_upto_region 3 with (fail)
   refine vR ?_
   refine vV (.pointer (some ⟨c,kk,none⟩)) ?_
   refine vV (.pointer (some ⟨c,kk,none⟩)) ?_
   refine vV (.pointer (some ⟨c,kk+2,none⟩)) ?_
   refine vD (.bool false) ((C.cell 2).trans (by show some (.bool e:Value)=some (.bool false:Value);rw [hee.out])) ?_
   refine vV (.bool false) ?_
   refine vS ?_
   refine vS ?_
   refine vS ?_
   refine vS ?_
   refine vV (.bool false) ?_
   refine vE #[.pointer (some ⟨c,kk,none⟩),.agg (cnCells {F1 with pa:=some ⟨g1,0,none⟩,pc:=p1}),.agg (cnCells {T1 with pa:=some ⟨q,0,none⟩,pc:=p}),undef,.pointer (some ⟨w.heap.size,0,none⟩),.pointer (some ⟨qw1.heap.size,0,none⟩),.pointer (some ⟨qw4.heap.size,0,none⟩),.pointer (some ⟨w.heap.size,18,none⟩),.bool false,.bool false,undef,undef,undef,undef,.bool false,undef,undef,undef,.pointer (some ⟨c,kk,none⟩),.pointer (some ⟨c,kk,none⟩),.pointer (some ⟨c,kk+2,none⟩),.bool false,.bool false,undef,undef,undef,undef,.bool false,undef,undef,undef] ?_
   go_upto_region 5 with (fail)
   refine vR ?_
   refine vB cn_big qB5 (cn_size _) ?_
   refine sB (cnCells {T1 with pa:=some ⟨q,0,none⟩,pc:=p}) cn_big qB8 (cn_size _) (cn_size _) (cn_one _) ?_
   intro qw10 qt11 qB12
   clear qB8
   replace C:=C.touch qt11 (by omega)
   replace qB2:=qB2.touch qt11 (by omega)
   replace qB5:=qB5.touch qt11 (by omega)
   replace H:=H.touch qt11 (by omega)
   replace G:=touch_any G qt11 (by omega)
   have qt11_s:=qt11.size
   refine vE #[.pointer (some ⟨c,kk,none⟩),.agg (cnCells {F1 with pa:=some ⟨g1,0,none⟩,pc:=p1}),.agg (cnCells {T1 with pa:=some ⟨q,0,none⟩,pc:=p}),undef,.pointer (some ⟨w.heap.size,0,none⟩),.pointer (some ⟨qw1.heap.size,0,none⟩),.pointer (some ⟨qw4.heap.size,0,none⟩),.pointer (some ⟨w.heap.size,18,none⟩),.bool false,.bool false,undef,undef,undef,undef,.bool false,undef,undef,undef,.pointer (some ⟨c,kk,none⟩),.pointer (some ⟨c,kk,none⟩),.pointer (some ⟨c,kk+2,none⟩),.bool false,.bool false,undef,undef,undef,undef,.bool false,undef,undef,.agg (cnCells {T1 with pa:=some ⟨q,0,none⟩,pc:=p})] ?_
   have hfin:Cdt c kk pre post qw10 #[.int .i64 r,.string d,.bool e2,.int .i64 n]:=by rw [eE.out];rw [hee.out] at C;exact C
   go_wp2_with (fail)
   exact bodyPost_ret (results_cn (t:=6) rfl _ rfl qB12) rfl ⟨_,_,by rw [eT.out],H,Or.inl rfl,G,hfin⟩

set_option maxRecDepth 20000 in
set_option maxHeartbeats 16000000 in
theorem condMove (r:Int) (d:ByteArray) (e:Bool) (n:Int) (hd:d.size≤2048) (hr:0≤r∧r≤2048) (hn:0≤n∧n≤1000000000) {F:Cn} {ps:List (Int×ByteArray)} (gF:GoodC F ps) {T:Cn} {qs:List (Int×ByteArray)} (gT:GoodC T qs) (F1:Cn) (hF1:F1=readC F ps (r - d.size)) (S1:ByteArray) (hS1:S1=readS F ps (r - d.size)) (D1:ByteArray) (hD1:d++S1=D1) (T1:Cn) (hT1:T1=writeC T qs D1) (M:Nat) (hM:M=writeM T qs D1) (D2:ByteArray) (hD2:D2=D1.extract M D1.size) (e2:Bool) (he2:e2=if F1.gfn && emp F1.iD then true else e) (T2:Cn) (hT2:T2=shutT e2 D2 T1 qs)
  (q p q2 p2 c kk:Nat) (pre post:List Value) (w:World) (C:Cdt c kk pre post w #[.int .i64 r,.string d,.bool e,.int .i64 n]) (R:Rd shP w (some ⟨q,0,none⟩) F.pn ps) (R2:∀ x,Touch c w x→Rd shP x (some ⟨q2,0,none⟩) T.pn qs) :
  Calls Tryz.prog 72 #[.pointer (some ⟨c,kk,none⟩),.agg (cnCells {F with pa:=some ⟨q,0,none⟩,pc:=p}),.agg (cnCells {T with pa:=some ⟨q2,0,none⟩,pc:=p2})] w fun x w'=>∃ g cp g2 cp2,x=.returned (.tuple #[.agg (cnCells {F1 with pa:=some ⟨g,0,none⟩,pc:=cp}),.agg (cnCells {T2 with pa:=some ⟨g2,0,none⟩,pc:=cp2})])∧Held shP w' w.heap.size g F.pn cp ps∧Held shP w' w.heap.size g2 T.pn cp2 qs∧g≠g2∧Touch c w w'∧Cdt c kk pre post w' #[.int .i64 r,.string D2,.bool e2,.int .i64 (capP n M)]:=by
 have hz1:D1.size≤1048576:=by
  have:=readS_size F ps (r - d.size)
  rw [← hD1,hS1]
  simp
  omega
 have gT1:GoodC T1 qs:=by rw [hT1];exact good_write gT _
 have pT1:T1.pn=T.pn:=by rw [hT1];exact write_pn _ _ _
 have hf:=fun wx Cx Rx=>condFill r d e n hd hr gF F1 hF1 S1 hS1 D1 hD1 q p c kk pre post wx Cx Rx
 have hp:=fun wx Cx Rx=>condPour r D1 e n hz1 hn gT T1 hT1 M hM D2 hD2 q2 p2 c kk pre post wx Cx Rx
 have he:=fun g1 p1 g4 p4 B wx Cx Hx hx=>condEnd r D2 e (capP n M) F1 T1 qs gT1 e2 he2 T2 hT2 g1 p1 g4 p4 B c kk pre post wx Cx Hx hx
 replace hF1:Hid _:=hF1
 replace hS1:Hid _:=hS1
 replace hD1:Hid _:=hD1
 replace hT1:Hid _:=hT1
 replace hM:Hid _:=hM
 replace hD2:Hid _:=hD2
 replace he2:Hid _:=he2
 replace hT2:Hid _:=hT2
 have G:=Touch.refl c w
 have hC0:=C.lt
 go_enter Tryz.func72,Tryz.ntmps72
 go_upto_region 0 with (fail)
 refine vR ?_
 refine vW (w.alloc (.cells (cnCells {F with pa:=some ⟨q,0,none⟩,pc:=p}) 50)) (.pointer (some ⟨w.heap.size,0,none⟩)) ?_
 have qB2:=Blk.new w (cnCells {F with pa:=some ⟨q,0,none⟩,pc:=p}) 50
 have qg3:=(Since.refl w).alloc (.cells (cnCells {F with pa:=some ⟨q,0,none⟩,pc:=p}) 50)
 replace C:=C.since qg3
 replace R:=R.since qg3
 replace G:=G.trans (Touch.of_since qg3 c)
 generalize w.alloc (.cells (cnCells {F with pa:=some ⟨q,0,none⟩,pc:=p}) 50)=qw1 at C R G qB2 qg3 ⊢
 have qB2_l:=qB2.lt
 have qg3_s:=qg3.size
 refine vW (qw1.alloc (.cells (cnCells {T with pa:=some ⟨q2,0,none⟩,pc:=p2}) 50)) (.pointer (some ⟨qw1.heap.size,0,none⟩)) ?_
 have qB5:=Blk.new qw1 (cnCells {T with pa:=some ⟨q2,0,none⟩,pc:=p2}) 50
 have qg6:=(Since.refl qw1).alloc (.cells (cnCells {T with pa:=some ⟨q2,0,none⟩,pc:=p2}) 50)
 replace C:=C.since qg6
 replace qB2:=qB2.since qg6
 replace R:=R.since qg6
 replace G:=G.trans (Touch.of_since qg6 c)
 generalize qw1.alloc (.cells (cnCells {T with pa:=some ⟨q2,0,none⟩,pc:=p2}) 50)=qw4 at C qB2 R G qB5 qg6 ⊢
 have qB5_l:=qB5.lt
 have qg6_s:=qg6.size
 refine vW (qw4.alloc (.cells (cnCells cnZero) 50)) (.pointer (some ⟨qw4.heap.size,0,none⟩)) ?_
 have qB8:=Blk.new qw4 (cnCells cnZero) 50
 have qg9:=(Since.refl qw4).alloc (.cells (cnCells cnZero) 50)
 replace C:=C.since qg9
 replace qB2:=qB2.since qg9
 replace qB5:=qB5.since qg9
 replace R:=R.since qg9
 replace G:=G.trans (Touch.of_since qg9 c)
 generalize qw4.alloc (.cells (cnCells cnZero) 50)=qw7 at C qB2 qB5 R G qB8 qg9 ⊢
 have qB8_l:=qB8.lt
 have qg9_s:=qg9.size
 refine vW (qw7.alloc (.cells (cnCells cnZero) 50)) (.pointer (some ⟨qw7.heap.size,0,none⟩)) ?_
 have qB11:=Blk.new qw7 (cnCells cnZero) 50
 have qg12:=(Since.refl qw7).alloc (.cells (cnCells cnZero) 50)
 replace C:=C.since qg12
 replace qB2:=qB2.since qg12
 replace qB5:=qB5.since qg12
 replace qB8:=qB8.since qg12
 replace R:=R.since qg12
 replace G:=G.trans (Touch.of_since qg12 c)
 generalize qw7.alloc (.cells (cnCells cnZero) 50)=qw10 at C qB2 qB5 qB8 R G qB11 qg12 ⊢
 have qB11_l:=qB11.lt
 have qg12_s:=qg12.size
 refine vE #[.pointer (some ⟨c,kk,none⟩),.agg (cnCells {F with pa:=some ⟨q,0,none⟩,pc:=p}),.agg (cnCells {T with pa:=some ⟨q2,0,none⟩,pc:=p2}),undef,.pointer (some ⟨w.heap.size,0,none⟩),.pointer (some ⟨qw1.heap.size,0,none⟩),.pointer (some ⟨qw4.heap.size,0,none⟩),.pointer (some ⟨qw7.heap.size,0,none⟩),undef,undef,undef,undef,undef,undef,undef,undef,undef,undef,undef] ?_
 go_upto_region 1 with (fail)
 refine vR ?_
 refine vV (.pointer (some ⟨c,kk,none⟩)) ?_
 refine vB cn_big qB2 (cn_size _) ?_
 refine vC (hf _ C R) ?_
 rintro _ qw13 ⟨g3,cp3,rfl,H3,qt14,qB15⟩
 refine ⟨_,rfl,?_⟩
 clear C
 replace qB2:=qB2.touch qt14 (by omega)
 replace qB5:=qB5.touch qt14 (by omega)
 replace qB8:=qB8.touch qt14 (by omega)
 replace qB11:=qB11.touch qt14 (by omega)
 replace G:=touch_any G qt14 (by omega)
 have qt14_s:=qt14.size
 clear R
 have H3_0:=H3.low'
 replace H3:=H3.raise (show w.heap.size≤g3 by omega)
 have H3_1:=H3.lt
 refine sB (cnCells {F1 with pa:=some ⟨g3,0,none⟩,pc:=cp3}) cn_big qB2 (cn_size _) (cn_size _) (cn_one _) ?_
 intro qw16 qt17 qB18
 clear qB2
 replace qB15:=qB15.touch qt17 (by omega)
 replace qB5:=qB5.touch qt17 (by omega)
 replace qB8:=qB8.touch qt17 (by omega)
 replace qB11:=qB11.touch qt17 (by omega)
 replace H3:=H3.touch qt17 (by omega)
 replace G:=touch_any G qt17 (by omega)
 have qt17_s:=qt17.size
 refine vE #[.pointer (some ⟨c,kk,none⟩),.agg (cnCells {F with pa:=some ⟨q,0,none⟩,pc:=p}),.agg (cnCells {T with pa:=some ⟨q2,0,none⟩,pc:=p2}),undef,.pointer (some ⟨w.heap.size,0,none⟩),.pointer (some ⟨qw1.heap.size,0,none⟩),.pointer (some ⟨qw4.heap.size,0,none⟩),.pointer (some ⟨qw7.heap.size,0,none⟩),.pointer (some ⟨c,kk,none⟩),.agg (cnCells {F with pa:=some ⟨q,0,none⟩,pc:=p}),.agg (cnCells {F1 with pa:=some ⟨g3,0,none⟩,pc:=cp3}),undef,undef,undef,undef,undef,undef,undef,undef] ?_
 go_upto_region 2 with (fail)
 refine vR ?_
 refine vV (.pointer (some ⟨c,kk,none⟩)) ?_
 refine vB cn_big qB5 (cn_size _) ?_
 refine vC (hp _ qB15 (R2 _ G)) ?_
 rintro _ qw19 ⟨g4,cp4,rfl,H4,qt20,qB21⟩
 refine ⟨_,rfl,?_⟩
 clear qB15
 replace qB18:=qB18.touch qt20 (by omega)
 replace qB5:=qB5.touch qt20 (by omega)
 replace qB8:=qB8.touch qt20 (by omega)
 replace qB11:=qB11.touch qt20 (by omega)
 replace H3:=H3.touch qt20 (by omega)
 replace G:=touch_any G qt20 (by omega)
 have qt20_s:=qt20.size
 have H4_0:=H4.low'
 replace H4:=H4.raise (show w.heap.size≤g4 by omega)
 have H4_1:=H4.lt
 refine sB (cnCells {T1 with pa:=some ⟨g4,0,none⟩,pc:=cp4}) cn_big qB5 (cn_size _) (cn_size _) (cn_one _) ?_
 intro qw22 qt23 qB24
 clear qB5
 replace qB21:=qB21.touch qt23 (by omega)
 replace qB18:=qB18.touch qt23 (by omega)
 replace qB8:=qB8.touch qt23 (by omega)
 replace qB11:=qB11.touch qt23 (by omega)
 replace H3:=H3.touch qt23 (by omega)
 replace H4:=H4.touch qt23 (by omega)
 replace G:=touch_any G qt23 (by omega)
 have qt23_s:=qt23.size
 refine vE #[.pointer (some ⟨c,kk,none⟩),.agg (cnCells {F with pa:=some ⟨q,0,none⟩,pc:=p}),.agg (cnCells {T with pa:=some ⟨q2,0,none⟩,pc:=p2}),undef,.pointer (some ⟨w.heap.size,0,none⟩),.pointer (some ⟨qw1.heap.size,0,none⟩),.pointer (some ⟨qw4.heap.size,0,none⟩),.pointer (some ⟨qw7.heap.size,0,none⟩),.pointer (some ⟨c,kk,none⟩),.agg (cnCells {F with pa:=some ⟨q,0,none⟩,pc:=p}),.agg (cnCells {F1 with pa:=some ⟨g3,0,none⟩,pc:=cp3}),.pointer (some ⟨c,kk,none⟩),.agg (cnCells {T with pa:=some ⟨q2,0,none⟩,pc:=p2}),.agg (cnCells {T1 with pa:=some ⟨g4,0,none⟩,pc:=cp4}),undef,undef,undef,undef,undef] ?_
 go_upto_region 3 with (fail)
 refine wp_region_low (Low (fun b=>b=c∨b=qw4.heap.size∨b=qw7.heap.size)) (fun i x v=>match i with
   | 0=>v=.agg (cnCells {F1 with pa:=some ⟨g3,0,none⟩,pc:=cp3})
   | 1=>v=.pointer (some ⟨c,kk,none⟩)
   | 2=>v=.agg (cnCells {F1 with pa:=some ⟨g3,0,none⟩,pc:=cp3})
   | 3=>v=.agg (cnCells {T1 with pa:=some ⟨g4,0,none⟩,pc:=cp4})
   | 4=>∃ g cp,v=.agg (cnCells {T2 with pa:=some ⟨g,0,none⟩,pc:=cp})∧Held shP x w.heap.size g T1.pn cp qs∧g≠c∧g≠qw4.heap.size∧g≠qw7.heap.size∧g≠g3
   | 5=>True
   | 6=>True
   | _=>True) (fun f vals x=>Cdt c kk pre post x (if f 4 then #[.int .i64 r,.string D2,.bool e2,.int .i64 (capP n M)] else #[.int .i64 r,.string D2,.bool e,.int .i64 (capP n M)])∧Blk w.heap.size x (cnCells {F1 with pa:=some ⟨g3,0,none⟩,pc:=cp3})∧Blk qw1.heap.size x (cnCells {T1 with pa:=some ⟨g4,0,none⟩,pc:=cp4})∧Blk qw4.heap.size x (if f 5 then (cnCells {F1 with pa:=some ⟨g3,0,none⟩,pc:=cp3}) else (cnCells cnZero))∧((f 6=false→Blk qw7.heap.size x (cnCells cnZero))∧(f 6=true→f 4=true∧∃ cs,vals 4=.agg cs∧Blk qw7.heap.size x cs))∧Held shP x w.heap.size g3 F.pn cp3 ps∧Held shP x w.heap.size g4 T.pn cp4 qs∧qw22.heap.size≤x.heap.size∧Touch c w x) (fun v=>{tmps:=#[.pointer (some ⟨c,kk,none⟩),.agg (cnCells {F with pa:=some ⟨q,0,none⟩,pc:=p}),.agg (cnCells {T with pa:=some ⟨q2,0,none⟩,pc:=p2}),undef,.pointer (some ⟨w.heap.size,0,none⟩),.pointer (some ⟨qw1.heap.size,0,none⟩),.pointer (some ⟨qw4.heap.size,0,none⟩),.pointer (some ⟨qw7.heap.size,0,none⟩),.pointer (some ⟨c,kk,none⟩),.agg (cnCells {F with pa:=some ⟨q,0,none⟩,pc:=p}),.agg (cnCells {F1 with pa:=some ⟨g3,0,none⟩,pc:=cp3}),.pointer (some ⟨c,kk,none⟩),.agg (cnCells {T with pa:=some ⟨q2,0,none⟩,pc:=p2}),.agg (cnCells {T1 with pa:=some ⟨g4,0,none⟩,pc:=cp4}),v 0,v 1,v 2,v 3,v 4],defers:=[]}) (by kernel_rfl) (by kernel_rfl) ?_ ?_ (fun vals=>by kernel_rfl) ?_ ?_
 case refine_1=>
  intro j x y v hl hv
  match j,hv with
  | 0,hv|1,hv|2,hv|3,hv=>exact hv
  | 5,hv|6,hv=>trivial
  | 4,⟨g,cp,e,H,n1,n2,n3,n4⟩=>
   obtain ⟨b,hb,t⟩:=hl
   replace hb:b=c∨b=qw4.heap.size∨b=qw7.heap.size:=hb
   exact ⟨g,cp,e,H.touch t (by omega),n1,n2,n3,n4⟩
  | n+7,_=>trivial
 case refine_2=>
  intro f vals hf
  refine ⟨(by rw [hf 4];exact qB21.since ((Since.refl _).drew)),qB18.since ((Since.refl _).drew),qB24.since ((Since.refl _).drew),(by rw [hf 5];exact qB8.since ((Since.refl _).drew)),⟨fun _=>qB11.since ((Since.refl _).drew),fun h=>by rw [hf 6] at h;cases h⟩,H3.since ((Since.refl _).drew),H4.since ((Since.refl _).drew),((Since.refl _).drew).size,G.trans (Touch.of_since ((Since.refl _).drew) c)⟩
 case refine_3=>
  repeat (first|exact eachLow_nil|refine eachLow_cons ?_ ?_)
  all_goals intro f vals x hf hr hK
  all_goals obtain ⟨k0,k1,k2,k3,k4,k5,k6,k7,k8⟩:=hK
  ·obtain ⟨fj,g,cp,ev,H,n1,n2,n3,n4⟩:=hr ⟨4,.data⟩ (by simp) rfl
   have kz:=k4.1 hf
   refine does_store cn_big (cn_size _) (Raw.of kz (cn_size _)) (cn_one _) _ _ rfl rfl ev ?_
   intro z t B
   exact ⟨Low.touch t (show qw7.heap.size=c∨qw7.heap.size=qw4.heap.size∨qw7.heap.size=qw7.heap.size by omega),⟨k0.touch t (by omega),k1.touch t (by omega),k2.touch t (by omega),k3.touch t (by omega),⟨fun h=>absurd h (by simp [andDone]),fun _=>⟨fj,_,ev,B⟩⟩,k5.touch t (by omega),k6.touch t (by omega),Nat.le_trans k7 t.size,touch_any k8 t (by omega)⟩,trivial⟩
  ·have ev:vals 0=.agg (cnCells {F1 with pa:=some ⟨g3,0,none⟩,pc:=cp3}):=(hr ⟨0,.data⟩ (by simp) rfl).2
   have kz:Blk qw4.heap.size x (cnCells cnZero):=by have:=k3;rw [hf] at this;exact this
   refine does_store cn_big (cn_size _) (Raw.of kz (cn_size _)) (cn_one _) _ _ rfl rfl ev ?_
   intro z t B
   exact ⟨Low.touch t (show qw4.heap.size=c∨qw4.heap.size=qw4.heap.size∨qw4.heap.size=qw7.heap.size by omega),⟨k0.touch t (by omega),k1.touch t (by omega),k2.touch t (by omega),B,⟨fun h=>(k4.1 h).touch t (by omega),fun h=>⟨(k4.2 h).1,by obtain ⟨cs,e,B⟩:=(k4.2 h).2;exact ⟨cs,e,B.touch t (by omega)⟩⟩⟩,k5.touch t (by omega),k6.touch t (by omega),Nat.le_trans k7 t.size,touch_any k8 t (by omega)⟩,trivial⟩
  ·skip
   have e1:vals 1=.pointer (some ⟨c,kk,none⟩):=(hr ⟨1,.data⟩ (by simp) rfl).2
   have e2:vals 2=.agg (cnCells {F1 with pa:=some ⟨g3,0,none⟩,pc:=cp3}):=(hr ⟨2,.data⟩ (by simp) rfl).2
   have e3:vals 3=.agg (cnCells {T1 with pa:=some ⟨g4,0,none⟩,pc:=cp4}):=(hr ⟨3,.data⟩ (by simp) rfl).2
   simp [does,doesUpon,go_sem,e1,e2,e3]
   have kc:Cdt c kk pre post x #[.int .i64 r,.string D2,.bool e,.int .i64 (capP n M)]:=by have:=k0;rw [hf] at this;exact this
   refine (he g3 cp3 g4 cp4 w.heap.size _ kc (by rw [pT1];exact k6) (by omega)).mono ?_
   rintro _ x' ⟨g,cp,rfl,H,hg,t,B⟩
   have xs:=t.size
   exact ⟨_,rfl,Low.touch t (show c=c∨c=qw4.heap.size∨c=qw7.heap.size by omega),⟨B,k1.touch t (by omega),k2.touch t (by omega),k3.touch t (by omega),⟨fun h=>(k4.1 h).touch t (by omega),fun h=>absurd (k4.2 h).1 (by rw [hf];decide)⟩,k5.touch t (by omega),k6.touch t (by omega),Nat.le_trans k7 t.size,touch_any k8 t (by omega)⟩,g,cp,rfl,H,by omega,by omega,by omega,by omega⟩
  ·exact does_load cn_big (cn_size _) k2 _ rfl rfl ⟨Low.since (b:=c) (Since.refl _) (Or.inl rfl),⟨k0,k1,k2,k3,⟨fun h=>(k4.1 h),fun h=>⟨(k4.2 h).1,by obtain ⟨cs,e,B⟩:=(k4.2 h).2;exact ⟨cs,e,B⟩⟩⟩,k5,k6,k7,k8⟩,rfl⟩
  ·exact does_load cn_big (cn_size _) k1 _ rfl rfl ⟨Low.since (b:=c) (Since.refl _) (Or.inl rfl),⟨k0,k1,k2,k3,⟨fun h=>(k4.1 h),fun h=>⟨(k4.2 h).1,by obtain ⟨cs,e,B⟩:=(k4.2 h).2;exact ⟨cs,e,B⟩⟩⟩,k5,k6,k7,k8⟩,rfl⟩
  ·skip
   simp [does,doesUpon,go_sem]
   exact ⟨Low.since (b:=c) (Since.refl _) (Or.inl rfl),⟨k0,k1,k2,k3,⟨fun h=>(k4.1 h),fun h=>⟨(k4.2 h).1,by obtain ⟨cs,e,B⟩:=(k4.2 h).2;exact ⟨cs,e,B⟩⟩⟩,k5,k6,k7,k8⟩⟩
  ·exact does_load cn_big (cn_size _) k1 _ rfl rfl ⟨Low.since (b:=c) (Since.refl _) (Or.inl rfl),⟨k0,k1,k2,k3,⟨fun h=>(k4.1 h),fun h=>⟨(k4.2 h).1,by obtain ⟨cs,e,B⟩:=(k4.2 h).2;exact ⟨cs,e,B⟩⟩⟩,k5,k6,k7,k8⟩,rfl⟩
 case refine_4=>
  intro f qv26 qw25 hK hf hv
  obtain ⟨k0,k1,k2,k3,k4,k5,k6,k7,k8⟩:=hK
  clear qB21 qB18 qB24 qB8 qB11 H3 H4 G
  have hv0:qv26 0=_:=hv 0 (by decide)
  have hv1:qv26 1=_:=hv 1 (by decide)
  have hv2:qv26 2=_:=hv 2 (by decide)
  have hv3:qv26 3=_:=hv 3 (by decide)
  obtain ⟨g,cp,hv4,H,n1,n2,n3,n4⟩:=hv 4 (by decide)
  clear hv
  obtain ⟨-,cs,ec,qB11⟩:=k4.2 (hf 6 (by decide))
  rw [hv4] at ec
  obtain rfl:=Value.agg.inj ec
  clear ec k4
  simp only [hv0,hv1,hv2,hv3,hv4]
  clear hv0 hv1 hv2 hv3 hv4
  have qB21:Cdt c kk pre post qw25 #[.int .i64 r,.string D2,.bool e2,.int .i64 (capP n M)]:=by have:=k0;rw [hf 4 (by decide)] at this;exact this
  clear k0
  have qB18:=k1
  clear k1
  have qB24:=k2
  clear k2
  have qB8:Blk qw4.heap.size qw25 (cnCells {F1 with pa:=some ⟨g3,0,none⟩,pc:=cp3}):=by have:=k3;rw [hf 5 (by decide)] at this;exact this
  clear k3
  have H3:=k5
  clear k5
  have H4:=k6
  clear k6
  have G:=k8
  clear k8
  have qw25_l:=qB11.lt
  have qw25_n:=k7
  clear k7
  go_wp2_with (fail)
  exact bodyPost_ret (results_22 (u:=6) (v:=7) rfl _ rfl rfl qB8 qB11) rfl ⟨_,_,_,_,rfl,H3,by rw [← pT1];exact H,by omega,G,qB21⟩
end Go.Proofs.YtnbopjlpemmkcaaGreat
