/- A part of the proof. -/
import Derived.Test.YtmigalhmlofbkaaGreatDoorMS
import Derived.Test.YtmigalhmlofbkaaGreatDoorMR
set_option linter.unusedVariables false
set_option maxRecDepth 20000
set_option maxHeartbeats 8000000
namespace Go.Proofs.YtmigalhmlofbkaaGreatDoor
open Go.ChangeShapes Go.WideShapes Go.ChangeAt Go.RowKit Go.Deep
theorem freshOut (f:Int) (d:ByteArray) (r:Int) (hd:d.size≤1048576) (w:World) :
  Calls Tryz.prog 60 #[outVal f d r] w fun e w'=>e=.returned (outVal f d r)∧Since w w':=by
 unfold outVal
 have G:Since w ((w.alloc (.cells #[.int .u32 f,.string d,.int .i64 r] 30)).alloc (.cells #[.int .u32 0,.string ⟨#[]⟩,.int .i64 0] 30)):=((Since.refl _).alloc _).alloc _
 have A:=(Blk.new w #[.int .u32 f,.string d,.int .i64 r] 30).since ((Since.refl _).alloc (.cells #[.int .u32 0,.string ⟨#[]⟩,.int .i64 0] 30))
 have B:=Blk.new (w.alloc (.cells #[.int .u32 f,.string d,.int .i64 r] 30)) #[.int .u32 0,.string ⟨#[]⟩,.int .i64 0] 30
 simp only [World.size_alloc] at A B
 go_enter Tryz.func60,Tryz.ntmps60
 go_wp2
 obtain ⟨wb,hwb⟩:∃ wb,(w.alloc (.cells #[.int .u32 f,.string d,.int .i64 r] 30)).alloc (.cells #[.int .u32 0,.string ⟨#[]⟩,.int .i64 0] 30)=wb:=⟨_,rfl⟩
 rw [hwb] at A B G ⊢
 clear hwb
 refine wp_region_tail (wb:=wb) 8 (fun i x v=>match i with
   | 0=>v=.pointer (some ⟨w.heap.size,0,none⟩)
   | 1=>v=.int .u32 f
   | 2=>v=.pointer (some ⟨w.heap.size,1,none⟩)
   | 3=>v=.string d
   | 4=>v=.string d
   | 5=>v=.pointer (some ⟨w.heap.size,2,none⟩)
   | 6=>v=.int .i64 r
   | 7=>v=.agg #[.int .u32 f,.string d,.int .i64 r]
   | _=>True) (fun v=>{tmps:=#[Value.agg #[Value.int IntKind.u32 f,Value.string d,Value.int IntKind.i64 r],Value.pointer (some ⟨w.heap.size,0,none⟩),Value.pointer (some ⟨w.heap.size+1,0,none⟩),v 0,v 1,v 2,v 3,v 4,v 5,v 6,v 7],defers:=[]}) (by kernel_rfl) (by kernel_rfl) (by kernel_rfl) (Since.refl _) ?_ (fun vals=>by kernel_rfl) ?_ ?_
 case refine_1=>
  intro j x x' v h1 h2
  match j,h2 with
  | 0,h2|1,h2|2,h2|3,h2|4,h2|5,h2|6,h2|7,h2=>exact h2
  | n+8,_=>trivial
 case refine_2=>
  repeat (first|exact eachDoes_nil|refine eachDoes_cons ?_ ?_)
  all_goals intro vals x hx hv
  all_goals simp [Region.binds] at hv
  ·simp [does,doesUpon,go_sem,hv,Since.refl]
  ·have e:=(A.since hx).cell 2
   simp at e
   simp [does,doesUpon,go_sem,hv,e,Since.refl]
  ·simp [does,doesUpon,go_sem,Since.refl]
  ·simp [does,doesUpon,go_sem,hv]
   refine (clone d hd x).mono ?_
   rintro _ x' ⟨rfl,h1⟩
   simp [h1]
  ·have e:=(A.since hx).cell 1
   simp at e
   simp [does,doesUpon,go_sem,hv,e,Since.refl]
  ·simp [does,doesUpon,go_sem,Since.refl]
  ·have e:=(A.since hx).cell 0
   simp at e
   simp [does,doesUpon,go_sem,hv,e,Since.refl]
  ·simp [does,doesUpon,go_sem,Since.refl]
 case refine_3=>
  intro vals x hx hv
  have h7:vals 7=_:=hv 7 (by decide)
  clear hv
  simp only [h7]
  have B1:=B.since hx
  have b0:=B1.cell 0
  have b1:=B1.cell 1
  have b2:=B1.cell 2
  simp at b0 b1 b2
  have z0:=B1.fz 0
  have z1:=B1.fz 1
  have z2:=B1.fz 2
  go_wp2
  refine bodyPost_ret (v:=.agg #[.int .u32 f,.string d,.int .i64 r]) ?_ rfl ⟨rfl,?_⟩
  ·simp [results,go_sem,(stored3 B1 (.int .u32 f) (.string d) (.int .i64 r)).1,(stored3 B1 (.int .u32 f) (.string d) (.int .i64 r)).2.1,(stored3 B1 (.int .u32 f) (.string d) (.int .i64 r)).2.2]
  ·exact since_put3 (G.trans hx) (by omega) _ _ _
theorem hasPlace (f:Int) (d:ByteArray) (r q m:Int) (hf:IsWord f) (hq:IsWord q) (hm:IsAhead f q m) (hd:d.size≤1048576) (w:World) :
  Calls Tryz.prog 159 #[outVal f d r,.int .u32 q] w fun e w'=>e=.returned (.bool (decide (m<(d.size:Int)+1)))∧Since w w':=by
 unfold outVal
 have hw:=fun wx=>within q f ((d.size:Int)+1) m hq hf hm wx
 generalize decide (m<(d.size:Int)+1)=b at hw
 go_enter Tryz.func159,Tryz.ntmps159
 go_wp2_with (go_at_call 157;refine (hw _).mono ?_;rintro _ _ ⟨rfl,rfl⟩)
 go_ret
 exact ⟨rfl,(Since.refl _).alloc _⟩
structure KeepJ (b:Nat) (J I:World→Prop) (x y:World):Prop where
 touch:Touch b x y
 j:J x→J y
 i:I x→I y
theorem KeepJ.refl (b:Nat) (J I:World→Prop) (x:World):KeepJ b J I x x:=⟨Touch.refl _ _,id,id⟩
theorem KeepJ.trans {b:Nat} {J I:World→Prop} (x y z:World) (h:KeepJ b J I x y) (k:KeepJ b J I y z):KeepJ b J I x z:=⟨h.touch.trans k.touch,fun q=>k.j (h.j q),fun q=>k.i (h.i q)⟩
theorem KeepJ.of_since {b:Nat} {J I:World→Prop} (hJ:∀ x y,Since x y→J x→J y) (hI:∀ x y,Since x y→I x→I y) {x y:World} (h:Since x y):KeepJ b J I x y:=⟨Touch.of_since h b,hJ x y h,hI x y h⟩
theorem wp_region_keepJ {P:Program} {id:Nat} {Q:Exit→Act→World→Prop} {a:Act} {w wb:World} {l:List Oper} (b:Nat) (J I:World→Prop) (hJ:∀ x y,Since x y→J x→J y) (hI:∀ x y,Since x y→I x→I y) (V:Nat→World→Value→Prop) (F:(Nat→Value)→Act) (hm:P.follows .mixedOrders=true) (hs:settledTo l.toArray a.tmps.size l.length=true) (htl:tailed l.toArray l.length=true) (h0:KeepJ b J I wb w)
  (hst:∀ j w w' v,KeepJ b J I w w'→V j w v→V j w' v) (hF:∀ vals,F vals=filledTo l.toArray l.length a vals) (hop:eachDoesR P (KeepJ b J I) V F wb 0 l)
  (hfin:∀ vals w,KeepJ b J I wb w→(∀ i,i<l.length→V i w (vals i))→Q .normal (F vals) w):(Code.region id l.toArray true).wp P Q a w:=by
 refine wp_region_tailR (KeepJ b J I) l.length V F hm hs htl KeepJ.trans (KeepJ.trans _ _ _ h0 (KeepJ.of_since hJ hI ((Since.refl _).drew))) hst hF (by rw [List.take_length];exact hop) fun vals w hw hv=>?_
 rw [List.drop_length]
 exact hfin vals w hw hv
def atP (c:Cn) (P:Option Addr) (q:Nat):Cn:={c with pa:=P,pc:=q}
def PartsAt (B:Nat) (c:Cn) (ps:List (Int×ByteArray)) (x:World) (P:Option Addr) (q:Nat):Prop:=P=c.pa∧q=c.pc∨∃ g,P=some ⟨g,0,none⟩∧Held shP x B g c.pn c.pn ps
theorem PartsAt.since {B:Nat} {c:Cn} {ps:List (Int×ByteArray)} {x y:World} {P:Option Addr} {q:Nat} (h:PartsAt B c ps x P q) (s:Since x y):PartsAt B c ps y P q:=by
 rcases h with h|⟨g,e,H⟩
 ·exact .inl h
 ·exact .inr ⟨g,e,H.since s⟩
theorem PartsAt.touch {B b:Nat} {c:Cn} {ps:List (Int×ByteArray)} {x y:World} {P:Option Addr} {q:Nat} (h:PartsAt B c ps x P q) (s:Touch b x y) (hb:b<B):PartsAt B c ps y P q:=by
 rcases h with h|⟨g,e,H⟩
 ·exact .inl h
 ·exact .inr ⟨g,e,H.touch s (by have:=H.low';omega)⟩
def SomeP (b B:Nat) (c:Cn) (ps:List (Int×ByteArray)) (x:World):Prop:=∃ P q,Blk b x (cnCells (atP c P q))∧PartsAt B c ps x P q
def OwnP (b B:Nat) (c:Cn) (ps:List (Int×ByteArray)) (x:World):Prop:=∃ g,Blk b x (cnCells (atP c (some ⟨g,0,none⟩) c.pn))∧Held shP x B g c.pn c.pn ps
theorem implFresh (c:Cn) (ps:List (Int×ByteArray)) (gc:GoodC c ps) (w:World) (R:Rd shP w c.pa c.pn ps) :
  Calls Tryz.prog 29 #[cnVal c] w fun e w'=>∃ g,e=.returned (cnVal {c with pa:=some ⟨g,0,none⟩,pc:=c.pn})∧Held shP w' w.heap.size g c.pn c.pn ps∧Since w w':=by
 have ho:=fun wx=>freshOut c.oF c.oD c.oR gc.hod wx
 unfold outVal at ho
 have hi:=fun P q wx Rx=>freshIn c.iN c.iD c.iR P c.pn q ps gc.gd wx Rx
 unfold inVal at hi
 unfold cnVal
 go_enter Tryz.func29,Tryz.ntmps29
 go_upto_region 1 with (fail)
 rw [cn_zero]
 have G:=((Since.refl w).alloc (.cells (cnCells c) 39)).alloc (.cells (cnCells cnZero) 39)
 have A:=(Blk.new w (cnCells c) 39).since ((Since.refl _).alloc (.cells (cnCells cnZero) 39))
 have Z:=Blk.new (w.alloc (.cells (cnCells c) 39)) (cnCells cnZero) 39
 rw [World.size_alloc] at Z
 generalize (w.alloc (.cells (cnCells c) 39)).alloc (.cells (cnCells cnZero) 39)=x0 at A Z G ⊢
 have hZ:=Z.lt
 have hJ:∀ x y,Since x y→SomeP w.heap.size x0.heap.size c ps x→SomeP w.heap.size x0.heap.size c ps y:=fun x y s ⟨P,q,B,r⟩=>⟨P,q,B.since s,r.since s⟩
 have hI:∀ x y,Since x y→OwnP w.heap.size x0.heap.size c ps x→OwnP w.heap.size x0.heap.size c ps y:=fun x y s ⟨g,B,r⟩=>⟨g,B.since s,r.since s⟩
 have hJ0:SomeP w.heap.size x0.heap.size c ps x0:=⟨c.pa,c.pc,A,.inl ⟨rfl,rfl⟩⟩
 refine wp_region_keepJ (wb:=x0) w.heap.size (SomeP w.heap.size x0.heap.size c ps) (OwnP w.heap.size x0.heap.size c ps) hJ hI (fun i x v=>match i with
  | 0=>v=.pointer (some ⟨w.heap.size,8,none⟩)
  | 1=>v=.agg #[.int .u32 c.oF,.string c.oD,.int .i64 c.oR]
  | 2=>v=.agg #[.int .u32 c.oF,.string c.oD,.int .i64 c.oR]
  | 3=>v=.pointer (some ⟨w.heap.size,11,none⟩)
  | 4=>∃ P q,v=.agg #[.int .u32 c.iN,.string c.iD,.slice P c.pn q,.int .i64 c.iR]∧PartsAt x0.heap.size c ps x P q
  | 5=>∃ g,v=.agg #[.int .u32 c.iN,.string c.iD,.slice (some ⟨g,0,none⟩) c.pn c.pn,.int .i64 c.iR]∧Held shP x x0.heap.size g c.pn c.pn ps
  | 6=>v=.pointer (some ⟨w.heap.size,8,none⟩)
  | 8=>v=.pointer (some ⟨w.heap.size,11,none⟩)
  | 9=>OwnP w.heap.size x0.heap.size c ps x
  | _=>True) (fun v=>{tmps:=#[.agg (cnCells c),.pointer (some ⟨w.heap.size,0,none⟩),.pointer (some ⟨w.heap.size+1,0,none⟩),v 0,v 1,v 2,v 3,v 4,v 5,v 6,v 8,undef],defers:=[]}) (by kernel_rfl) (by kernel_rfl) (by kernel_rfl) (KeepJ.refl _ _ _ _) ?_ (fun vals=>by kernel_rfl) ?_ ?_
 ·intro j x y v h1 h2
  match j,h2 with
  | 4,⟨P,q,e,h⟩=>exact ⟨P,q,e,h.touch h1.touch (by omega)⟩
  | 5,⟨g,e,h⟩=>exact ⟨g,e,h.touch h1.touch (by have:=h.low';omega)⟩
  | 9,h2=>exact h1.i h2
  | 0,h2|1,h2|2,h2|3,h2|6,h2|8,h2=>exact h2
  | 7,_=>trivial
  | n+10,_=>trivial
 ·repeat (first|exact eachDoesR_nil|refine eachDoesR_cons ?_ ?_)
  all_goals intro vals x hx hv
  all_goals simp [Region.binds] at hv
  ·obtain ⟨P,q,B,hP⟩:=hx.j hJ0
   obtain ⟨e8,⟨g,e5,T⟩,-⟩:=hv
   have hlow:=T.low'
   refine does_part_store (cs':=cnCells (atP c (some ⟨g,0,none⟩) c.pn)) B pIn_big _ _ rfl 11 e8 #[.int .u32 c.iN,.string c.iD,.slice (some ⟨g,0,none⟩) c.pn c.pn,.int .i64 c.iR] e5 rfl (by simp [Value.oneCell']) (by rw [cn_size];decide) rfl ?_
   intro z t B'
   have T':=T.touch t (by omega)
   exact ⟨⟨t,fun _=>⟨_,_,B',.inr ⟨g,rfl,T'⟩⟩,fun _=>⟨g,B',T'⟩⟩,⟨g,B',T'⟩⟩
  ·simp [does,doesUpon,go_sem,KeepJ.refl]
  ·obtain ⟨P,q,B,hP⟩:=hx.j hJ0
   obtain ⟨e6,e2,-⟩:=hv
   refine does_part_store (cs':=cnCells (atP c P q)) B pOut_big _ _ rfl 8 e6 #[.int .u32 c.oF,.string c.oD,.int .i64 c.oR] e2 rfl (by simp [Value.oneCell']) (by rw [cn_size];decide) rfl ?_
   intro z t B'
   refine ⟨⟨t,fun _=>⟨_,_,B',hP.touch t (by omega)⟩,?_⟩,trivial⟩
   rintro ⟨g,Bg,Hg⟩
   have e:=(B.cell 13).symm.trans (Bg.cell 13)
   have e':(Value.slice P c.pn q)=Value.slice (some ⟨g,0,none⟩) c.pn c.pn:=Option.some.inj e
   simp only [Value.slice.injEq] at e'
   obtain ⟨rfl,-,rfl⟩:=e'
   exact ⟨g,B',Hg.touch t (by have:=Hg.low';omega)⟩
  ·simp [does,doesUpon,go_sem,KeepJ.refl]
  ·obtain ⟨⟨P,q,e4,hP⟩,e2⟩:=hv
   have hR:Rd shP x P c.pn ps:=by
    rcases hP with ⟨rfl,-⟩|⟨g,rfl,H⟩
    ·exact R.since (Since.touch G hx.touch (by omega))
    ·exact H.reads
   simp [does,doesUpon,go_sem,e4]
   refine (hi P q x hR).mono ?_
   rintro _ x' ⟨g,rfl,T,h1⟩
   exact ⟨_,rfl,KeepJ.of_since hJ hI h1,g,rfl,T.raise (by have:=T.low';have:=hx.touch.size;omega)⟩
  ·obtain ⟨P,q,B,hP⟩:=hx.j hJ0
   exact does_part_load B pIn_big _ rfl 11 hv [.int .u32 c.iN,.string c.iD,.slice P c.pn q,.int .i64 c.iR] rfl (fun j v hj=>by match j,hj with|0,h=>exact h|1,h=>exact h|2,h=>exact h|3,h=>exact h|n+4,h=>exact absurd h (by simp)) ⟨KeepJ.refl _ _ _ _,P,q,rfl,hP⟩
  ·simp [does,doesUpon,go_sem,KeepJ.refl]
  ·simp [does,doesUpon,go_sem,hv]
   refine (ho x).mono ?_
   rintro _ x' ⟨rfl,h1⟩
   simp [KeepJ.of_since hJ hI h1]
  ·obtain ⟨P,q,B,hP⟩:=hx.j hJ0
   exact does_part_load B pOut_big _ rfl 8 hv [.int .u32 c.oF,.string c.oD,.int .i64 c.oR] rfl (fun j v hj=>by match j,hj with|0,h=>exact h|1,h=>exact h|2,h=>exact h|n+3,h=>exact absurd h (by simp)) ⟨KeepJ.refl _ _ _ _,rfl⟩
  ·simp [does,doesUpon,go_sem,KeepJ.refl]
 ·intro vals x hx hv
  obtain ⟨g,B,H⟩:OwnP w.heap.size x0.heap.size c ps x:=hv 9 (by decide)
  clear hv
  have G':=Since.touch G hx.touch (by omega)
  have Z':=Z.touch hx.touch (by omega)
  have hlow:=H.low'
  have hl2:=Z'.lt
  go_upto_region 2 with (fail)
  refine wp_region_lit ?_
  refine load_cn B rfl _ rfl rfl ?_
  refine store_cn Z' rfl _ _ rfl rfl rfl ?_
  intro z tz Bz
  go_wp2_with (fail)
  exact bodyPost_ret (results_cn (t:=2) rfl _ rfl Bz) rfl ⟨_,rfl,(H.touch tz (by omega)).raise (by omega),since_touch G' tz (by omega)⟩
def actCells (c:Cn) (now:Int) (sv:Value):Array Value:=#[.int .i64 c.st,.int .u32 c.iss,.int .u32 c.una,.int .u32 c.nxt,.int .u32 c.mx,.int .i64 c.wnd,.int .u32 c.wsq,.int .u32 c.wak,.int .u32 c.oF,.string c.oD,.int .i64 c.oR,.int .u32 c.iN,.string c.iD,.slice c.pa c.pn c.pc,.int .i64 c.iR,.bool c.fin,.bool c.fsn,.int .u32 c.fsq,.bool c.gfn,.bool c.rA,.int .i64 c.rS,.int .i64 c.rV,.int .i64 c.rD,.int .i64 c.cX,.int .i64 c.cT,.int .i64 c.cD,.bool c.cF,.int .u32 c.cR,.bool c.tmg,.int .u32 c.tsq,.int .i64 c.tat,.int .i64 c.agn,.int .i64 c.prb,.int .i64 c.rst,.int .i64 c.trs,.int .i64 c.why,.bool c.owe,.int .i64 now,sv]
theorem act_is (c:Cn) (now:Int) (sv:Value):actCells c now sv=cnCells c++#[.int .i64 now,sv]:=rfl
theorem act_size (c:Cn) (now:Int) (sv:Value):(actCells c now sv).size=39:=rfl
theorem act_end (c:Cn) (now:Int) (sv:Value) (j:Nat) (v:Value) (h:(cnCells c).toList[j]?=some v):(actCells c now sv)[0+j]?=some v:=by
 have hj:j<(cnCells c).toList.length:=(List.getElem?_eq_some_iff.1 h).1
 rw [act_is,Nat.zero_add,Array.getElem?_append_left (by simpa using hj)]
 simpa using h
theorem want_end {ops:Array Oper} {rest:List Oper} {o:Oper} {a:Act} {w:World} {Q:Exit→Act→World→Prop} {b:Nat} {c:Cn} {now:Int} {sv:Value} (B:Blk b w (actCells c now sv)) (hg:Region.wanted o (yielded ops a.tmps)=true) (x:Operand) (ho:o.op=.load 39 x) (hx:a.eval x=.pointer (some ⟨b,0,none⟩))
  (h:wpList Tryz.prog ops Q rest (a.put o.dst (.agg (cnCells c))) w):wpList Tryz.prog ops Q (o :: rest) a w:=
 want_part B hg cn_big x ho 0 hx (cnCells c).toList rfl (act_end c now sv) h
theorem does_end {op:Oper} {a:Act} {w:World} {R:Value→World→Prop} {b:Nat} {c:Cn} {now:Int} {sv:Value} (B:Blk b w (actCells c now sv)) (x:Operand) (ho:op.op=.load 39 x) (hx:a.eval x=.pointer (some ⟨b,0,none⟩))
  (h:R (.agg (cnCells c)) w):does Tryz.prog op a w R:=
 does_part_load B cn_big x ho 0 hx (cnCells c).toList rfl (act_end c now sv) h
structure Base (B:Nat) (w x:World):Prop where
 le:B≤w.heap.size
 below:Below B w x
theorem Base.refl {B:Nat} {w:World} (h:B≤w.heap.size):Base B w w:=⟨h,Below.refl _ _⟩
theorem Base.size {B:Nat} {w x:World} (h:Base B w x):w.heap.size≤x.heap.size:=h.below.size
theorem Base.trans {B:Nat} {w x y:World} (h:Base B w x) (s:Since x y):Base B w y:=⟨h.le,Below.trans h.below (Below.mono s (Nat.le_trans h.le h.size))⟩
theorem Base.base {B:Nat} {w x y:World} (h:Base B w x) (s:Base B x y):Base B w y:=⟨h.le,Below.trans h.below s.below⟩
theorem Base.touch {B g:Nat} {w x y:World} (h:Base B w x) (t:Touch g x y) (hg:B≤g):Base B w y:=⟨h.le,Touch.below t h.below hg (Nat.le_trans h.le h.size)⟩
theorem Base.since {w x:World} (h:Base w.heap.size w x):Since w x:=h.below
theorem Base.blk {B b:Nat} {w x:World} {cs:Array Value} (h:Base B w x) (k:Blk b w cs) (hb:b<B):Blk b x cs:=
 ⟨Nat.lt_of_lt_of_le k.lt h.size,fun i=>(Below.frozen h.below (p:=⟨b,i,none⟩) hb).trans (k.fz i),fun i=>(Below.cell h.below (p:=⟨b,i,none⟩) hb).trans (k.cell i)⟩
theorem since_base {B:Nat} {w x y:World} (h:Since w x) (k:Base B x y) (hB:w.heap.size≤B):Since w y:=Below.trans h (Below.mono k.below hB)
structure Acts (B g pg:Nat) (now:Int) (ps:List (Int×ByteArray)) (d:Cn) (gs n cap:Nat) (xs:List Sg) (w:World):Prop where
 blk:Blk g w (actCells d now (.slice (some ⟨gs,0,none⟩) n cap))
 list:Held shG w B gs n cap xs
 parts:Held shP w B pg d.pn d.pc ps
 pa:d.pa=some ⟨pg,0,none⟩
 low:B≤g
 n1:g≠gs
 n2:g≠pg
 n3:gs≠pg
def ActsX (B g pg:Nat) (now:Int) (ps:List (Int×ByteArray)) (d:Cn) (xs:List Sg) (w:World):Prop:=∃ gs n cap,Acts B g pg now ps d gs n cap xs w
theorem rd_of {w:World} {B pg:Nat} {d:Cn} {ps:List (Int×ByteArray)} (h:d.pa=some ⟨pg,0,none⟩) (P:Held shP w B pg d.pn d.pc ps):Rd shP w d.pa d.pn ps:=by
 rw [h]
 exact P.reads
end Go.Proofs.YtmigalhmlofbkaaGreatDoor
