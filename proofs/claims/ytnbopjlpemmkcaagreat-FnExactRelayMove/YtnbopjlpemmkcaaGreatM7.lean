/-
  strings.Clone gives the same bytes: the library's contract of internal/stringslite.Clone, laid at this program's own numbers.
  Contract of impl's freshIn.
-/
import Derived.Test.YtnbopjlpemmkcaaGreatM1
import Derived.Shelf.Pu.Clone
import Derived.Test.YtnbopjlpemmkcaaGreatM24
import Derived.Test.YtnbopjlpemmkcaaGreatM3
namespace Go.Proofs.YtnbopjlpemmkcaaGreat
open Go.ChangeShapes Go.WideShapes Go.ChangeAt Go.RowKit Go.Shelf
set_option linter.unusedVariables false
set_option maxRecDepth 10000

def cloneRen:Ren:=⟨fun _=>100,fun x=>if x=3 then 3 else if x=4 then 4 else if x=5 then 5 else if x=9 then 9 else if x=37 then 127 else if x=47 then 165 else 0,fun x=>x⟩

theorem cloneLays:LaysPu.n25 Tryz.prog cloneRen:=
 {mixed:=by kernel_rfl,f25:=by kernel_rfl,
  t0:=by kernel_rfl,
  a0:=fun _=>by kernel_rfl,
  z0:=fun _=>by kernel_rfl,
  v0:=fun _=>by kernel_rfl,
  i0:=by kernel_rfl,
  t3:=by kernel_rfl,
  a3:=fun _=>by kernel_rfl,
  z3:=fun _=>by kernel_rfl,
  v3:=fun _=>by kernel_rfl,
  i3:=by kernel_rfl,
  t4:=by kernel_rfl,
  a4:=fun _=>by kernel_rfl,
  z4:=fun _=>by kernel_rfl,
  v4:=fun _=>by kernel_rfl,
  i4:=by kernel_rfl,
  t5:=by kernel_rfl,
  a5:=fun _=>by kernel_rfl,
  z5:=fun _=>by kernel_rfl,
  v5:=fun _=>by kernel_rfl,
  i5:=by kernel_rfl,
  t9:=by kernel_rfl,
  a9:=fun _=>by kernel_rfl,
  z9:=fun _=>by kernel_rfl,
  v9:=fun _=>by kernel_rfl,
  i9:=by kernel_rfl,
  t37:=by kernel_rfl,
  a37:=fun _=>by kernel_rfl,
  z37:=fun _=>by kernel_rfl,
  v37:=fun _=>by kernel_rfl,
  i37:=by kernel_rfl,
  t47:=by kernel_rfl,
  a47:=fun _=>by kernel_rfl,
  z47:=fun _=>by kernel_rfl,
  v47:=fun _=>by kernel_rfl,
  i47:=by kernel_rfl}

theorem clone (s:ByteArray) (h:s.size≤1048576) (w:World) :
  Calls Tryz.prog 83 #[.string s] w fun e w'=>e=.returned (.string s)∧Since w w':=by
 have hc:∀ wx,Calls Tryz.prog 100 #[.string s] wx fun e w'=>e=.returned (.string s)∧Below wx.heap.size wx w':=fun wx=>AnyPu.stringslite_Clone cloneLays s wx (by omega)
 go_enter Tryz.func83,Tryz.ntmps83
 go_wp2_with (go_at_call 100;refine (hc _).mono ?_;rintro _ w1 ⟨rfl,g1⟩)
 go_ret
 exact ⟨rfl,g1⟩
end Go.Proofs.YtnbopjlpemmkcaaGreat

namespace Go.Proofs.YtnbopjlpemmkcaaGreat
open Go.ChangeShapes Go.WideShapes Go.ChangeAt Go.RowKit Go.Deep
set_option linter.unusedVariables false
set_option maxRecDepth 10000
set_option maxRecDepth 10000

set_option maxHeartbeats 2000000 in
theorem freshIn (q:Int) (d:ByteArray) (r:Int) (a:Option Addr) (n cap:Nat) (ps:List (Int×ByteArray)) (gd:Good q d r n ps) (w:World) (R:Rd shP w a n ps) :
  Calls Tryz.prog 85 #[inVal q d (.slice a n cap) r] w fun e w'=>∃ g,e=.returned (inVal q d (.slice (some ⟨g,0,none⟩) n n) r)∧Held shP w' w.heap.size g n n ps∧Since w w':=by
 obtain ⟨ii,hi,hz0,hz1,hz2⟩:=info_parts info_P
 obtain ⟨hq,hd,hr,hn,hp⟩:=gd
 have hlen:=R.len
 unfold inVal
 have G:Since w ((w.alloc (.cells #[.int .u32 q,.string d,.slice a n cap,.int .i64 r] 46)).alloc (.cells #[.int .u32 0,.string ⟨#[]⟩,.slice none 0 0,.int .i64 0] 46)):=((Since.refl _).alloc _).alloc _
 have A:=(Blk.new w #[.int .u32 q,.string d,.slice a n cap,.int .i64 r] 46).since ((Since.refl _).alloc (.cells #[.int .u32 0,.string ⟨#[]⟩,.slice none 0 0,.int .i64 0] 46))
 have B:=Blk.new (w.alloc (.cells #[.int .u32 q,.string d,.slice a n cap,.int .i64 r] 46)) #[.int .u32 0,.string ⟨#[]⟩,.slice none 0 0,.int .i64 0] 46
 simp only [World.size_alloc] at A B
 go_enter Tryz.func85,Tryz.ntmps85
 go_wp2_with (refine wpList_make_full _ rfl _ _ 44 rfl (w.heap.size+2) 131 ii (.agg #[.int .u32 0,.string ByteArray.empty]) 2 Tryz.underlying44 hi hz0 hz1 .i64 .i64 _ _ n rfl rfl rfl rfl ?c1 ?c2 ?c3 ?_)
 case c1=>rw [hz2];omega
 case c2=>unfold maxLen;omega
 case c3=>simp
 intro w1 hown hgrow
 have T0:=made_prt hown
 have S1:Since ((w.alloc (.cells #[.int .u32 q,.string d,.slice a n cap,.int .i64 r] 46)).alloc (.cells #[.int .u32 0,.string ⟨#[]⟩,.slice none 0 0,.int .i64 0] 46)) w1:=⟨hgrow.os,hgrow.tape,hgrow.output,hgrow.size,fun k hk=>hgrow.block k hk (by simp)⟩
 have A1:=A.since S1
 have c2:=A1.cell 2
 simp at c2
 try simp only [World.size_alloc] at T0
 try simp only [World.size_alloc]
 generalize hg:w.heap.size+1+1=g at T0 ⊢
 go_wp2
 go_loopw [13] (fun i wr=>∃ (k:Nat),k≤n∧i=.int .i64 k∧Held shP wr (w.heap.size+2) g n n (ps.take k++List.replicate (n - k) (0,ByteArray.empty))∧Since ((w.alloc (.cells #[.int .u32 q,.string d,.slice a n cap,.int .i64 r] 46)).alloc (.cells #[.int .u32 0,.string ⟨#[]⟩,.slice none 0 0,.int .i64 0] 46)) wr) (fun i _=>n - (intOf i).toNat)
 case atStart=>exact ⟨0,by omega,rfl,by simpa using T0.raise (B':=w.heap.size+2) (by omega),S1⟩
 case round=>
  obtain ⟨k,hk,rfl,T,S⟩:=hrel
  have A2:=A.since S
  have B2:=B.since S
  clear c2 A1 hown T0
  by_cases hlt:k<n
  ·have hlt':(k:Int)<(n:Int):=by omega
   obtain ⟨x,rfl,hb,p0,p1⟩:=(R.since (G.trans S)).prt k hlt
   obtain ⟨hp1,hp2⟩:=hp k hlt
   have hset:=shP.take_set ps n k R.len hlt
   rw [show shP.get ps k=((pAt ps k).1,(pAt ps k).2) from rfl,show shP.z=(0,ByteArray.empty) from rfl] at hset
   generalize pAt ps k=O at p0 p1 hp1 hp2 hset
   replace hset:Hid _:=hset
   have X:=Blk.new wr #[.int .u32 O.1,.string O.2] 131
   have SY:=S.alloc (.cells #[.int .u32 O.1,.string O.2] 131)
   have TY:=T.since ((Since.refl wr).alloc (.cells #[.int .u32 O.1,.string O.2] 131))
   have hgw:=T.lt
   go_wp2
   obtain ⟨Y,hY⟩:∃ Y,wr.alloc (.cells #[.int .u32 O.1,.string O.2] 131)=Y:=⟨_,rfl⟩
   rw [hY] at X SY TY ⊢
   clear hY p0 p1 hp R
   refine wp_region_tail (wb:=Y) 8 (fun i x v=>match i with
     | 0=>v=.slice (some ⟨g,0,none⟩) n n
     | 1=>v=.int .i64 k
     | 2=>v=.pointer (some ⟨wr.heap.size,0,none⟩)
     | 3=>v=.int .u32 O.1
     | 4=>v=.pointer (some ⟨wr.heap.size,1,none⟩)
     | 5=>v=.string O.2
     | 6=>v=.string O.2
     | 7=>v=.agg #[.int .u32 O.1,.string O.2]
     | _=>True) (fun v=>{tmps:=#[Value.agg #[Value.int IntKind.u32 q,Value.string d,Value.slice (some x) n cap,Value.int IntKind.i64 r],Value.pointer (some ⟨w.heap.size,0,none⟩),Value.pointer (some ⟨w.heap.size+1,0,none⟩),Value.slice (some ⟨g,0,none⟩) n n,Value.int IntKind.i64 (k:Int),Value.pointer (some ⟨wr.heap.size,0,none⟩),Value.pointer (some ⟨w.heap.size,2,none⟩),Value.slice (some x) n cap,Value.int IntKind.i64 (n:Int),Value.slice (some ⟨g,0,none⟩) n n,Value.pointer (some ⟨w.heap.size,2,none⟩),Value.slice (some x) n cap,Value.int IntKind.i64 (n:Int),Value.int IntKind.i64 (k:Int),Value.bool true,Value.int IntKind.i64 (k:Int),Value.pointer (some (x.add (k*2))),Value.agg #[Value.int IntKind.u32 O.fst,Value.string O.snd],v 0,v 1,v 2,v 3,v 4,v 5,v 6,v 7,u26,u27,undef,undef,undef,undef,undef,undef,undef,undef,undef],defers:=[]}) (by kernel_rfl) (by kernel_rfl) (by kernel_rfl) (Since.refl _) ?_ (fun vals=>by kernel_rfl) ?_ ?_
   case refine_1=>
    intro j x x' v h1 h2
    match j,h2 with
    | 0,h2|1,h2|2,h2|3,h2|4,h2|5,h2|6,h2|7,h2=>exact h2
    | n+8,_=>trivial
   case refine_2=>
    repeat (first|exact eachDoes_nil|refine eachDoes_cons ?_ ?_)
    all_goals intro vals x hx hv
    all_goals simp [Region.binds] at hv
    ·simp [does,doesUpon,go_sem,hv,Since.refl]
    ·simp [does,doesUpon,go_sem,hv]
     refine (clone O.2 hp2 x).mono ?_
     rintro _ x' ⟨rfl,h1⟩
     simp [h1]
    ·have e1:=(X.since hx).cell 1
     simp at e1
     simp [does,doesUpon,go_sem,hv,e1,Since.refl]
    ·simp [does,doesUpon,go_sem,Since.refl]
    ·have e0:=(X.since hx).cell 0
     simp at e0
     simp [does,doesUpon,go_sem,hv,e0,Since.refl]
    ·simp [does,doesUpon,go_sem,Since.refl]
    ·simp [does,doesUpon,go_sem,Since.refl]
    ·simp [does,doesUpon,go_sem,Since.refl]
   case refine_3=>
    intro vals x hx hv
    have h0:vals 0=_:=hv 0 (by decide)
    have h1:vals 1=_:=hv 1 (by decide)
    have h7:vals 7=_:=hv 7 (by decide)
    clear hv
    simp only [h0,h1,h7]
    have T2:=TY.since hx
    obtain ⟨d0,d1⟩:=T2.prt k hlt
    have f0:=T2.free (k*2)
    have f1:=T2.free (k*2+1)
    have hT:=T2.setP k hlt O.1 O.2
    rw [hset.out] at hT
    generalize vals 2=v2
    generalize vals 3=v3
    generalize vals 4=v4
    generalize vals 5=v5
    generalize vals 6=v6
    have hgl:=T2.low'
    go_wp2
    go_roundw
    case rel=>exact ⟨k+1,by omega,by go_num,hT,since_put1 (since_put1 (SY.trans hx) (by simp;omega) _ _) (by simp;omega) _ _⟩
    case measure=>simp [intOf];omega
  ·have hkn:k=n:=by omega
   have e:ps.take k++List.replicate (n - k) ((0,ByteArray.empty):Int×ByteArray)=ps:=by rw [hkn];simp [List.take_of_length_le (Nat.le_of_eq hlen)]
   rw [e] at T
   clear hp R e
   go_wp2
   refine wp_region_tail (wb:=wr) 9 (fun i x v=>match i with
     | 0=>v=.pointer (some ⟨w.heap.size,0,none⟩)
     | 1=>v=.int .u32 q
     | 2=>v=.pointer (some ⟨w.heap.size,1,none⟩)
     | 3=>v=.string d
     | 4=>v=.string d
     | 5=>v=.slice (some ⟨g,0,none⟩) n n
     | 6=>v=.pointer (some ⟨w.heap.size,3,none⟩)
     | 7=>v=.int .i64 r
     | 8=>v=.agg #[.int .u32 q,.string d,.slice (some ⟨g,0,none⟩) n n,.int .i64 r]
     | _=>True) (fun v=>{tmps:=#[Value.agg #[Value.int IntKind.u32 q,Value.string d,Value.slice a n cap,Value.int IntKind.i64 r],Value.pointer (some ⟨w.heap.size,0,none⟩),Value.pointer (some ⟨w.heap.size+1,0,none⟩),Value.slice (some ⟨g,0,none⟩) n n,u4,u5,Value.pointer (some ⟨w.heap.size,2,none⟩),Value.slice a n cap,Value.int IntKind.i64 (n:Int),Value.slice (some ⟨g,0,none⟩) n n,Value.pointer (some ⟨w.heap.size,2,none⟩),Value.slice a n cap,Value.int IntKind.i64 (n:Int),Value.int IntKind.i64 (k:Int),Value.bool false,u15,u16,u17,u18,u19,u20,u21,u22,u23,u24,u25,u26,u27,v 0,v 1,v 2,v 3,v 4,v 5,v 6,v 7,v 8],defers:=[]}) (by kernel_rfl) (by kernel_rfl) (by kernel_rfl) (Since.refl _) ?_ (fun vals=>by kernel_rfl) ?_ ?_
   case refine_1=>
    intro j x x' v h1 h2
    match j,h2 with
    | 0,h2|1,h2|2,h2|3,h2|4,h2|5,h2|6,h2|7,h2|8,h2=>exact h2
    | n+9,_=>trivial
   case refine_2=>
    repeat (first|exact eachDoes_nil|refine eachDoes_cons ?_ ?_)
    all_goals intro vals x hx hv
    all_goals simp [Region.binds] at hv
    ·simp [does,doesUpon,go_sem,hv,Since.refl]
    ·have e3:=(A2.since hx).cell 3
     simp at e3
     simp [does,doesUpon,go_sem,hv,e3,Since.refl]
    ·simp [does,doesUpon,go_sem,Since.refl]
    ·simp [does,doesUpon,go_sem,Since.refl]
    ·simp [does,doesUpon,go_sem,hv]
     refine (clone d hd x).mono ?_
     rintro _ x' ⟨rfl,h1⟩
     simp [h1]
    ·have e1:=(A2.since hx).cell 1
     simp at e1
     simp [does,doesUpon,go_sem,hv,e1,Since.refl]
    ·simp [does,doesUpon,go_sem,Since.refl]
    ·have e0:=(A2.since hx).cell 0
     simp at e0
     simp [does,doesUpon,go_sem,hv,e0,Since.refl]
    ·simp [does,doesUpon,go_sem,Since.refl]
   case refine_3=>
    intro vals x hx hv
    have h8:vals 8=_:=hv 8 (by decide)
    clear hv
    simp only [h8]
    generalize vals 0=v0
    generalize vals 1=v1
    generalize vals 2=v2
    generalize vals 3=v3
    generalize vals 4=v4
    generalize vals 5=v5
    generalize vals 6=v6
    generalize vals 7=v7
    have B3:=B2.since hx
    have b0:=B3.cell 0
    have b1:=B3.cell 1
    have b2:=B3.cell 2
    have b3:=B3.cell 3
    simp at b0 b1 b2 b3
    have z0:=B3.fz 0
    have z1:=B3.fz 1
    have z2:=B3.fz 2
    have z3:=B3.fz 3
    have B4:=(((B3.put 0 (.int .u32 q) (by simp)).put 1 (.string d) (by simp)).put 2 (.slice (some ⟨g,0,none⟩) n n) (by simp)).put 3 (.int .i64 r) (by simp)
    have y0:=B4.cell 0
    have y1:=B4.cell 1
    have y2:=B4.cell 2
    have y3:=B4.cell 3
    simp at y0 y1 y2 y3
    have T2:=T.since hx
    have hgl:=T2.low'
    go_wp2
    refine bodyPost_ret (v:=.agg #[.int .u32 q,.string d,.slice (some ⟨g,0,none⟩) n n,.int .i64 r]) ?_ rfl ⟨g,rfl,?_,?_⟩
    ·simp [results,go_sem,y0,y1,y2,y3]
    ·exact ((((T2.other (by omega) _ _).other (by omega) _ _).other (by omega) _ _).other (by omega) _ _).raise (by omega)
    ·exact since_put1 (since_put1 (since_put1 (since_put1 (G.trans (S.trans hx)) (by omega) _ _) (by omega) _ _) (by omega) _ _) (by omega) _ _
end Go.Proofs.YtnbopjlpemmkcaaGreat
