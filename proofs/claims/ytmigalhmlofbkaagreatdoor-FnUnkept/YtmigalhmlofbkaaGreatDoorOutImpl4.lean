/- A part of the proof. -/
import Derived.Test.YtmigalhmlofbkaaGreatDoorM22
set_option linter.unusedVariables false
set_option maxRecDepth 10000
namespace Go.Proofs.YtmigalhmlofbkaaGreatDoor
open Go.ChangeShapes Go.WideShapes Go.ChangeAt Go.RowKit Go.Deep
theorem implOutDone (f:Int) (d:ByteArray) (r q at':Int) (hf:IsWord f) (hq:IsWord q) (ha:IsDist f q at') (hd:d.size≤1048576) (w:World) :
  Calls Tryz.prog 137 #[outVal f d r,.int .u32 q] w fun e w'=>e=.returned (.tuple #[outVal (doneF f d r q at') (doneD d r at') r,.int .i64 (doneN d r at')])∧Since w w':=by
 have ho:=fun wx=>implOutOk f d r wx
 have hfr:=fun wx=>freshOut f d r hd wx
 have hdist:=fun wx=>implDist f q at' hf hq ha wx
 obtain ⟨mm,hm⟩:=isAhead_ex f q
 have hpl:=fun wx=>hasPlace f d r q mm hf hq hm hd wx
 rw [place_dist f q mm at' d.size hm ha hd] at hpl
 clear hm
 have G:Since w ((w.alloc (.cells #[.int .u32 f,.string d,.int .i64 r] 30)).alloc (.cells #[.int .u32 0,.string ⟨#[]⟩,.int .i64 0] 30)):=((Since.refl _).alloc _).alloc _
 have A:=(Blk.new w #[.int .u32 f,.string d,.int .i64 r] 30).since ((Since.refl _).alloc (.cells #[.int .u32 0,.string ⟨#[]⟩,.int .i64 0] 30))
 have B:=Blk.new (w.alloc (.cells #[.int .u32 f,.string d,.int .i64 r] 30)) #[.int .u32 0,.string ⟨#[]⟩,.int .i64 0] 30
 simp only [World.size_alloc] at A B
 unfold doneF doneD doneN
 cases hk:outOk d r
 ·rw [if_neg (by unfold doneOk;simp [hk]),if_neg (by unfold doneOk;simp [hk]),if_neg (by unfold doneOk;simp [hk])]
  rw [hk] at ho
  unfold outVal at *
  go_enter Tryz.func137,Tryz.ntmps137
  go_wp2_with (first|(go_at_call 77;refine (ho _).mono ?_;rintro _ w1 ⟨rfl,g1⟩;replace G:=G.trans g1;replace A:=A.since g1;replace B:=B.since g1;have a0:=A.cell 0;have a1:=A.cell 1;have a2:=A.cell 2;simp at a0 a1 a2)|(go_at_call 60;refine (hfr _).mono ?_;rintro _ w2 ⟨rfl,g2⟩;replace G:=G.trans g2;replace B:=B.since g2;have b0:=B.cell 0;have b1:=B.cell 1;have b2:=B.cell 2;simp at b0 b1 b2;have z0:=B.fz 0;have z1:=B.fz 1;have z2:=B.fz 2))
  refine bodyPost_ret (v:=.tuple #[.agg #[.int .u32 f,.string d,.int .i64 r],.int .i64 0]) ?_ rfl ⟨rfl,?_⟩
  ·simp [results,go_sem,(stored3 B (.int .u32 f) (.string d) (.int .i64 r)).1,(stored3 B (.int .u32 f) (.string d) (.int .i64 r)).2.1,(stored3 B (.int .u32 f) (.string d) (.int .i64 r)).2.2]
  ·exact since_put3 G (by omega) _ _ _
 ·rw [hk] at ho
  obtain ⟨h1,h2,h3⟩:=(outOk_iff d r).1 hk
  by_cases c2:0≤at'∧at'≤d.size
  ·have hDn:doneOk d r at':=⟨hk,c2⟩
   rw [if_pos hDn,if_pos hDn,if_pos hDn]
   rw [show decide (0≤at'∧at'≤(d.size:Int))=true by simp;omega] at hpl
   obtain ⟨m,rfl⟩:=Int.eq_ofNat_of_zero_le (show 0≤r by omega)
   obtain ⟨k,rfl⟩:=Int.eq_ofNat_of_zero_le c2.1
   obtain ⟨_,c3⟩:=c2
   rw [show ((k:Nat):Int).toNat=k by omega]
   have hri:=fun wx=>ringOf f d m hf (by omega) (by omega) (by omega) wx
   have hD:textOf (fun j=>byteAt d (k+j)) (d.size - k)=d.extract k d.size:=textOf_is _ _ _ (by rw [ByteArray.size_extract];omega) fun i hi=>(bt_cut d k d.size i (by omega) (by omega)).symm
   replace hD:Hid _:=hD
   clear hDn hk ha hfr
   unfold outVal at *
   go_enter Tryz.func137,Tryz.ntmps137
   go_wp2_with (first|(go_at_call 77;refine (ho _).mono ?_;rintro _ w1 ⟨rfl,g1⟩;replace G:=G.trans g1;replace A:=A.since g1;replace B:=B.since g1;have a0:=A.cell 0;have a1:=A.cell 1;have a2:=A.cell 2;simp at a0 a1 a2)|(go_at_call 159;refine (hpl _).mono ?_;rintro _ w4 ⟨rfl,g4⟩;replace G:=G.trans g4;replace A:=A.since g4;replace B:=B.since g4;have a0:=A.cell 0;have a1:=A.cell 1;have a2:=A.cell 2;simp at a0 a1 a2) )
   refine (hri _).mono ?_
   rintro _ w3 ⟨rg,c,f3,fi,rfl,hr1,hc1,R3,hf3,g3⟩
   have hlow:=G.le
   have hAB:=B.lt
   replace hf3:Hid _:=hf3
   replace a0:=(A.since g3).cell 0
   simp at a0
   clear a1 a2
   go_wp2_with (go_at_call 90;refine (hdist _).mono ?_;rintro _ _ ⟨rfl,rfl⟩)
   refine (ringDrop rg c m fi d.size f3 k (by omega) _ R3 w4.heap.size hr1).mono ?_
   rintro _ w5 ⟨rfl,hB5,R5⟩
   have S5:Since w4 w5:=Below.trans g3 hB5
   replace A:=A.since S5
   replace B:=B.since S5
   replace G:=G.trans S5
   have hs5:=S5.le
   clear a0
   go_wp2_with (fail)
   refine wp_region_keep (wb:=w5) (w.heap.size+1) #[.int .u32 q,.string (d.extract k d.size),.int .i64 m] (fun i x v=>match i with
     | 0=>v=.int .u32 q
     | 1=>v=.pointer (some ⟨rg,0,none⟩)
     | 2=>∃ b,(∃ cap,v=.slice (some ⟨b,0,none⟩) (d.size - k) cap)∧w.heap.size+1<b∧∀ j,j<d.size - k→x.cell? ⟨b,j,none⟩=some (.int .u8 (byteAt d (k+j)))
     | 3=>v=.string (d.extract k d.size)
     | 4=>v=.pointer (some ⟨w.heap.size,2,none⟩)
     | 5=>v=.int .i64 m
     | 6=>v=.agg #[.int .u32 q,.string (d.extract k d.size),.int .i64 m]
     | 7=>v=.int .i64 k
     | 8=>Blk (w.heap.size+1) x #[.int .u32 q,.string (d.extract k d.size),.int .i64 m]
     | 9=>v=.int .i64 k
     | _=>True) (fun v=>{tmps:=#[Value.agg #[Value.int IntKind.u32 f,Value.string d,Value.int IntKind.i64 (m:Int)],Value.int IntKind.u32 q,Value.pointer (some ⟨w.heap.size,0,none⟩),undef,Value.pointer (some ⟨w.heap.size+1,0,none⟩),v 9,Value.pointer (some ⟨rg,0,none⟩),Value.int IntKind.i64 (k:Int),Value.agg #[Value.int IntKind.u32 f,Value.string d,Value.int IntKind.i64 (m:Int)],Value.bool true,Value.bool false,Value.bool false,Value.agg #[Value.int IntKind.u32 f,Value.string d,Value.int IntKind.i64 (m:Int)],Value.int IntKind.u32 q,Value.bool true,Value.bool false,Value.bool false,undef,undef,Value.agg #[Value.int IntKind.u32 f,Value.string d,Value.int IntKind.i64 (m:Int)],Value.pointer (some ⟨rg,0,none⟩),Value.pointer (some ⟨w.heap.size,0,none⟩),Value.int IntKind.u32 f,Value.int IntKind.u32 q,Value.int IntKind.i64 (k:Int),Value.pointer (some ⟨rg,0,none⟩),Value.int IntKind.i64 (k:Int),Value.tuple #[],v 0,v 1,v 2,v 3,v 4,v 5,v 6,v 7],defers:=[]}) (by kernel_rfl) (by kernel_rfl) (by kernel_rfl) (KeepB.refl _ _ _) ?_ (fun vals=>by kernel_rfl) ?_ ?_
   case refine_1=>
    intro j x x' v h1 h2
    match j,h2 with
    | 2,h2=>
     obtain ⟨b,e,hlb,hc⟩:=h2
     exact ⟨b,e,hlb,fun j hj=>(h1.touch.cell (p:=⟨b,j,none⟩) (show b≠w.heap.size+1 by omega) (World.block_lt_of_cell? _ _ (hc j hj))).trans (hc j hj)⟩
    | 8,h2=>
     exact h1.done h2
    | 0,h2|1,h2|3,h2|4,h2|5,h2|6,h2|7,h2|9,h2=>exact h2
    | n+10,_=>trivial
   case refine_2=>
    repeat (first|exact eachDoesR_nil|refine eachDoesR_cons ?_ ?_)
    all_goals intro vals x hx hv
    all_goals simp [Region.binds] at hv
    ·simp [does,doesUpon,go_sem,hv,KeepB.refl]
    ·have hraw:Raw (w.heap.size+1) 3 x:=hx.raw (show Raw (w.heap.size+1) 3 _ from ⟨_,rfl,B⟩)
     obtain ⟨u0,e0⟩:=hraw.cell 0 (by decide)
     obtain ⟨u1,e1⟩:=hraw.cell 1 (by decide)
     obtain ⟨u2,e2⟩:=hraw.cell 2 (by decide)
     have z0:=hraw.fz 0
     have z1:=hraw.fz 1
     have z2:=hraw.fz 2
     simp [does,doesUpon,go_sem,hv,e0,e1,e2,z0,z1,z2]
     exact hraw.store3 _ _ _
    ·simp [does,doesUpon,go_sem,KeepB.refl]
    ·simp [does,doesUpon,go_sem,hv,KeepB.refl]
    ·have e:=(A.touch hx.touch (by omega)).cell 2
     simp at e
     simp [does,doesUpon,go_sem,hv,e,KeepB.refl]
    ·simp [does,doesUpon,go_sem,KeepB.refl]
    ·obtain ⟨b,⟨cap,e⟩,hlb,hc⟩:=hv
     have hb:=bytesBack (fun j=>byteAt d (k+j)) (d.size - k) cap b x hc
     rw [hD.out] at hb
     simp [does,doesUpon,go_sem,e,hb,KeepB.refl]
    ·simp [does,doesUpon,go_sem,hv]
     refine (ringAll rg c m ((fi+k) % m) (d.size - k) f3 x (R5.touch hx.touch (by omega) (by omega))).mono ?_
     rintro _ x' ⟨b,cap,rfl,hc,hlb,h1⟩
     exact ⟨_,rfl,KeepB.of_since h1,b,⟨cap,rfl⟩,by have:=hx.touch.size;omega,fun j hj=>by rw [hc j hj,Nat.mod_add_mod,Nat.add_assoc,hf3.out (k+j) (by omega)]⟩
    ·simp [does,doesUpon,go_sem,KeepB.refl]
    ·simp [does,doesUpon,go_sem,KeepB.refl]
   case refine_3=>
    intro vals x hx hv
    have hst:=hv 8 (by decide)
    have hl:vals 9=_:=hv 9 (by decide)
    clear hv
    have b0:=hst.cell 0
    have b1:=hst.cell 1
    have b2:=hst.cell 2
    simp at b0 b1 b2
    replace hst:Hid _:=hst
    simp only [hl]
    go_wp2
    refine bodyPost_ret (v:=.tuple #[.agg #[.int .u32 q,.string (d.extract k d.size),.int .i64 m],.int .i64 k]) ?_ rfl ⟨rfl,?_⟩
    ·simp [results,go_sem,b0,b1,b2]
    ·exact KeepB.since G hx (by omega)
  ·have hDn:¬ doneOk d r at':=fun h=>c2 h.2
   rw [if_neg hDn,if_neg hDn,if_neg hDn]
   rw [show decide (0≤at'∧at'≤(d.size:Int))=false by simp;omega] at hpl
   clear c2 hDn ha
   unfold outVal at *
   go_enter Tryz.func137,Tryz.ntmps137
   go_wp2_with (first|(go_at_call 77;refine (ho _).mono ?_;rintro _ w1 ⟨rfl,g1⟩;replace G:=G.trans g1;replace A:=A.since g1;replace B:=B.since g1;have a0:=A.cell 0;have a1:=A.cell 1;have a2:=A.cell 2;simp at a0 a1 a2)|(go_at_call 159;refine (hpl _).mono ?_;rintro _ w4 ⟨rfl,g4⟩;replace G:=G.trans g4;replace A:=A.since g4;replace B:=B.since g4;have a0:=A.cell 0;have a1:=A.cell 1;have a2:=A.cell 2;simp at a0 a1 a2)|(go_at_call 60;refine (hfr _).mono ?_;rintro _ w2 ⟨rfl,g2⟩;replace G:=G.trans g2;replace B:=B.since g2;have b0:=B.cell 0;have b1:=B.cell 1;have b2:=B.cell 2;simp at b0 b1 b2;have z0:=B.fz 0;have z1:=B.fz 1;have z2:=B.fz 2))
   refine bodyPost_ret (v:=.tuple #[.agg #[.int .u32 f,.string d,.int .i64 r],.int .i64 0]) ?_ rfl ⟨rfl,?_⟩
   ·simp [results,go_sem,(stored3 B (.int .u32 f) (.string d) (.int .i64 r)).1,(stored3 B (.int .u32 f) (.string d) (.int .i64 r)).2.1,(stored3 B (.int .u32 f) (.string d) (.int .i64 r)).2.2]
   ·exact since_put3 G (by omega) _ _ _
end Go.Proofs.YtmigalhmlofbkaaGreatDoor
