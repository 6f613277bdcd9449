/-
  Contract of impl's OutPut.
-/
import Derived.Test.YtnbopjlpemmkcaaGreatOutImpl
import Derived.Test.YtnbopjlpemmkcaaGreatM3
namespace Go.Proofs.YtnbopjlpemmkcaaGreat
open Go.ChangeShapes Go.WideShapes Go.ChangeAt Go.RowKit Go.Deep
set_option linter.unusedVariables false
set_option maxRecDepth 10000
set_option maxRecDepth 10000

theorem implOutPut (f:Int) (d:ByteArray) (r:Int) (s:ByteArray) (hf:IsWord f) (hd:d.size≤1048576) (hs:s.size≤1048576) (w:World) :
  Calls Tryz.prog 136 #[outVal f d r,.string s] w fun e w'=>e=.returned (.tuple #[outVal f (putD d r s) r,.int .i64 (putN d r s)])∧Since w w':=by
 have ho:=fun wx=>implOutOk f d r wx
 have hfr:=fun wx=>freshOut f d r hd wx
 have G:Since w ((w.alloc (.cells #[.int .u32 f,.string d,.int .i64 r] 43)).alloc (.cells #[.int .u32 0,.string ⟨#[]⟩,.int .i64 0] 43)):=((Since.refl _).alloc _).alloc _
 have A:=(Blk.new w #[.int .u32 f,.string d,.int .i64 r] 43).since ((Since.refl _).alloc (.cells #[.int .u32 0,.string ⟨#[]⟩,.int .i64 0] 43))
 have B:=Blk.new (w.alloc (.cells #[.int .u32 f,.string d,.int .i64 r] 43)) #[.int .u32 0,.string ⟨#[]⟩,.int .i64 0] 43
 simp only [World.size_alloc] at A B
 unfold putD putN
 cases hk:outOk d r
 ·rw [if_neg (by simp)]
  rw [if_neg (by simp)]
  rw [hk] at ho
  unfold outVal at *
  go_enter Tryz.func136,Tryz.ntmps136
  go_wp2_with (first|(go_at_call 86;refine (ho _).mono ?_;rintro _ w1 ⟨rfl,g1⟩;replace G:=G.trans g1;replace A:=A.since g1;replace B:=B.since g1;have a0:=A.cell 0;have a1:=A.cell 1;have a2:=A.cell 2;simp at a0 a1 a2)|(go_at_call 84;refine (hfr _).mono ?_;rintro _ w2 ⟨rfl,g2⟩;replace G:=G.trans g2;replace B:=B.since g2;have b0:=B.cell 0;have b1:=B.cell 1;have b2:=B.cell 2;simp at b0 b1 b2;have z0:=B.fz 0;have z1:=B.fz 1;have z2:=B.fz 2))
  refine bodyPost_ret (v:=.tuple #[.agg #[.int .u32 f,.string d,.int .i64 r],.int .i64 0]) ?_ rfl ⟨rfl,?_⟩
  ·simp [results,go_sem,(stored3 B (.int .u32 f) (.string d) (.int .i64 r)).1,(stored3 B (.int .u32 f) (.string d) (.int .i64 r)).2.1,(stored3 B (.int .u32 f) (.string d) (.int .i64 r)).2.2]
  ·exact since_put3 G (by omega) _ _ _
 ·obtain ⟨h1,h2,h3⟩:=(outOk_iff d r).1 hk
  obtain ⟨m,rfl⟩:=Int.eq_ofNat_of_zero_le (show 0≤r by omega)
  rw [if_pos rfl,if_pos rfl]
  rw [hk] at ho
  have hri:=fun wx=>ringOf f d m hf (by omega) (by omega) (by omega) wx
  obtain ⟨n,hn⟩:∃ n,min (((m:Nat):Int).toNat - d.size) s.size=n:=⟨_,rfl⟩
  rw [hn]
  obtain ⟨L,hL⟩:∃ L,min s.size m=L:=⟨_,rfl⟩
  have hif:(if (m:Int)<(s.size:Int) then (m:Int) else (s.size:Int))=(L:Int):=by split<;>omega
  have hmin:min (s.size:Int) (m:Int)=(L:Int):=by omega
  have hLs:(s.extract 0 L).size=L:=by rw [ByteArray.size_extract];omega
  have hL1:L≤s.size:=by omega
  have hnL:n≤L:=by omega
  have hn2:d.size+n≤m:=by omega
  have hn3:n=L∨d.size+n=m:=by omega
  have hns:n≤s.size:=by omega
  replace hn3:Hid _:=hn3
  clear hn hL hk hfr
  unfold outVal at *
  go_enter Tryz.func136,Tryz.ntmps136
  go_wp2_with (fail)
  refine (ho _).mono ?_
  rintro _ w1 ⟨rfl,g1⟩
  replace G:=G.trans g1
  replace A:=A.since g1
  replace B:=B.since g1
  have a0:=A.cell 0
  have a1:=A.cell 1
  have a2:=A.cell 2
  simp at a0 a1 a2
  go_wp2_with (fail)
  refine (hri _).mono ?_
  rintro _ w3 ⟨rg,c,f3,fi,rfl,hr1,hc1,R3,hf3,g3⟩
  have hlow:=G.le
  have hAB:=B.lt
  replace a2:=(A.since g3).cell 2
  simp at a2
  replace hf3:Hid _:=hf3
  obtain ⟨cap,w4,hconv,hcap,g4,hsz,hcell⟩:=bytesText (s.extract 0 L) w3
  rw [hLs] at hconv hcap hcell
  have R4:=R3.since g4
  have hput:=put rg c m fi d.size f3 (byteAt (s.extract 0 L)) w3.heap.size L cap n hnL hn2 hn3.out hcap (by omega) w4 R4 hcell (by omega) (by have:=R3.cells.lt;omega) w1.heap.size hr1 hc1 (Nat.le_trans g3.le g4.le)
  replace hcell:Hid _:=hcell
  clear R4
  go_wp2_with (fail)
  refine hput.mono ?_
  rintro _ w5 ⟨rfl,hB5,f5,R5,hold,hnew⟩
  have hD:textOf (fun j=>f5 ((fi+j) % m)) (d.size+n)=d++s.extract 0 n:=by
   refine textOf_join _ _ _ _ (by rw [ByteArray.size_extract];omega) (fun i hi=>?_) (fun i hi=>?_)
   ·exact (hold i hi).trans (hf3.out i hi)
   ·rw [ByteArray.size_extract] at hi
    refine (hnew i (by omega)).trans ?_
    rw [bt_cut s 0 L i hL1 (by omega),bt_cut s 0 n i hns (by omega)]
  replace hD:Hid _:=hD
  have S5:Since w1 w5:=Below.trans (Since.trans g3 g4) hB5
  clear hold hnew hf3 hconv hcell hput g4 hsz a2 a0 a1
  replace A:=A.since S5
  replace B:=B.since S5
  replace G:=G.trans S5
  have hs5:=S5.le
  go_wp2_with (fail)
  refine wp_region_keep (wb:=w5) (w.heap.size+1) #[.int .u32 f,.string (d++s.extract 0 n),.int .i64 m] (fun i x v=>match i with
    | 0=>v=.pointer (some ⟨w.heap.size,0,none⟩)
    | 1=>v=.int .u32 f
    | 2=>v=.pointer (some ⟨rg,0,none⟩)
    | 3=>∃ b,(∃ cap,v=.slice (some ⟨b,0,none⟩) (d.size+n) cap)∧w.heap.size+1<b∧∀ j,j<d.size+n→x.cell? ⟨b,j,none⟩=some (.int .u8 (f5 ((fi+j) % m)))
    | 4=>v=.string (d++s.extract 0 n)
    | 5=>v=.pointer (some ⟨w.heap.size,2,none⟩)
    | 6=>v=.int .i64 m
    | 7=>v=.agg #[.int .u32 f,.string (d++s.extract 0 n),.int .i64 m]
    | 8=>v=.int .i64 n
    | 9=>Blk (w.heap.size+1) x #[.int .u32 f,.string (d++s.extract 0 n),.int .i64 m]
    | 10=>v=.int .i64 n
    | _=>True) (fun v=>{tmps:=#[Value.agg #[Value.int IntKind.u32 f,Value.string d,Value.int IntKind.i64 (m:Int)],Value.string s,Value.pointer (some ⟨w.heap.size,0,none⟩),undef,Value.pointer (some ⟨w.heap.size+1,0,none⟩),v 10,Value.pointer (some ⟨rg,0,none⟩),Value.int IntKind.i64 (n:Int),Value.agg #[Value.int IntKind.u32 f,Value.string d,Value.int IntKind.i64 (m:Int)],Value.bool true,Value.bool false,undef,undef,Value.agg #[Value.int IntKind.u32 f,Value.string d,Value.int IntKind.i64 (m:Int)],Value.pointer (some ⟨rg,0,none⟩),Value.pointer (some ⟨rg,0,none⟩),Value.string s,Value.string s,Value.int IntKind.i64 (s.size:Int),Value.pointer (some ⟨w.heap.size,2,none⟩),Value.int IntKind.i64 (m:Int),Value.int IntKind.i64 (L:Int),Value.string (s.extract 0 L),Value.slice (some ⟨w3.heap.size,0,none⟩) L cap,Value.int IntKind.i64 (n:Int),v 0,v 1,v 2,v 3,v 4,v 5,v 6,v 7,v 8],defers:=[]}) (by kernel_rfl) (by kernel_rfl) (by kernel_rfl) (KeepB.refl _ _ _) ?_ (fun vals=>by kernel_rfl) ?_ ?_
  case refine_1=>
   intro j x x' v h1 h2
   match j,h2 with
   | 3,h2=>
    obtain ⟨b,e,hlb,hc⟩:=h2
    exact ⟨b,e,hlb,fun j hj=>(h1.touch.cell (p:=⟨b,j,none⟩) (show b≠w.heap.size+1 by omega) (World.block_lt_of_cell? _ _ (hc j hj))).trans (hc j hj)⟩
   | 9,h2=>
    exact h1.done h2
   | 0,h2|1,h2|2,h2|4,h2|5,h2|6,h2|7,h2|8,h2|10,h2=>exact h2
   | n+11,_=>trivial
  case refine_2=>
   repeat (first|exact eachDoesR_nil|refine eachDoesR_cons ?_ ?_)
   all_goals intro vals x hx hv
   all_goals simp [Region.binds] at hv
   ·simp [does,doesUpon,go_sem,hv,KeepB.refl]
   ·have hraw:Raw (w.heap.size+1) 3 x:=hx.raw (show Raw (w.heap.size+1) 3 _ from ⟨_,rfl,B⟩)
    obtain ⟨u0,e0⟩:=hraw.cell 0 (by decide)
    obtain ⟨u1,e1⟩:=hraw.cell 1 (by decide)
    obtain ⟨u2,e2⟩:=hraw.cell 2 (by decide)
    have z0:=hraw.fz 0
    have z1:=hraw.fz 1
    have z2:=hraw.fz 2
    simp [does,doesUpon,go_sem,hv,e0,e1,e2,z0,z1,z2]
    exact hraw.store3 _ _ _
   ·simp [does,doesUpon,go_sem,KeepB.refl]
   ·simp [does,doesUpon,go_sem,hv,KeepB.refl]
   ·have e:=(A.touch hx.touch (by omega)).cell 2
    simp at e
    simp [does,doesUpon,go_sem,hv,e,KeepB.refl]
   ·simp [does,doesUpon,go_sem,KeepB.refl]
   ·obtain ⟨b,⟨cap,e⟩,hlb,hc⟩:=hv
    have hb:=bytesBack (fun j=>f5 ((fi+j) % m)) (d.size+n) cap b x hc
    rw [hD.out] at hb
    simp [does,doesUpon,go_sem,e,hb,KeepB.refl]
   ·simp [does,doesUpon,go_sem,hv]
    refine (ringAll rg c m fi (d.size+n) f5 x (R5.touch hx.touch (by omega) (by omega))).mono ?_
    rintro _ x' ⟨b,cap,rfl,hc,hlb,h1⟩
    exact ⟨_,rfl,KeepB.of_since h1,b,⟨cap,rfl⟩,by have:=hx.touch.size;omega,hc⟩
   ·simp [does,doesUpon,go_sem,KeepB.refl]
   ·have e:=(A.touch hx.touch (by omega)).cell 0
    simp at e
    simp [does,doesUpon,go_sem,hv,e,KeepB.refl]
   ·simp [does,doesUpon,go_sem,KeepB.refl]
  case refine_3=>
   intro vals x hx hv
   have hst:=hv 9 (by decide)
   have hl:vals 10=_:=hv 10 (by decide)
   clear hv
   have b0:=hst.cell 0
   have b1:=hst.cell 1
   have b2:=hst.cell 2
   simp at b0 b1 b2
   replace hst:Hid _:=hst
   simp only [hl]
   go_wp2
   refine bodyPost_ret (v:=.tuple #[.agg #[.int .u32 f,.string (d++s.extract 0 n),.int .i64 m],.int .i64 n]) ?_ rfl ⟨rfl,?_⟩
   ·simp [results,go_sem,b0,b1,b2]
   ·exact KeepB.since G hx (by omega)
end Go.Proofs.YtnbopjlpemmkcaaGreat
