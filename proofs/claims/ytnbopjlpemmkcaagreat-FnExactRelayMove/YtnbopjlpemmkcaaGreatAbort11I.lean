/-
  An end that gives up, as impl does it.
-/
import Derived.Test.YtnbopjlpemmkcaaGreatVl
import Derived.Test.YtnbopjlpemmkcaaGreatM13
import Derived.Test.YtnbopjlpemmkcaaGreatM22
import Derived.Test.YtnbopjlpemmkcaaGreatConnOkI
import Derived.Test.YtnbopjlpemmkcaaGreatM3
import Derived.Deep.DeepCutAuto
namespace Go.Proofs.YtnbopjlpemmkcaaGreat
open Go.ChangeShapes Go.WideShapes Go.ChangeAt Go.RowKit
set_option linter.unusedVariables false
set_option maxRecDepth 10000

def goneC (d:Cn):Cn:=if d.st=0 then d else endC d 4

def goneS (d:Cn) (xs:List Sg):List Sg:=if 2≤d.st∧d.st≤6 then xs++[⟨0,0,d.nxt,d.iN,20,0,0,ByteArray.empty⟩] else xs

set_option maxRecDepth 20000 in
set_option maxHeartbeats 8000000 in
theorem implGone (B g pg:Nat) (now:Int) (ps:List (Int×ByteArray)) (d:Cn) (gs n cap:Nat) (xs:List Sg) (hn:n≤200000) (w:World) (a:Acts B g pg now ps d gs n cap xs w) :
  Calls Tryz.prog 95 #[.pointer (some ⟨g,0,none⟩)] w fun e w'=>e=.returned (.tuple #[])∧ActsX B g pg now ps (goneC d) (goneS d xs) w'∧Base B w w':=by
 obtain ⟨A,L,P,pa,lo,i,j,l⟩:=a
 have hA:=A.lt
 have hL:=L.lt
 have hLo:=L.low'
 have hP:=P.lt
 have hPo:=P.low'
 have G:Base B w w:=Base.refl (by omega)
 go_enter Tryz.func95,Tryz.ntmps95
 go_upto_region 1 with (fail)
 have f_st:w.cell? ⟨g,0,none⟩=some (.int .i64 d.st):=A.cell 0
 by_cases h0:d.st=0
 case pos=>
  have e1:Hid (goneC d=d):=if_pos h0
  have e2:Hid (goneS d xs=xs):=if_neg (by omega)
  rw [h0] at f_st
  go_wp2_with (fail)
  refine bodyPost_ret (v:=.tuple #[]) (results_none rfl _ _ _) rfl ⟨rfl,?_,G⟩
  rw [e1.out,e2.out]
  exact ⟨_,_,_,⟨A,L,P,pa,lo,i,j,l⟩⟩
 case neg=>
  by_cases h2:d.st=2
  case pos=>
   have hs:=h2
   have e1:Hid (goneC d=endC d 4):=if_neg h0
   have e2:Hid (goneS d xs=xs++[⟨0,0,d.nxt,d.iN,20,0,0,ByteArray.empty⟩]):=if_pos (by omega)
   clear h0
   rw [hs] at f_st
   clear hs
   go_upto_region 8 with (fail)
   refine wp_region_tail (wb:=w) 12 (fun i x v=>match i with
     | 0=>v=.pointer (some ⟨g,0,none⟩)
     | 1=>v=.pointer (some ⟨g,0,none⟩)
     | 2=>v=.pointer (some ⟨g,0,none⟩)
     | 3=>v=.pointer (some ⟨g,3,none⟩)
     | 4=>v=.int .u32 d.nxt
     | 5=>v=.pointer (some ⟨g,0,none⟩)
     | 6=>v=.pointer (some ⟨g,0,none⟩)
     | 7=>v=.pointer (some ⟨g,11,none⟩)
     | 8=>v=.pointer (some ⟨g,11,none⟩)
     | 9=>v=.int .u32 d.iN
     | 10=>v=.agg (sgCells ⟨0,0,d.nxt,d.iN,20,0,0,ByteArray.empty⟩)
     | 11=>∃ gy,v=.slice (some ⟨gy,0,none⟩) 1 1∧Held shG x w.heap.size gy 1 1 [⟨0,0,d.nxt,d.iN,20,0,0,ByteArray.empty⟩]
     | _=>True) (fun v=>{tmps:=#[.pointer (some ⟨g,0,none⟩),undef,.pointer (some ⟨g,0,none⟩),.pointer (some ⟨g,0,none⟩),.pointer (some ⟨g,0,none⟩),.pointer (some ⟨g,0,none⟩),.pointer (some ⟨g,0,none⟩),.pointer (some ⟨g,0,none⟩),.pointer (some ⟨g,0,none⟩),.int .i64 2,.bool false,.bool false,.bool true,.bool true,undef,undef,undef,undef,v 0,v 1,v 2,v 3,v 4,v 5,v 6,v 7,v 8,v 9,v 10,v 11,undef,undef,undef],defers:=[]}) (by kernel_rfl) (by kernel_rfl) (by kernel_rfl) (Since.refl _) ?_ (fun vals=>by kernel_rfl) ?_ ?_
   case refine_1=>
    intro j x x' v h1 h2
    match j,h2 with
    | 0,h2|1,h2|2,h2|3,h2|4,h2|5,h2|6,h2|7,h2|8,h2|9,h2|10,h2=>exact h2
    | 11,⟨gy,e,H⟩=>exact ⟨gy,e,H.since h1⟩
    | n+12,_=>trivial
   case refine_2=>
    repeat (first|exact eachDoes_nil|refine eachDoes_cons ?_ ?_)
    all_goals intro vals x hx hv
    all_goals simp [Region.binds] at hv
    ·exact does_build1 (⟨0,0,d.nxt,d.iN,20,0,0,ByteArray.empty⟩) _ rfl hv ⟨(Since.refl _).alloc _,_,rfl,(heldG1 x (⟨0,0,d.nxt,d.iN,20,0,0,ByteArray.empty⟩)).raise hx.size⟩
    ·simp [does,doesUpon,go_sem,hv,Since.refl]
     rfl
    ·have fl0:x.cell? ⟨g,11,none⟩=some (.int .u32 d.iN):=(A.since hx).cell 11
     simp [does,doesUpon,go_sem,hv,fl0,Since.refl]
    ·simp [does,doesUpon,go_sem,hv,Since.refl]
    ·simp [does,doesUpon,go_sem,hv,Since.refl]
    ·simp [does,doesUpon,go_sem,hv,Since.refl]
    ·simp [does,doesUpon,go_sem,Since.refl]
    ·have fl0:x.cell? ⟨g,3,none⟩=some (.int .u32 d.nxt):=(A.since hx).cell 3
     simp [does,doesUpon,go_sem,hv,fl0,Since.refl]
    ·simp [does,doesUpon,go_sem,hv,Since.refl]
    ·simp [does,doesUpon,go_sem,hv,Since.refl]
    ·simp [does,doesUpon,go_sem,Since.refl]
    ·simp [does,doesUpon,go_sem,Since.refl]
   case refine_3=>
    intro qv4 qw2 qh3 hv
    have hv0:qv4 0=_:=hv 0 (by decide)
    have hv1:qv4 1=_:=hv 1 (by decide)
    have hv2:qv4 2=_:=hv 2 (by decide)
    have hv3:qv4 3=_:=hv 3 (by decide)
    have hv4:qv4 4=_:=hv 4 (by decide)
    have hv5:qv4 5=_:=hv 5 (by decide)
    have hv6:qv4 6=_:=hv 6 (by decide)
    have hv7:qv4 7=_:=hv 7 (by decide)
    have hv8:qv4 8=_:=hv 8 (by decide)
    have hv9:qv4 9=_:=hv 9 (by decide)
    have hv10:qv4 10=_:=hv 10 (by decide)
    obtain ⟨qx1,hv11,qx1_H⟩:=hv 11 (by decide)
    clear hv
    simp only [hv0,hv1,hv2,hv3,hv4,hv5,hv6,hv7,hv8,hv9,hv10,hv11,List.drop]
    clear hv0 hv1 hv2 hv3 hv4 hv5 hv6 hv7 hv8 hv9 hv10 hv11
    replace A:=A.since qh3
    replace L:=L.since qh3
    replace P:=P.since qh3
    replace G:=G.trans qh3
    have qh3_s:=qh3.size
    have qx1_m:=qx1_H.lt
    have qx1_o:=qx1_H.low'
    refine VL.out ?_
    refine vC (implSends _ _ _ _ _ _ _ _ _ _ _ _ hn _ ⟨A,L,P,pa,lo,(by omega),(by omega),(by omega)⟩ (qx1_H.raise (by omega)) (by omega)) ?_
    rintro _ qw5 ⟨rfl,⟨gsqk7,nqk7,cqk7,⟨Aqk7,Lqk7,Pqk7,paqk7,loqk7,iqk7,jqk7,lqk7⟩⟩,qh6⟩
    refine ⟨_,rfl,?_⟩
    clear A L P
    replace G:=G.base qh6
    have qh6_s:=qh6.size
    have Aqk7_l:=Aqk7.lt
    have Lqk7_l:=Lqk7.lt
    have Lqk7_o:=Lqk7.low'
    have Pqk7_l:=Pqk7.lt
    refine vE #[.pointer (some ⟨g,0,none⟩),U,.pointer (some ⟨g,0,none⟩),.pointer (some ⟨g,0,none⟩),.pointer (some ⟨g,0,none⟩),.pointer (some ⟨g,0,none⟩),.pointer (some ⟨g,0,none⟩),.pointer (some ⟨g,0,none⟩),.pointer (some ⟨g,0,none⟩),.int .i64 2,.bool false,.bool false,.bool true,.bool true,U,U,U,U,.pointer (some ⟨g,0,none⟩),.pointer (some ⟨g,0,none⟩),.pointer (some ⟨g,0,none⟩),.pointer (some ⟨g,3,none⟩),.int .u32 d.nxt,.pointer (some ⟨g,0,none⟩),.pointer (some ⟨g,0,none⟩),.pointer (some ⟨g,11,none⟩),.pointer (some ⟨g,11,none⟩),.int .u32 d.iN,.agg (sgCells ⟨0,0,d.nxt,d.iN,20,0,0,ByteArray.empty⟩),.slice (some ⟨qx1,0,none⟩) 1 1,.tuple #[],U,U] ?_
    go_upto_region 9 with (fail)
    refine vR ?_
    refine vV (.pointer (some ⟨g,0,none⟩)) ?_
    refine vC (implFinish _ _ _ _ _ _ _ _ _ _ 4 _ ⟨Aqk7,Lqk7,Pqk7,paqk7,loqk7,(by omega),(by omega),(by omega)⟩) ?_
    rintro _ qw8 ⟨rfl,⟨gsqk10,nqk10,cqk10,⟨Aqk10,Lqk10,Pqk10,paqk10,loqk10,iqk10,jqk10,lqk10⟩⟩,qh9⟩
    refine ⟨_,rfl,?_⟩
    clear Aqk7 Lqk7 Pqk7
    replace G:=G.base qh9
    have qh9_s:=qh9.size
    have Aqk10_l:=Aqk10.lt
    have Lqk10_l:=Lqk10.lt
    have Lqk10_o:=Lqk10.low'
    have Pqk10_l:=Pqk10.lt
    refine vE #[.pointer (some ⟨g,0,none⟩),U,.pointer (some ⟨g,0,none⟩),.pointer (some ⟨g,0,none⟩),.pointer (some ⟨g,0,none⟩),.pointer (some ⟨g,0,none⟩),.pointer (some ⟨g,0,none⟩),.pointer (some ⟨g,0,none⟩),.pointer (some ⟨g,0,none⟩),.int .i64 2,.bool false,.bool false,.bool true,.bool true,U,U,U,U,.pointer (some ⟨g,0,none⟩),.pointer (some ⟨g,0,none⟩),.pointer (some ⟨g,0,none⟩),.pointer (some ⟨g,3,none⟩),.int .u32 d.nxt,.pointer (some ⟨g,0,none⟩),.pointer (some ⟨g,0,none⟩),.pointer (some ⟨g,11,none⟩),.pointer (some ⟨g,11,none⟩),.int .u32 d.iN,.agg (sgCells ⟨0,0,d.nxt,d.iN,20,0,0,ByteArray.empty⟩),.slice (some ⟨qx1,0,none⟩) 1 1,.tuple #[],.pointer (some ⟨g,0,none⟩),.tuple #[]] ?_
    go_wp2_with (fail)
    refine bodyPost_end (v:=.tuple #[]) (results_none rfl _ _ _) rfl ⟨rfl,?_,G⟩
    rw [e1.out,e2.out]
    exact ⟨_,_,_,⟨Aqk10,Lqk10,Pqk10,paqk10,loqk10,(by omega),(by omega),(by omega)⟩⟩
  case neg=>
  by_cases h3:d.st=3
  case pos=>
   have hs:=h3
   have e1:Hid (goneC d=endC d 4):=if_neg h0
   have e2:Hid (goneS d xs=xs++[⟨0,0,d.nxt,d.iN,20,0,0,ByteArray.empty⟩]):=if_pos (by omega)
   clear h0
   rw [hs] at f_st
   clear hs
   go_upto_region 8 with (fail)
   refine wp_region_tail (wb:=w) 12 (fun i x v=>match i with
     | 0=>v=.pointer (some ⟨g,0,none⟩)
     | 1=>v=.pointer (some ⟨g,0,none⟩)
     | 2=>v=.pointer (some ⟨g,0,none⟩)
     | 3=>v=.pointer (some ⟨g,3,none⟩)
     | 4=>v=.int .u32 d.nxt
     | 5=>v=.pointer (some ⟨g,0,none⟩)
     | 6=>v=.pointer (some ⟨g,0,none⟩)
     | 7=>v=.pointer (some ⟨g,11,none⟩)
     | 8=>v=.pointer (some ⟨g,11,none⟩)
     | 9=>v=.int .u32 d.iN
     | 10=>v=.agg (sgCells ⟨0,0,d.nxt,d.iN,20,0,0,ByteArray.empty⟩)
     | 11=>∃ gy,v=.slice (some ⟨gy,0,none⟩) 1 1∧Held shG x w.heap.size gy 1 1 [⟨0,0,d.nxt,d.iN,20,0,0,ByteArray.empty⟩]
     | _=>True) (fun v=>{tmps:=#[.pointer (some ⟨g,0,none⟩),undef,.pointer (some ⟨g,0,none⟩),.pointer (some ⟨g,0,none⟩),.pointer (some ⟨g,0,none⟩),.pointer (some ⟨g,0,none⟩),.pointer (some ⟨g,0,none⟩),.pointer (some ⟨g,0,none⟩),.pointer (some ⟨g,0,none⟩),.int .i64 3,.bool false,.bool false,.bool true,.bool false,.bool true,undef,undef,undef,v 0,v 1,v 2,v 3,v 4,v 5,v 6,v 7,v 8,v 9,v 10,v 11,undef,undef,undef],defers:=[]}) (by kernel_rfl) (by kernel_rfl) (by kernel_rfl) (Since.refl _) ?_ (fun vals=>by kernel_rfl) ?_ ?_
   case refine_1=>
    intro j x x' v h1 h2
    match j,h2 with
    | 0,h2|1,h2|2,h2|3,h2|4,h2|5,h2|6,h2|7,h2|8,h2|9,h2|10,h2=>exact h2
    | 11,⟨gy,e,H⟩=>exact ⟨gy,e,H.since h1⟩
    | n+12,_=>trivial
   case refine_2=>
    repeat (first|exact eachDoes_nil|refine eachDoes_cons ?_ ?_)
    all_goals intro vals x hx hv
    all_goals simp [Region.binds] at hv
    ·exact does_build1 (⟨0,0,d.nxt,d.iN,20,0,0,ByteArray.empty⟩) _ rfl hv ⟨(Since.refl _).alloc _,_,rfl,(heldG1 x (⟨0,0,d.nxt,d.iN,20,0,0,ByteArray.empty⟩)).raise hx.size⟩
    ·simp [does,doesUpon,go_sem,hv,Since.refl]
     rfl
    ·have fl0:x.cell? ⟨g,11,none⟩=some (.int .u32 d.iN):=(A.since hx).cell 11
     simp [does,doesUpon,go_sem,hv,fl0,Since.refl]
    ·simp [does,doesUpon,go_sem,hv,Since.refl]
    ·simp [does,doesUpon,go_sem,hv,Since.refl]
    ·simp [does,doesUpon,go_sem,hv,Since.refl]
    ·simp [does,doesUpon,go_sem,Since.refl]
    ·have fl0:x.cell? ⟨g,3,none⟩=some (.int .u32 d.nxt):=(A.since hx).cell 3
     simp [does,doesUpon,go_sem,hv,fl0,Since.refl]
    ·simp [does,doesUpon,go_sem,hv,Since.refl]
    ·simp [does,doesUpon,go_sem,hv,Since.refl]
    ·simp [does,doesUpon,go_sem,Since.refl]
    ·simp [does,doesUpon,go_sem,Since.refl]
   case refine_3=>
    intro qv4 qw2 qh3 hv
    have hv0:qv4 0=_:=hv 0 (by decide)
    have hv1:qv4 1=_:=hv 1 (by decide)
    have hv2:qv4 2=_:=hv 2 (by decide)
    have hv3:qv4 3=_:=hv 3 (by decide)
    have hv4:qv4 4=_:=hv 4 (by decide)
    have hv5:qv4 5=_:=hv 5 (by decide)
    have hv6:qv4 6=_:=hv 6 (by decide)
    have hv7:qv4 7=_:=hv 7 (by decide)
    have hv8:qv4 8=_:=hv 8 (by decide)
    have hv9:qv4 9=_:=hv 9 (by decide)
    have hv10:qv4 10=_:=hv 10 (by decide)
    obtain ⟨qx1,hv11,qx1_H⟩:=hv 11 (by decide)
    clear hv
    simp only [hv0,hv1,hv2,hv3,hv4,hv5,hv6,hv7,hv8,hv9,hv10,hv11,List.drop]
    clear hv0 hv1 hv2 hv3 hv4 hv5 hv6 hv7 hv8 hv9 hv10 hv11
    replace A:=A.since qh3
    replace L:=L.since qh3
    replace P:=P.since qh3
    replace G:=G.trans qh3
    have qh3_s:=qh3.size
    have qx1_m:=qx1_H.lt
    have qx1_o:=qx1_H.low'
    refine VL.out ?_
    refine vC (implSends _ _ _ _ _ _ _ _ _ _ _ _ hn _ ⟨A,L,P,pa,lo,(by omega),(by omega),(by omega)⟩ (qx1_H.raise (by omega)) (by omega)) ?_
    rintro _ qw5 ⟨rfl,⟨gsqk7,nqk7,cqk7,⟨Aqk7,Lqk7,Pqk7,paqk7,loqk7,iqk7,jqk7,lqk7⟩⟩,qh6⟩
    refine ⟨_,rfl,?_⟩
    clear A L P
    replace G:=G.base qh6
    have qh6_s:=qh6.size
    have Aqk7_l:=Aqk7.lt
    have Lqk7_l:=Lqk7.lt
    have Lqk7_o:=Lqk7.low'
    have Pqk7_l:=Pqk7.lt
    refine vE #[.pointer (some ⟨g,0,none⟩),U,.pointer (some ⟨g,0,none⟩),.pointer (some ⟨g,0,none⟩),.pointer (some ⟨g,0,none⟩),.pointer (some ⟨g,0,none⟩),.pointer (some ⟨g,0,none⟩),.pointer (some ⟨g,0,none⟩),.pointer (some ⟨g,0,none⟩),.int .i64 3,.bool false,.bool false,.bool true,.bool false,.bool true,U,U,U,.pointer (some ⟨g,0,none⟩),.pointer (some ⟨g,0,none⟩),.pointer (some ⟨g,0,none⟩),.pointer (some ⟨g,3,none⟩),.int .u32 d.nxt,.pointer (some ⟨g,0,none⟩),.pointer (some ⟨g,0,none⟩),.pointer (some ⟨g,11,none⟩),.pointer (some ⟨g,11,none⟩),.int .u32 d.iN,.agg (sgCells ⟨0,0,d.nxt,d.iN,20,0,0,ByteArray.empty⟩),.slice (some ⟨qx1,0,none⟩) 1 1,.tuple #[],U,U] ?_
    go_upto_region 9 with (fail)
    refine vR ?_
    refine vV (.pointer (some ⟨g,0,none⟩)) ?_
    refine vC (implFinish _ _ _ _ _ _ _ _ _ _ 4 _ ⟨Aqk7,Lqk7,Pqk7,paqk7,loqk7,(by omega),(by omega),(by omega)⟩) ?_
    rintro _ qw8 ⟨rfl,⟨gsqk10,nqk10,cqk10,⟨Aqk10,Lqk10,Pqk10,paqk10,loqk10,iqk10,jqk10,lqk10⟩⟩,qh9⟩
    refine ⟨_,rfl,?_⟩
    clear Aqk7 Lqk7 Pqk7
    replace G:=G.base qh9
    have qh9_s:=qh9.size
    have Aqk10_l:=Aqk10.lt
    have Lqk10_l:=Lqk10.lt
    have Lqk10_o:=Lqk10.low'
    have Pqk10_l:=Pqk10.lt
    refine vE #[.pointer (some ⟨g,0,none⟩),U,.pointer (some ⟨g,0,none⟩),.pointer (some ⟨g,0,none⟩),.pointer (some ⟨g,0,none⟩),.pointer (some ⟨g,0,none⟩),.pointer (some ⟨g,0,none⟩),.pointer (some ⟨g,0,none⟩),.pointer (some ⟨g,0,none⟩),.int .i64 3,.bool false,.bool false,.bool true,.bool false,.bool true,U,U,U,.pointer (some ⟨g,0,none⟩),.pointer (some ⟨g,0,none⟩),.pointer (some ⟨g,0,none⟩),.pointer (some ⟨g,3,none⟩),.int .u32 d.nxt,.pointer (some ⟨g,0,none⟩),.pointer (some ⟨g,0,none⟩),.pointer (some ⟨g,11,none⟩),.pointer (some ⟨g,11,none⟩),.int .u32 d.iN,.agg (sgCells ⟨0,0,d.nxt,d.iN,20,0,0,ByteArray.empty⟩),.slice (some ⟨qx1,0,none⟩) 1 1,.tuple #[],.pointer (some ⟨g,0,none⟩),.tuple #[]] ?_
    go_wp2_with (fail)
    refine bodyPost_end (v:=.tuple #[]) (results_none rfl _ _ _) rfl ⟨rfl,?_,G⟩
    rw [e1.out,e2.out]
    exact ⟨_,_,_,⟨Aqk10,Lqk10,Pqk10,paqk10,loqk10,(by omega),(by omega),(by omega)⟩⟩
  case neg=>
  by_cases h4:d.st=4
  case pos=>
   have hs:=h4
   have e1:Hid (goneC d=endC d 4):=if_neg h0
   have e2:Hid (goneS d xs=xs++[⟨0,0,d.nxt,d.iN,20,0,0,ByteArray.empty⟩]):=if_pos (by omega)
   clear h0
   rw [hs] at f_st
   clear hs
   go_upto_region 8 with (fail)
   refine wp_region_tail (wb:=w) 12 (fun i x v=>match i with
     | 0=>v=.pointer (some ⟨g,0,none⟩)
     | 1=>v=.pointer (some ⟨g,0,none⟩)
     | 2=>v=.pointer (some ⟨g,0,none⟩)
     | 3=>v=.pointer (some ⟨g,3,none⟩)
     | 4=>v=.int .u32 d.nxt
     | 5=>v=.pointer (some ⟨g,0,none⟩)
     | 6=>v=.pointer (some ⟨g,0,none⟩)
     | 7=>v=.pointer (some ⟨g,11,none⟩)
     | 8=>v=.pointer (some ⟨g,11,none⟩)
     | 9=>v=.int .u32 d.iN
     | 10=>v=.agg (sgCells ⟨0,0,d.nxt,d.iN,20,0,0,ByteArray.empty⟩)
     | 11=>∃ gy,v=.slice (some ⟨gy,0,none⟩) 1 1∧Held shG x w.heap.size gy 1 1 [⟨0,0,d.nxt,d.iN,20,0,0,ByteArray.empty⟩]
     | _=>True) (fun v=>{tmps:=#[.pointer (some ⟨g,0,none⟩),undef,.pointer (some ⟨g,0,none⟩),.pointer (some ⟨g,0,none⟩),.pointer (some ⟨g,0,none⟩),.pointer (some ⟨g,0,none⟩),.pointer (some ⟨g,0,none⟩),.pointer (some ⟨g,0,none⟩),.pointer (some ⟨g,0,none⟩),.int .i64 4,.bool false,.bool false,.bool true,.bool false,.bool false,.bool true,undef,undef,v 0,v 1,v 2,v 3,v 4,v 5,v 6,v 7,v 8,v 9,v 10,v 11,undef,undef,undef],defers:=[]}) (by kernel_rfl) (by kernel_rfl) (by kernel_rfl) (Since.refl _) ?_ (fun vals=>by kernel_rfl) ?_ ?_
   case refine_1=>
    intro j x x' v h1 h2
    match j,h2 with
    | 0,h2|1,h2|2,h2|3,h2|4,h2|5,h2|6,h2|7,h2|8,h2|9,h2|10,h2=>exact h2
    | 11,⟨gy,e,H⟩=>exact ⟨gy,e,H.since h1⟩
    | n+12,_=>trivial
   case refine_2=>
    repeat (first|exact eachDoes_nil|refine eachDoes_cons ?_ ?_)
    all_goals intro vals x hx hv
    all_goals simp [Region.binds] at hv
    ·exact does_build1 (⟨0,0,d.nxt,d.iN,20,0,0,ByteArray.empty⟩) _ rfl hv ⟨(Since.refl _).alloc _,_,rfl,(heldG1 x (⟨0,0,d.nxt,d.iN,20,0,0,ByteArray.empty⟩)).raise hx.size⟩
    ·simp [does,doesUpon,go_sem,hv,Since.refl]
     rfl
    ·have fl0:x.cell? ⟨g,11,none⟩=some (.int .u32 d.iN):=(A.since hx).cell 11
     simp [does,doesUpon,go_sem,hv,fl0,Since.refl]
    ·simp [does,doesUpon,go_sem,hv,Since.refl]
    ·simp [does,doesUpon,go_sem,hv,Since.refl]
    ·simp [does,doesUpon,go_sem,hv,Since.refl]
    ·simp [does,doesUpon,go_sem,Since.refl]
    ·have fl0:x.cell? ⟨g,3,none⟩=some (.int .u32 d.nxt):=(A.since hx).cell 3
     simp [does,doesUpon,go_sem,hv,fl0,Since.refl]
    ·simp [does,doesUpon,go_sem,hv,Since.refl]
    ·simp [does,doesUpon,go_sem,hv,Since.refl]
    ·simp [does,doesUpon,go_sem,Since.refl]
    ·simp [does,doesUpon,go_sem,Since.refl]
   case refine_3=>
    intro qv4 qw2 qh3 hv
    have hv0:qv4 0=_:=hv 0 (by decide)
    have hv1:qv4 1=_:=hv 1 (by decide)
    have hv2:qv4 2=_:=hv 2 (by decide)
    have hv3:qv4 3=_:=hv 3 (by decide)
    have hv4:qv4 4=_:=hv 4 (by decide)
    have hv5:qv4 5=_:=hv 5 (by decide)
    have hv6:qv4 6=_:=hv 6 (by decide)
    have hv7:qv4 7=_:=hv 7 (by decide)
    have hv8:qv4 8=_:=hv 8 (by decide)
    have hv9:qv4 9=_:=hv 9 (by decide)
    have hv10:qv4 10=_:=hv 10 (by decide)
    obtain ⟨qx1,hv11,qx1_H⟩:=hv 11 (by decide)
    clear hv
    simp only [hv0,hv1,hv2,hv3,hv4,hv5,hv6,hv7,hv8,hv9,hv10,hv11,List.drop]
    clear hv0 hv1 hv2 hv3 hv4 hv5 hv6 hv7 hv8 hv9 hv10 hv11
    replace A:=A.since qh3
    replace L:=L.since qh3
    replace P:=P.since qh3
    replace G:=G.trans qh3
    have qh3_s:=qh3.size
    have qx1_m:=qx1_H.lt
    have qx1_o:=qx1_H.low'
    refine VL.out ?_
    refine vC (implSends _ _ _ _ _ _ _ _ _ _ _ _ hn _ ⟨A,L,P,pa,lo,(by omega),(by omega),(by omega)⟩ (qx1_H.raise (by omega)) (by omega)) ?_
    rintro _ qw5 ⟨rfl,⟨gsqk7,nqk7,cqk7,⟨Aqk7,Lqk7,Pqk7,paqk7,loqk7,iqk7,jqk7,lqk7⟩⟩,qh6⟩
    refine ⟨_,rfl,?_⟩
    clear A L P
    replace G:=G.base qh6
    have qh6_s:=qh6.size
    have Aqk7_l:=Aqk7.lt
    have Lqk7_l:=Lqk7.lt
    have Lqk7_o:=Lqk7.low'
    have Pqk7_l:=Pqk7.lt
    refine vE #[.pointer (some ⟨g,0,none⟩),U,.pointer (some ⟨g,0,none⟩),.pointer (some ⟨g,0,none⟩),.pointer (some ⟨g,0,none⟩),.pointer (some ⟨g,0,none⟩),.pointer (some ⟨g,0,none⟩),.pointer (some ⟨g,0,none⟩),.pointer (some ⟨g,0,none⟩),.int .i64 4,.bool false,.bool false,.bool true,.bool false,.bool false,.bool true,U,U,.pointer (some ⟨g,0,none⟩),.pointer (some ⟨g,0,none⟩),.pointer (some ⟨g,0,none⟩),.pointer (some ⟨g,3,none⟩),.int .u32 d.nxt,.pointer (some ⟨g,0,none⟩),.pointer (some ⟨g,0,none⟩),.pointer (some ⟨g,11,none⟩),.pointer (some ⟨g,11,none⟩),.int .u32 d.iN,.agg (sgCells ⟨0,0,d.nxt,d.iN,20,0,0,ByteArray.empty⟩),.slice (some ⟨qx1,0,none⟩) 1 1,.tuple #[],U,U] ?_
    go_upto_region 9 with (fail)
    refine vR ?_
    refine vV (.pointer (some ⟨g,0,none⟩)) ?_
    refine vC (implFinish _ _ _ _ _ _ _ _ _ _ 4 _ ⟨Aqk7,Lqk7,Pqk7,paqk7,loqk7,(by omega),(by omega),(by omega)⟩) ?_
    rintro _ qw8 ⟨rfl,⟨gsqk10,nqk10,cqk10,⟨Aqk10,Lqk10,Pqk10,paqk10,loqk10,iqk10,jqk10,lqk10⟩⟩,qh9⟩
    refine ⟨_,rfl,?_⟩
    clear Aqk7 Lqk7 Pqk7
    replace G:=G.base qh9
    have qh9_s:=qh9.size
    have Aqk10_l:=Aqk10.lt
    have Lqk10_l:=Lqk10.lt
    have Lqk10_o:=Lqk10.low'
    have Pqk10_l:=Pqk10.lt
    refine vE #[.pointer (some ⟨g,0,none⟩),U,.pointer (some ⟨g,0,none⟩),.pointer (some ⟨g,0,none⟩),.pointer (some ⟨g,0,none⟩),.pointer (some ⟨g,0,none⟩),.pointer (some ⟨g,0,none⟩),.pointer (some ⟨g,0,none⟩),.pointer (some ⟨g,0,none⟩),.int .i64 4,.bool false,.bool false,.bool true,.bool false,.bool false,.bool true,U,U,.pointer (some ⟨g,0,none⟩),.pointer (some ⟨g,0,none⟩),.pointer (some ⟨g,0,none⟩),.pointer (some ⟨g,3,none⟩),.int .u32 d.nxt,.pointer (some ⟨g,0,none⟩),.pointer (some ⟨g,0,none⟩),.pointer (some ⟨g,11,none⟩),.pointer (some ⟨g,11,none⟩),.int .u32 d.iN,.agg (sgCells ⟨0,0,d.nxt,d.iN,20,0,0,ByteArray.empty⟩),.slice (some ⟨qx1,0,none⟩) 1 1,.tuple #[],.pointer (some ⟨g,0,none⟩),.tuple #[]] ?_
    go_wp2_with (fail)
    refine bodyPost_end (v:=.tuple #[]) (results_none rfl _ _ _) rfl ⟨rfl,?_,G⟩
    rw [e1.out,e2.out]
    exact ⟨_,_,_,⟨Aqk10,Lqk10,Pqk10,paqk10,loqk10,(by omega),(by omega),(by omega)⟩⟩
  case neg=>
  by_cases h5:d.st=5
  case pos=>
   have hs:=h5
   have e1:Hid (goneC d=endC d 4):=if_neg h0
   have e2:Hid (goneS d xs=xs++[⟨0,0,d.nxt,d.iN,20,0,0,ByteArray.empty⟩]):=if_pos (by omega)
   clear h0
   rw [hs] at f_st
   clear hs
   go_upto_region 8 with (fail)
   refine wp_region_tail (wb:=w) 12 (fun i x v=>match i with
     | 0=>v=.pointer (some ⟨g,0,none⟩)
     | 1=>v=.pointer (some ⟨g,0,none⟩)
     | 2=>v=.pointer (some ⟨g,0,none⟩)
     | 3=>v=.pointer (some ⟨g,3,none⟩)
     | 4=>v=.int .u32 d.nxt
     | 5=>v=.pointer (some ⟨g,0,none⟩)
     | 6=>v=.pointer (some ⟨g,0,none⟩)
     | 7=>v=.pointer (some ⟨g,11,none⟩)
     | 8=>v=.pointer (some ⟨g,11,none⟩)
     | 9=>v=.int .u32 d.iN
     | 10=>v=.agg (sgCells ⟨0,0,d.nxt,d.iN,20,0,0,ByteArray.empty⟩)
     | 11=>∃ gy,v=.slice (some ⟨gy,0,none⟩) 1 1∧Held shG x w.heap.size gy 1 1 [⟨0,0,d.nxt,d.iN,20,0,0,ByteArray.empty⟩]
     | _=>True) (fun v=>{tmps:=#[.pointer (some ⟨g,0,none⟩),undef,.pointer (some ⟨g,0,none⟩),.pointer (some ⟨g,0,none⟩),.pointer (some ⟨g,0,none⟩),.pointer (some ⟨g,0,none⟩),.pointer (some ⟨g,0,none⟩),.pointer (some ⟨g,0,none⟩),.pointer (some ⟨g,0,none⟩),.int .i64 5,.bool false,.bool false,.bool true,.bool false,.bool false,.bool false,.bool true,undef,v 0,v 1,v 2,v 3,v 4,v 5,v 6,v 7,v 8,v 9,v 10,v 11,undef,undef,undef],defers:=[]}) (by kernel_rfl) (by kernel_rfl) (by kernel_rfl) (Since.refl _) ?_ (fun vals=>by kernel_rfl) ?_ ?_
   case refine_1=>
    intro j x x' v h1 h2
    match j,h2 with
    | 0,h2|1,h2|2,h2|3,h2|4,h2|5,h2|6,h2|7,h2|8,h2|9,h2|10,h2=>exact h2
    | 11,⟨gy,e,H⟩=>exact ⟨gy,e,H.since h1⟩
    | n+12,_=>trivial
   case refine_2=>
    repeat (first|exact eachDoes_nil|refine eachDoes_cons ?_ ?_)
    all_goals intro vals x hx hv
    all_goals simp [Region.binds] at hv
    ·exact does_build1 (⟨0,0,d.nxt,d.iN,20,0,0,ByteArray.empty⟩) _ rfl hv ⟨(Since.refl _).alloc _,_,rfl,(heldG1 x (⟨0,0,d.nxt,d.iN,20,0,0,ByteArray.empty⟩)).raise hx.size⟩
    ·simp [does,doesUpon,go_sem,hv,Since.refl]
     rfl
    ·have fl0:x.cell? ⟨g,11,none⟩=some (.int .u32 d.iN):=(A.since hx).cell 11
     simp [does,doesUpon,go_sem,hv,fl0,Since.refl]
    ·simp [does,doesUpon,go_sem,hv,Since.refl]
    ·simp [does,doesUpon,go_sem,hv,Since.refl]
    ·simp [does,doesUpon,go_sem,hv,Since.refl]
    ·simp [does,doesUpon,go_sem,Since.refl]
    ·have fl0:x.cell? ⟨g,3,none⟩=some (.int .u32 d.nxt):=(A.since hx).cell 3
     simp [does,doesUpon,go_sem,hv,fl0,Since.refl]
    ·simp [does,doesUpon,go_sem,hv,Since.refl]
    ·simp [does,doesUpon,go_sem,hv,Since.refl]
    ·simp [does,doesUpon,go_sem,Since.refl]
    ·simp [does,doesUpon,go_sem,Since.refl]
   case refine_3=>
    intro qv4 qw2 qh3 hv
    have hv0:qv4 0=_:=hv 0 (by decide)
    have hv1:qv4 1=_:=hv 1 (by decide)
    have hv2:qv4 2=_:=hv 2 (by decide)
    have hv3:qv4 3=_:=hv 3 (by decide)
    have hv4:qv4 4=_:=hv 4 (by decide)
    have hv5:qv4 5=_:=hv 5 (by decide)
    have hv6:qv4 6=_:=hv 6 (by decide)
    have hv7:qv4 7=_:=hv 7 (by decide)
    have hv8:qv4 8=_:=hv 8 (by decide)
    have hv9:qv4 9=_:=hv 9 (by decide)
    have hv10:qv4 10=_:=hv 10 (by decide)
    obtain ⟨qx1,hv11,qx1_H⟩:=hv 11 (by decide)
    clear hv
    simp only [hv0,hv1,hv2,hv3,hv4,hv5,hv6,hv7,hv8,hv9,hv10,hv11,List.drop]
    clear hv0 hv1 hv2 hv3 hv4 hv5 hv6 hv7 hv8 hv9 hv10 hv11
    replace A:=A.since qh3
    replace L:=L.since qh3
    replace P:=P.since qh3
    replace G:=G.trans qh3
    have qh3_s:=qh3.size
    have qx1_m:=qx1_H.lt
    have qx1_o:=qx1_H.low'
    refine VL.out ?_
    refine vC (implSends _ _ _ _ _ _ _ _ _ _ _ _ hn _ ⟨A,L,P,pa,lo,(by omega),(by omega),(by omega)⟩ (qx1_H.raise (by omega)) (by omega)) ?_
    rintro _ qw5 ⟨rfl,⟨gsqk7,nqk7,cqk7,⟨Aqk7,Lqk7,Pqk7,paqk7,loqk7,iqk7,jqk7,lqk7⟩⟩,qh6⟩
    refine ⟨_,rfl,?_⟩
    clear A L P
    replace G:=G.base qh6
    have qh6_s:=qh6.size
    have Aqk7_l:=Aqk7.lt
    have Lqk7_l:=Lqk7.lt
    have Lqk7_o:=Lqk7.low'
    have Pqk7_l:=Pqk7.lt
    refine vE #[.pointer (some ⟨g,0,none⟩),U,.pointer (some ⟨g,0,none⟩),.pointer (some ⟨g,0,none⟩),.pointer (some ⟨g,0,none⟩),.pointer (some ⟨g,0,none⟩),.pointer (some ⟨g,0,none⟩),.pointer (some ⟨g,0,none⟩),.pointer (some ⟨g,0,none⟩),.int .i64 5,.bool false,.bool false,.bool true,.bool false,.bool false,.bool false,.bool true,U,.pointer (some ⟨g,0,none⟩),.pointer (some ⟨g,0,none⟩),.pointer (some ⟨g,0,none⟩),.pointer (some ⟨g,3,none⟩),.int .u32 d.nxt,.pointer (some ⟨g,0,none⟩),.pointer (some ⟨g,0,none⟩),.pointer (some ⟨g,11,none⟩),.pointer (some ⟨g,11,none⟩),.int .u32 d.iN,.agg (sgCells ⟨0,0,d.nxt,d.iN,20,0,0,ByteArray.empty⟩),.slice (some ⟨qx1,0,none⟩) 1 1,.tuple #[],U,U] ?_
    go_upto_region 9 with (fail)
    refine vR ?_
    refine vV (.pointer (some ⟨g,0,none⟩)) ?_
    refine vC (implFinish _ _ _ _ _ _ _ _ _ _ 4 _ ⟨Aqk7,Lqk7,Pqk7,paqk7,loqk7,(by omega),(by omega),(by omega)⟩) ?_
    rintro _ qw8 ⟨rfl,⟨gsqk10,nqk10,cqk10,⟨Aqk10,Lqk10,Pqk10,paqk10,loqk10,iqk10,jqk10,lqk10⟩⟩,qh9⟩
    refine ⟨_,rfl,?_⟩
    clear Aqk7 Lqk7 Pqk7
    replace G:=G.base qh9
    have qh9_s:=qh9.size
    have Aqk10_l:=Aqk10.lt
    have Lqk10_l:=Lqk10.lt
    have Lqk10_o:=Lqk10.low'
    have Pqk10_l:=Pqk10.lt
    refine vE #[.pointer (some ⟨g,0,none⟩),U,.pointer (some ⟨g,0,none⟩),.pointer (some ⟨g,0,none⟩),.pointer (some ⟨g,0,none⟩),.pointer (some ⟨g,0,none⟩),.pointer (some ⟨g,0,none⟩),.pointer (some ⟨g,0,none⟩),.pointer (some ⟨g,0,none⟩),.int .i64 5,.bool false,.bool false,.bool true,.bool false,.bool false,.bool false,.bool true,U,.pointer (some ⟨g,0,none⟩),.pointer (some ⟨g,0,none⟩),.pointer (some ⟨g,0,none⟩),.pointer (some ⟨g,3,none⟩),.int .u32 d.nxt,.pointer (some ⟨g,0,none⟩),.pointer (some ⟨g,0,none⟩),.pointer (some ⟨g,11,none⟩),.pointer (some ⟨g,11,none⟩),.int .u32 d.iN,.agg (sgCells ⟨0,0,d.nxt,d.iN,20,0,0,ByteArray.empty⟩),.slice (some ⟨qx1,0,none⟩) 1 1,.tuple #[],.pointer (some ⟨g,0,none⟩),.tuple #[]] ?_
    go_wp2_with (fail)
    refine bodyPost_end (v:=.tuple #[]) (results_none rfl _ _ _) rfl ⟨rfl,?_,G⟩
    rw [e1.out,e2.out]
    exact ⟨_,_,_,⟨Aqk10,Lqk10,Pqk10,paqk10,loqk10,(by omega),(by omega),(by omega)⟩⟩
  case neg=>
  by_cases h6:d.st=6
  case pos=>
   have hs:=h6
   have e1:Hid (goneC d=endC d 4):=if_neg h0
   have e2:Hid (goneS d xs=xs++[⟨0,0,d.nxt,d.iN,20,0,0,ByteArray.empty⟩]):=if_pos (by omega)
   clear h0
   rw [hs] at f_st
   clear hs
   go_upto_region 8 with (fail)
   refine wp_region_tail (wb:=w) 12 (fun i x v=>match i with
     | 0=>v=.pointer (some ⟨g,0,none⟩)
     | 1=>v=.pointer (some ⟨g,0,none⟩)
     | 2=>v=.pointer (some ⟨g,0,none⟩)
     | 3=>v=.pointer (some ⟨g,3,none⟩)
     | 4=>v=.int .u32 d.nxt
     | 5=>v=.pointer (some ⟨g,0,none⟩)
     | 6=>v=.pointer (some ⟨g,0,none⟩)
     | 7=>v=.pointer (some ⟨g,11,none⟩)
     | 8=>v=.pointer (some ⟨g,11,none⟩)
     | 9=>v=.int .u32 d.iN
     | 10=>v=.agg (sgCells ⟨0,0,d.nxt,d.iN,20,0,0,ByteArray.empty⟩)
     | 11=>∃ gy,v=.slice (some ⟨gy,0,none⟩) 1 1∧Held shG x w.heap.size gy 1 1 [⟨0,0,d.nxt,d.iN,20,0,0,ByteArray.empty⟩]
     | _=>True) (fun v=>{tmps:=#[.pointer (some ⟨g,0,none⟩),undef,.pointer (some ⟨g,0,none⟩),.pointer (some ⟨g,0,none⟩),.pointer (some ⟨g,0,none⟩),.pointer (some ⟨g,0,none⟩),.pointer (some ⟨g,0,none⟩),.pointer (some ⟨g,0,none⟩),.pointer (some ⟨g,0,none⟩),.int .i64 6,.bool false,.bool false,.bool true,.bool false,.bool false,.bool false,.bool false,.bool true,v 0,v 1,v 2,v 3,v 4,v 5,v 6,v 7,v 8,v 9,v 10,v 11,undef,undef,undef],defers:=[]}) (by kernel_rfl) (by kernel_rfl) (by kernel_rfl) (Since.refl _) ?_ (fun vals=>by kernel_rfl) ?_ ?_
   case refine_1=>
    intro j x x' v h1 h2
    match j,h2 with
    | 0,h2|1,h2|2,h2|3,h2|4,h2|5,h2|6,h2|7,h2|8,h2|9,h2|10,h2=>exact h2
    | 11,⟨gy,e,H⟩=>exact ⟨gy,e,H.since h1⟩
    | n+12,_=>trivial
   case refine_2=>
    repeat (first|exact eachDoes_nil|refine eachDoes_cons ?_ ?_)
    all_goals intro vals x hx hv
    all_goals simp [Region.binds] at hv
    ·exact does_build1 (⟨0,0,d.nxt,d.iN,20,0,0,ByteArray.empty⟩) _ rfl hv ⟨(Since.refl _).alloc _,_,rfl,(heldG1 x (⟨0,0,d.nxt,d.iN,20,0,0,ByteArray.empty⟩)).raise hx.size⟩
    ·simp [does,doesUpon,go_sem,hv,Since.refl]
     rfl
    ·have fl0:x.cell? ⟨g,11,none⟩=some (.int .u32 d.iN):=(A.since hx).cell 11
     simp [does,doesUpon,go_sem,hv,fl0,Since.refl]
    ·simp [does,doesUpon,go_sem,hv,Since.refl]
    ·simp [does,doesUpon,go_sem,hv,Since.refl]
    ·simp [does,doesUpon,go_sem,hv,Since.refl]
    ·simp [does,doesUpon,go_sem,Since.refl]
    ·have fl0:x.cell? ⟨g,3,none⟩=some (.int .u32 d.nxt):=(A.since hx).cell 3
     simp [does,doesUpon,go_sem,hv,fl0,Since.refl]
    ·simp [does,doesUpon,go_sem,hv,Since.refl]
    ·simp [does,doesUpon,go_sem,hv,Since.refl]
    ·simp [does,doesUpon,go_sem,Since.refl]
    ·simp [does,doesUpon,go_sem,Since.refl]
   case refine_3=>
    intro qv4 qw2 qh3 hv
    have hv0:qv4 0=_:=hv 0 (by decide)
    have hv1:qv4 1=_:=hv 1 (by decide)
    have hv2:qv4 2=_:=hv 2 (by decide)
    have hv3:qv4 3=_:=hv 3 (by decide)
    have hv4:qv4 4=_:=hv 4 (by decide)
    have hv5:qv4 5=_:=hv 5 (by decide)
    have hv6:qv4 6=_:=hv 6 (by decide)
    have hv7:qv4 7=_:=hv 7 (by decide)
    have hv8:qv4 8=_:=hv 8 (by decide)
    have hv9:qv4 9=_:=hv 9 (by decide)
    have hv10:qv4 10=_:=hv 10 (by decide)
    obtain ⟨qx1,hv11,qx1_H⟩:=hv 11 (by decide)
    clear hv
    simp only [hv0,hv1,hv2,hv3,hv4,hv5,hv6,hv7,hv8,hv9,hv10,hv11,List.drop]
    clear hv0 hv1 hv2 hv3 hv4 hv5 hv6 hv7 hv8 hv9 hv10 hv11
    replace A:=A.since qh3
    replace L:=L.since qh3
    replace P:=P.since qh3
    replace G:=G.trans qh3
    have qh3_s:=qh3.size
    have qx1_m:=qx1_H.lt
    have qx1_o:=qx1_H.low'
    refine VL.out ?_
    refine vC (implSends _ _ _ _ _ _ _ _ _ _ _ _ hn _ ⟨A,L,P,pa,lo,(by omega),(by omega),(by omega)⟩ (qx1_H.raise (by omega)) (by omega)) ?_
    rintro _ qw5 ⟨rfl,⟨gsqk7,nqk7,cqk7,⟨Aqk7,Lqk7,Pqk7,paqk7,loqk7,iqk7,jqk7,lqk7⟩⟩,qh6⟩
    refine ⟨_,rfl,?_⟩
    clear A L P
    replace G:=G.base qh6
    have qh6_s:=qh6.size
    have Aqk7_l:=Aqk7.lt
    have Lqk7_l:=Lqk7.lt
    have Lqk7_o:=Lqk7.low'
    have Pqk7_l:=Pqk7.lt
    refine vE #[.pointer (some ⟨g,0,none⟩),U,.pointer (some ⟨g,0,none⟩),.pointer (some ⟨g,0,none⟩),.pointer (some ⟨g,0,none⟩),.pointer (some ⟨g,0,none⟩),.pointer (some ⟨g,0,none⟩),.pointer (some ⟨g,0,none⟩),.pointer (some ⟨g,0,none⟩),.int .i64 6,.bool false,.bool false,.bool true,.bool false,.bool false,.bool false,.bool false,.bool true,.pointer (some ⟨g,0,none⟩),.pointer (some ⟨g,0,none⟩),.pointer (some ⟨g,0,none⟩),.pointer (some ⟨g,3,none⟩),.int .u32 d.nxt,.pointer (some ⟨g,0,none⟩),.pointer (some ⟨g,0,none⟩),.pointer (some ⟨g,11,none⟩),.pointer (some ⟨g,11,none⟩),.int .u32 d.iN,.agg (sgCells ⟨0,0,d.nxt,d.iN,20,0,0,ByteArray.empty⟩),.slice (some ⟨qx1,0,none⟩) 1 1,.tuple #[],U,U] ?_
    go_upto_region 9 with (fail)
    refine vR ?_
    refine vV (.pointer (some ⟨g,0,none⟩)) ?_
    refine vC (implFinish _ _ _ _ _ _ _ _ _ _ 4 _ ⟨Aqk7,Lqk7,Pqk7,paqk7,loqk7,(by omega),(by omega),(by omega)⟩) ?_
    rintro _ qw8 ⟨rfl,⟨gsqk10,nqk10,cqk10,⟨Aqk10,Lqk10,Pqk10,paqk10,loqk10,iqk10,jqk10,lqk10⟩⟩,qh9⟩
    refine ⟨_,rfl,?_⟩
    clear Aqk7 Lqk7 Pqk7
    replace G:=G.base qh9
    have qh9_s:=qh9.size
    have Aqk10_l:=Aqk10.lt
    have Lqk10_l:=Lqk10.lt
    have Lqk10_o:=Lqk10.low'
    have Pqk10_l:=Pqk10.lt
    refine vE #[.pointer (some ⟨g,0,none⟩),U,.pointer (some ⟨g,0,none⟩),.pointer (some ⟨g,0,none⟩),.pointer (some ⟨g,0,none⟩),.pointer (some ⟨g,0,none⟩),.pointer (some ⟨g,0,none⟩),.pointer (some ⟨g,0,none⟩),.pointer (some ⟨g,0,none⟩),.int .i64 6,.bool false,.bool false,.bool true,.bool false,.bool false,.bool false,.bool false,.bool true,.pointer (some ⟨g,0,none⟩),.pointer (some ⟨g,0,none⟩),.pointer (some ⟨g,0,none⟩),.pointer (some ⟨g,3,none⟩),.int .u32 d.nxt,.pointer (some ⟨g,0,none⟩),.pointer (some ⟨g,0,none⟩),.pointer (some ⟨g,11,none⟩),.pointer (some ⟨g,11,none⟩),.int .u32 d.iN,.agg (sgCells ⟨0,0,d.nxt,d.iN,20,0,0,ByteArray.empty⟩),.slice (some ⟨qx1,0,none⟩) 1 1,.tuple #[],.pointer (some ⟨g,0,none⟩),.tuple #[]] ?_
    go_wp2_with (fail)
    refine bodyPost_end (v:=.tuple #[]) (results_none rfl _ _ _) rfl ⟨rfl,?_,G⟩
    rw [e1.out,e2.out]
    exact ⟨_,_,_,⟨Aqk10,Lqk10,Pqk10,paqk10,loqk10,(by omega),(by omega),(by omega)⟩⟩
  case neg=>
  have e1:Hid (goneC d=endC d 4):=if_neg h0
  have e2:Hid (goneS d xs=xs):=if_neg (by omega)
  have m0:(d.st == 0)=false:=by simp;omega
  have m2:(d.st == 2)=false:=by simp;omega
  have m3:(d.st == 3)=false:=by simp;omega
  have m4:(d.st == 4)=false:=by simp;omega
  have m5:(d.st == 5)=false:=by simp;omega
  have m6:(d.st == 6)=false:=by simp;omega
  clear h0 h2 h3 h4 h5 h6
  skip
  go_upto_region 9 with (fail)
  refine vR ?_
  refine vV (.pointer (some ⟨g,0,none⟩)) ?_
  refine vC (implFinish _ _ _ _ _ _ _ _ _ _ 4 _ ⟨A,L,P,pa,lo,(by omega),(by omega),(by omega)⟩) ?_
  rintro _ qw1 ⟨rfl,⟨gsqk3,nqk3,cqk3,⟨Aqk3,Lqk3,Pqk3,paqk3,loqk3,iqk3,jqk3,lqk3⟩⟩,qh2⟩
  refine ⟨_,rfl,?_⟩
  clear A L P
  replace G:=G.base qh2
  have qh2_s:=qh2.size
  have Aqk3_l:=Aqk3.lt
  have Lqk3_l:=Lqk3.lt
  have Lqk3_o:=Lqk3.low'
  have Pqk3_l:=Pqk3.lt
  refine vE #[.pointer (some ⟨g,0,none⟩),U,.pointer (some ⟨g,0,none⟩),.pointer (some ⟨g,0,none⟩),.pointer (some ⟨g,0,none⟩),.pointer (some ⟨g,0,none⟩),.pointer (some ⟨g,0,none⟩),.pointer (some ⟨g,0,none⟩),.pointer (some ⟨g,0,none⟩),.int .i64 d.st,.bool false,.bool false,.bool false,.bool false,.bool false,.bool false,.bool false,.bool false,U,U,U,U,U,U,U,U,U,U,U,U,U,.pointer (some ⟨g,0,none⟩),.tuple #[]] ?_
  go_wp2_with (fail)
  refine bodyPost_end (v:=.tuple #[]) (results_none rfl _ _ _) rfl ⟨rfl,?_,G⟩
  rw [e1.out,e2.out]
  exact ⟨_,_,_,⟨Aqk3,Lqk3,Pqk3,paqk3,loqk3,(by omega),(by omega),(by omega)⟩⟩

theorem gone_pn (d:Cn):(goneC d).pn=d.pn:=by unfold goneC;split<;>rfl

theorem gone_pc (d:Cn):(goneC d).pc=d.pc:=by unfold goneC;split<;>rfl

theorem abort_gone (c:Cn) (ps:List (Int×ByteArray)) (a:Option Addr) (p:Nat) (h:connOk c ps=true):({abortC c ps with pa:=a,pc:=p}:Cn)=goneC {c with pa:=a,pc:=p}:=by
 unfold abortC goneC
 rw [h]
 by_cases h0:c.st=0
 ·rw [if_pos (show ({c with pa:=a,pc:=p}:Cn).st=0 from h0),if_neg (by simp [h0])]
 ·rw [if_neg (show ¬ ({c with pa:=a,pc:=p}:Cn).st=0 from h0),if_pos (by simp [h0])]
  rfl

theorem abort_goneS (c:Cn) (ps:List (Int×ByteArray)) (a:Option Addr) (p:Nat) (h:connOk c ps=true):abortS c ps=goneS {c with pa:=a,pc:=p} []:=by
 unfold abortS goneS
 rw [h]
 by_cases h0:2≤c.st∧c.st≤6
 ·rw [if_pos (show 2≤({c with pa:=a,pc:=p}:Cn).st∧({c with pa:=a,pc:=p}:Cn).st≤6 from h0),if_pos (by simp;omega)]
  rfl
 ·rw [if_neg (show ¬ (2≤({c with pa:=a,pc:=p}:Cn).st∧({c with pa:=a,pc:=p}:Cn).st≤6) from h0),if_neg (by simp;omega)]

set_option maxRecDepth 20000 in
set_option maxHeartbeats 8000000 in
theorem implAbort (c:Cn) (ps:List (Int×ByteArray)) (gc:GoodC c ps) (w:World) (R:Rd shP w c.pa c.pn ps) :
  Calls Tryz.prog 71 #[.agg (cnCells c)] w fun e w'=>∃ g ga m ca,e=.returned (.tuple #[.agg (cnCells {abortC c ps with pa:=some ⟨g,0,none⟩,pc:=c.pn}),.slice (some ⟨ga,0,none⟩) m ca])∧Held shP w' w.heap.size g c.pn c.pn ps∧Held shG w' w.heap.size ga m ca (abortS c ps)∧ga≠g∧Since w w':=by
 have hao:=fun wx Rx=>implActOf c ps 0 gc wx Rx
 have hk:=fun wx Rx=>implConnOk c ps gc wx Rx
 unfold cnVal at hk
 obtain ⟨q,hq⟩:∃ q,Hid (q=connOk c ps):=⟨_,rfl⟩
 rw [← hq.out] at hk
 obtain ⟨D,hD⟩:∃ q,Hid (q=abortC c ps):=⟨_,rfl⟩
 obtain ⟨XS,hXS⟩:∃ q,Hid (q=abortS c ps):=⟨_,rfl⟩
 rw [← hD.out,← hXS.out]
 go_enter Tryz.func71,Tryz.ntmps71
 go_upto_region 1 with (fail)
 rw [cn_zero]
 have G:=((Since.refl w).alloc (.cells (cnCells c) 50)).alloc (.cells (cnCells cnZero) 50)
 have A:=(Blk.new w (cnCells c) 50).since ((Since.refl _).alloc (.cells (cnCells cnZero) 50))
 have Z:=Blk.new (w.alloc (.cells (cnCells c) 50)) (cnCells cnZero) 50
 rw [World.size_alloc] at Z
 generalize (w.alloc (.cells (cnCells c) 50)).alloc (.cells (cnCells cnZero) 50)=x0 at A Z G ⊢
 have hZ:=Z.lt
 refine vR ?_
 refine vB cn_big A (cn_size _) ?_
 refine vC (hao _ (R.since G)) ?_
 rintro _ qw1 ⟨g,pg,gs,rfl,⟨A1,L1,P1,pa1,lo1,i1,j1,l1⟩,qg2⟩
 refine ⟨_,rfl,?_⟩
 replace A:=A.since qg2
 replace Z:=Z.since qg2
 replace G:=G.trans qg2
 have qg2_s:=qg2.size
 have A1_l:=A1.lt
 have L1_l:=L1.lt
 have L1_o:=L1.low'
 have P1_l:=P1.lt
 have P1_o:=P1.low'
 refine vV (.pointer (some ⟨g,0,none⟩)) ?_
 refine vE #[.agg (cnCells c),.pointer (some ⟨w.heap.size,0,none⟩),.pointer (some ⟨w.heap.size+1,0,none⟩),.slice none 0 0,.pointer (some ⟨g,0,none⟩),.agg (cnCells c),.pointer (some ⟨g,0,none⟩),U,U,U,U,U,U,U,U,U,U,U,U] ?_
 go_upto_region 2 with (fail)
 cases q
 case false=>
  refine vR ?_
  refine vB cn_big A (cn_size _) ?_
  refine vK (hk _ (R.since G)) ?_
  intro qw3 qg4
  replace A:=A.since qg4
  replace Z:=Z.since qg4
  replace A1:=A1.since qg4
  replace L1:=L1.since qg4
  replace P1:=P1.since qg4
  replace G:=G.trans qg4
  have qg4_s:=qg4.size
  refine vE #[.agg (cnCells c),.pointer (some ⟨w.heap.size,0,none⟩),.pointer (some ⟨w.heap.size+1,0,none⟩),.slice none 0 0,.pointer (some ⟨g,0,none⟩),.agg (cnCells c),.pointer (some ⟨g,0,none⟩),.agg (cnCells c),.bool false,U,U,U,U,U,U,U,U,U,U] ?_
  go_upto_region 4 with (fail)
  have hRz:Raw (w.heap.size+1) (cnCells {c with pa:=some ⟨pg,0,none⟩,pc:=c.pn}).size qw3:=⟨cnCells cnZero,rfl,Z⟩
  refine wp_region_keep (wb:=qw3) (w.heap.size+1) (cnCells {c with pa:=some ⟨pg,0,none⟩,pc:=c.pn}) (fun i x v=>match i with
    | 0=>v=.pointer (some ⟨g,0,none⟩)
    | 1=>v=.pointer (some ⟨g,0,none⟩)
    | 2=>v=.pointer (some ⟨g,0,none⟩)
    | 3=>v=.agg (cnCells {c with pa:=some ⟨pg,0,none⟩,pc:=c.pn})
    | 4=>v=.pointer (some ⟨g,0,none⟩)
    | 5=>v=.pointer (some ⟨g,0,none⟩)
    | 6=>v=.pointer (some ⟨g,38,none⟩)
    | 7=>v=.slice (some ⟨gs,0,none⟩) 0 0
    | 9=>v=.slice (some ⟨gs,0,none⟩) 0 0
    | 8=>Blk (w.heap.size+1) x (cnCells {c with pa:=some ⟨pg,0,none⟩,pc:=c.pn})
    | _=>True) (fun v=>{tmps:=#[.agg (cnCells c),.pointer (some ⟨w.heap.size,0,none⟩),.pointer (some ⟨w.heap.size+1,0,none⟩),v 9,.pointer (some ⟨g,0,none⟩),.agg (cnCells c),.pointer (some ⟨g,0,none⟩),.agg (cnCells c),.bool false,undef,undef,v 0,v 1,v 2,v 3,v 4,v 5,v 6,v 7],defers:=[]}) (by kernel_rfl) (by kernel_rfl) (by kernel_rfl) (KeepB.refl _ _ _) ?_ (fun vals=>by kernel_rfl) ?_ ?_
  case refine_1=>
   intro j x y v h1 h2
   match j,h2 with
   | 8,h2=>exact h1.done h2
   | 0,h2|1,h2|2,h2|3,h2|4,h2|5,h2|6,h2|7,h2|9,h2=>exact h2
   | n+10,_=>trivial
  case refine_2=>
   repeat (first|exact eachDoesR_nil|refine eachDoesR_cons ?_ ?_)
   all_goals intro vals x hx hv
   all_goals simp [Region.binds] at hv
   ·simp [does,doesUpon,go_sem,hv,KeepB.refl]
   ·refine does_store cn_big (cn_size _) (hx.raw hRz) (cn_one _) _ _ rfl rfl hv.1 ?_
    intro z t B
    exact ⟨keep_of t B,B⟩
   ·have fl0:x.cell? ⟨g,38,none⟩=some (.slice (some ⟨gs,0,none⟩) 0 0):=(A1.touch hx.touch (by omega)).cell 38
    simp [does,doesUpon,go_sem,hv,fl0,KeepB.refl]
   ·simp [does,doesUpon,go_sem,hv,KeepB.refl]
   ·simp [does,doesUpon,go_sem,hv,KeepB.refl]
   ·simp [does,doesUpon,go_sem,KeepB.refl]
   ·exact does_end (A1.touch hx.touch (by omega)) _ rfl hv ⟨KeepB.refl _ _ _,rfl⟩
   ·simp [does,doesUpon,go_sem,hv,KeepB.refl]
   ·simp [does,doesUpon,go_sem,hv,KeepB.refl]
   ·simp [does,doesUpon,go_sem,KeepB.refl]
  case refine_3=>
   intro vals y hx hv
   have Zb:Blk (w.heap.size+1) y (cnCells {c with pa:=some ⟨pg,0,none⟩,pc:=c.pn}):=hv 8 (by decide)
   have hv0:vals 0=_:=hv 0 (by decide)
   have hv1:vals 1=_:=hv 1 (by decide)
   have hv2:vals 2=_:=hv 2 (by decide)
   have hv3:vals 3=_:=hv 3 (by decide)
   have hv4:vals 4=_:=hv 4 (by decide)
   have hv5:vals 5=_:=hv 5 (by decide)
   have hv6:vals 6=_:=hv 6 (by decide)
   have hv7:vals 7=_:=hv 7 (by decide)
   have hv9:vals 9=_:=hv 9 (by decide)
   clear hv
   simp only [hv0,hv1,hv2,hv3,hv4,hv5,hv6,hv7,hv9]
   have hT:=hx.touch
   replace L1:=L1.touch hT (by omega)
   replace P1:=P1.touch hT (by omega)
   replace G:=since_touch G hT (by omega)
   clear hv0 hv1 hv2 hv3 hv4 hv5 hv6 hv7 hv9
   go_wp2_with (fail)
   refine bodyPost_ret (results_cn2 (t:=2) (u:=3) rfl _ rfl Zb) rfl ⟨pg,gs,0,0,?_,P1.raise (by omega),?_,by omega,G⟩
   ·rw [hD.out];unfold abortC;rw [← hq.out];rfl
   ·rw [hXS.out];unfold abortS;rw [← hq.out];exact L1.raise (by omega)
 case true=>
  refine vR ?_
  refine vB cn_big A (cn_size _) ?_
  refine vK (hk _ (R.since G)) ?_
  intro qw3 qg4
  replace A:=A.since qg4
  replace Z:=Z.since qg4
  replace A1:=A1.since qg4
  replace L1:=L1.since qg4
  replace P1:=P1.since qg4
  replace G:=G.trans qg4
  have qg4_s:=qg4.size
  refine vE #[.agg (cnCells c),.pointer (some ⟨w.heap.size,0,none⟩),.pointer (some ⟨w.heap.size+1,0,none⟩),.slice none 0 0,.pointer (some ⟨g,0,none⟩),.agg (cnCells c),.pointer (some ⟨g,0,none⟩),.agg (cnCells c),.bool true,U,U,U,U,U,U,U,U,U,U] ?_
  go_upto_region 3 with (fail)
  refine vR ?_
  refine vV (.pointer (some ⟨g,0,none⟩)) ?_
  refine vC (implGone _ _ _ _ _ _ _ _ _ _ (by omega) _ ⟨A1,L1,P1,pa1,lo1,(by omega),(by omega),(by omega)⟩) ?_
  rintro _ qw5 ⟨rfl,⟨gsqk7,nqk7,cqk7,⟨Aqk7,Lqk7,Pqk7,paqk7,loqk7,iqk7,jqk7,lqk7⟩⟩,qh6⟩
  refine ⟨_,rfl,?_⟩
  clear A1 L1 P1
  replace A:=qh6.blk A (by omega)
  replace Z:=qh6.blk Z (by omega)
  replace G:=since_base G qh6 (by omega)
  have qh6_s:=qh6.size
  have Aqk7_l:=Aqk7.lt
  have Lqk7_l:=Lqk7.lt
  have Lqk7_o:=Lqk7.low'
  have Pqk7_l:=Pqk7.lt
  refine vE #[.agg (cnCells c),.pointer (some ⟨w.heap.size,0,none⟩),.pointer (some ⟨w.heap.size+1,0,none⟩),.slice none 0 0,.pointer (some ⟨g,0,none⟩),.agg (cnCells c),.pointer (some ⟨g,0,none⟩),.agg (cnCells c),.bool true,.pointer (some ⟨g,0,none⟩),.tuple #[],U,U,U,U,U,U,U,U] ?_
  go_upto_region 4 with (fail)
  have hRz:Raw (w.heap.size+1) (cnCells (goneC {c with pa:=some ⟨pg,0,none⟩,pc:=c.pn})).size qw5:=⟨cnCells cnZero,rfl,Z⟩
  refine wp_region_keep (wb:=qw5) (w.heap.size+1) (cnCells (goneC {c with pa:=some ⟨pg,0,none⟩,pc:=c.pn})) (fun i x v=>match i with
    | 0=>v=.pointer (some ⟨g,0,none⟩)
    | 1=>v=.pointer (some ⟨g,0,none⟩)
    | 2=>v=.pointer (some ⟨g,0,none⟩)
    | 3=>v=.agg (cnCells (goneC {c with pa:=some ⟨pg,0,none⟩,pc:=c.pn}))
    | 4=>v=.pointer (some ⟨g,0,none⟩)
    | 5=>v=.pointer (some ⟨g,0,none⟩)
    | 6=>v=.pointer (some ⟨g,38,none⟩)
    | 7=>v=.slice (some ⟨gsqk7,0,none⟩) nqk7 cqk7
    | 9=>v=.slice (some ⟨gsqk7,0,none⟩) nqk7 cqk7
    | 8=>Blk (w.heap.size+1) x (cnCells (goneC {c with pa:=some ⟨pg,0,none⟩,pc:=c.pn}))
    | _=>True) (fun v=>{tmps:=#[.agg (cnCells c),.pointer (some ⟨w.heap.size,0,none⟩),.pointer (some ⟨w.heap.size+1,0,none⟩),v 9,.pointer (some ⟨g,0,none⟩),.agg (cnCells c),.pointer (some ⟨g,0,none⟩),.agg (cnCells c),.bool true,.pointer (some ⟨g,0,none⟩),.tuple #[],v 0,v 1,v 2,v 3,v 4,v 5,v 6,v 7],defers:=[]}) (by kernel_rfl) (by kernel_rfl) (by kernel_rfl) (KeepB.refl _ _ _) ?_ (fun vals=>by kernel_rfl) ?_ ?_
  case refine_1=>
   intro j x y v h1 h2
   match j,h2 with
   | 8,h2=>exact h1.done h2
   | 0,h2|1,h2|2,h2|3,h2|4,h2|5,h2|6,h2|7,h2|9,h2=>exact h2
   | n+10,_=>trivial
  case refine_2=>
   repeat (first|exact eachDoesR_nil|refine eachDoesR_cons ?_ ?_)
   all_goals intro vals x hx hv
   all_goals simp [Region.binds] at hv
   ·simp [does,doesUpon,go_sem,hv,KeepB.refl]
   ·refine does_store cn_big (cn_size _) (hx.raw hRz) (cn_one _) _ _ rfl rfl hv.1 ?_
    intro z t B
    exact ⟨keep_of t B,B⟩
   ·have fl0:x.cell? ⟨g,38,none⟩=some (.slice (some ⟨gsqk7,0,none⟩) nqk7 cqk7):=(Aqk7.touch hx.touch (by omega)).cell 38
    simp [does,doesUpon,go_sem,hv,fl0,KeepB.refl]
   ·simp [does,doesUpon,go_sem,hv,KeepB.refl]
   ·simp [does,doesUpon,go_sem,hv,KeepB.refl]
   ·simp [does,doesUpon,go_sem,KeepB.refl]
   ·exact does_end (Aqk7.touch hx.touch (by omega)) _ rfl hv ⟨KeepB.refl _ _ _,rfl⟩
   ·simp [does,doesUpon,go_sem,hv,KeepB.refl]
   ·simp [does,doesUpon,go_sem,hv,KeepB.refl]
   ·simp [does,doesUpon,go_sem,KeepB.refl]
  case refine_3=>
   intro vals y hx hv
   have Zb:Blk (w.heap.size+1) y (cnCells (goneC {c with pa:=some ⟨pg,0,none⟩,pc:=c.pn})):=hv 8 (by decide)
   have hv0:vals 0=_:=hv 0 (by decide)
   have hv1:vals 1=_:=hv 1 (by decide)
   have hv2:vals 2=_:=hv 2 (by decide)
   have hv3:vals 3=_:=hv 3 (by decide)
   have hv4:vals 4=_:=hv 4 (by decide)
   have hv5:vals 5=_:=hv 5 (by decide)
   have hv6:vals 6=_:=hv 6 (by decide)
   have hv7:vals 7=_:=hv 7 (by decide)
   have hv9:vals 9=_:=hv 9 (by decide)
   clear hv
   simp only [hv0,hv1,hv2,hv3,hv4,hv5,hv6,hv7,hv9]
   have hT:=hx.touch
   replace Lqk7:=Lqk7.touch hT (by omega)
   replace Pqk7:=Pqk7.touch hT (by omega)
   replace G:=since_touch G hT (by omega)
   clear hv0 hv1 hv2 hv3 hv4 hv5 hv6 hv7 hv9
   go_wp2_with (fail)
   refine bodyPost_ret (results_cn2 (t:=2) (u:=3) rfl _ rfl Zb) rfl ⟨pg,gsqk7,nqk7,cqk7,?_,(by have h:=Pqk7;rw [gone_pn,gone_pc] at h;exact h.raise (by omega)),?_,by omega,G⟩
   ·rw [hD.out,abort_gone c ps _ _ hq.out.symm];rfl
   ·rw [hXS.out,abort_goneS c ps (some ⟨pg,0,none⟩) c.pn hq.out.symm];exact Lqk7.raise (by omega)
end Go.Proofs.YtnbopjlpemmkcaaGreat
