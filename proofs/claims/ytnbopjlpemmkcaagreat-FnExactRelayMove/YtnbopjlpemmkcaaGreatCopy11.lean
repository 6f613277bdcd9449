/-
  A copy of an end, and an end that is closed, as spec makes them.
-/
import Derived.Test.YtnbopjlpemmkcaaGreatM17
import Derived.Test.YtnbopjlpemmkcaaGreatM20
import Derived.Test.YtnbopjlpemmkcaaGreatM10
import Derived.Deep.DeepCutAuto
import Derived.Great.BuildSlice
namespace Go.Proofs.YtnbopjlpemmkcaaGreat
open Go.ChangeShapes Go.WideShapes Go.ChangeAt Go.RowKit
set_option linter.unusedVariables false
set_option maxRecDepth 10000

set_option maxRecDepth 20000 in
set_option maxHeartbeats 8000000 in
theorem specCopied (c:Cn) (ps:List (Int×ByteArray)) (gc:GoodC c ps) (hnil:c.pa=none→c.pc=0) (w:World) (R:Rd shP w c.pa c.pn ps) :
  Calls Tryz.prog 20 #[cnVal c] w fun e w'=>∃ g cp,e=.returned (cnVal {c with pa:=some ⟨g,0,none⟩,pc:=cp})∧Held shP w' w.heap.size g c.pn cp ps∧Since w w':=by
 have hc:=fun wx Rx=>copyIn c.iN c.iD c.iR c.pa c.pn c.pc ps gc.gd.hn hnil wx Rx
 unfold inVal at hc
 unfold cnVal
 go_enter Tryz.func20,Tryz.ntmps20
 go_upto_region 1 with (fail)
 rw [cn_zero]
 have G:=((Since.refl w).alloc (.cells (cnCells c) 50)).alloc (.cells (cnCells cnZero) 50)
 have A:=(Blk.new w (cnCells c) 50).since ((Since.refl _).alloc (.cells (cnCells cnZero) 50))
 have Z:=Blk.new (w.alloc (.cells (cnCells c) 50)) (cnCells cnZero) 50
 rw [World.size_alloc] at Z
 replace R:=R.since G
 generalize (w.alloc (.cells (cnCells c) 50)).alloc (.cells (cnCells cnZero) 50)=x0 at A Z G R ⊢
 have hZ:=Z.lt
 refine wp_region_lit ?_
 refine step_val (w':=x0) rfl (.pointer (some ⟨w.heap.size,11,none⟩)) (by kernel_rfl) ?_
 refine wpList_frame (a':={tmps:=#[.agg (cnCells c),.pointer (some ⟨w.heap.size,0,none⟩),.pointer (some ⟨w.heap.size+1,0,none⟩),.pointer (some ⟨w.heap.size,11,none⟩),undef,undef,undef,undef],defers:=[]}) (by kernel_rfl) ?_
 refine load_part A rfl pIn_big _ rfl 11 rfl [.int .u32 c.iN,.string c.iD,.slice c.pa c.pn c.pc,.int .i64 c.iR] rfl (fun j v hj=>by match j,hj with|0,h=>exact h|1,h=>exact h|2,h=>exact h|3,h=>exact h|n+4,h=>exact absurd h (by simp)) ?_
 refine call_step rfl 45 #[.agg #[.int .u32 c.iN,.string c.iD,.slice c.pa c.pn c.pc,.int .i64 c.iR]] (by kernel_rfl) (hc _ R) ?_
 rintro _ qw1 ⟨g,cp,rfl,H,qg2⟩
 refine ⟨_,rfl,?_⟩
 replace A:=A.since qg2
 replace Z:=Z.since qg2
 replace R:=R.since qg2
 replace G:=G.trans qg2
 have qg2_s:=qg2.size
 have hH0:=H.low'
 replace H:=H.raise (show w.heap.size≤g by omega)
 have hH:=H.lt
 clear R
 refine wpList_frame (a':={tmps:=#[.agg (cnCells c),.pointer (some ⟨w.heap.size,0,none⟩),.pointer (some ⟨w.heap.size+1,0,none⟩),.pointer (some ⟨w.heap.size,11,none⟩),.agg #[.int .u32 c.iN,.string c.iD,.slice c.pa c.pn c.pc,.int .i64 c.iR],.agg #[.int .u32 c.iN,.string c.iD,.slice (some ⟨g,0,none⟩) c.pn cp,.int .i64 c.iR],undef,undef],defers:=[]}) (by kernel_rfl) ?_
 refine step_val (w':=qw1) rfl (.pointer (some ⟨w.heap.size,11,none⟩)) (by kernel_rfl) ?_
 refine wpList_frame (a':={tmps:=#[.agg (cnCells c),.pointer (some ⟨w.heap.size,0,none⟩),.pointer (some ⟨w.heap.size+1,0,none⟩),.pointer (some ⟨w.heap.size,11,none⟩),.agg #[.int .u32 c.iN,.string c.iD,.slice c.pa c.pn c.pc,.int .i64 c.iR],.agg #[.int .u32 c.iN,.string c.iD,.slice (some ⟨g,0,none⟩) c.pn cp,.int .i64 c.iR],.pointer (some ⟨w.heap.size,11,none⟩),undef],defers:=[]}) (by kernel_rfl) ?_
 refine store_part (cs':=cnCells {c with iN:=c.iN,iD:=c.iD,pa:=(some ⟨g,0,none⟩),pn:=c.pn,pc:=cp,iR:=c.iR}) A rfl pIn_big _ _ rfl 11 rfl #[.int .u32 c.iN,.string c.iD,.slice (some ⟨g,0,none⟩) c.pn cp,.int .i64 c.iR] rfl rfl (by simp [Value.oneCell']) (by rw [cn_size];decide) rfl ?_
 intro qw3 qt4 qB5
 clear A
 replace Z:=Z.touch qt4 (by omega)
 replace H:=H.touch qt4 (by omega)
 replace G:=since_touch G qt4 (by omega)
 have qt4_s:=qt4.size
 refine wpList_frame (a':={tmps:=#[.agg (cnCells c),.pointer (some ⟨w.heap.size,0,none⟩),.pointer (some ⟨w.heap.size+1,0,none⟩),.pointer (some ⟨w.heap.size,11,none⟩),.agg #[.int .u32 c.iN,.string c.iD,.slice c.pa c.pn c.pc,.int .i64 c.iR],.agg #[.int .u32 c.iN,.string c.iD,.slice (some ⟨g,0,none⟩) c.pn cp,.int .i64 c.iR],.pointer (some ⟨w.heap.size,11,none⟩),undef],defers:=[]}) (by kernel_rfl) ?_
 go_upto_region 2 with (fail)
 refine wp_region_lit ?_
 refine load_big cn_big (cn_size _) qB5 rfl _ rfl rfl ?_
 refine wpList_frame (a':={tmps:=#[.agg (cnCells c),.pointer (some ⟨w.heap.size,0,none⟩),.pointer (some ⟨w.heap.size+1,0,none⟩),.pointer (some ⟨w.heap.size,11,none⟩),.agg #[.int .u32 c.iN,.string c.iD,.slice c.pa c.pn c.pc,.int .i64 c.iR],.agg #[.int .u32 c.iN,.string c.iD,.slice (some ⟨g,0,none⟩) c.pn cp,.int .i64 c.iR],.pointer (some ⟨w.heap.size,11,none⟩),.agg (cnCells {c with iN:=c.iN,iD:=c.iD,pa:=(some ⟨g,0,none⟩),pn:=c.pn,pc:=cp,iR:=c.iR})],defers:=[]}) (by kernel_rfl) ?_
 refine store_big cn_big (cn_size _) (cn_size _) (cn_one _) Z rfl _ _ rfl rfl rfl ?_
 intro qw6 qt7 qB8
 clear Z
 replace qB5:=qB5.touch qt7 (by omega)
 replace H:=H.touch qt7 (by omega)
 replace G:=since_touch G qt7 (by omega)
 have qt7_s:=qt7.size
 refine wpList_frame (a':={tmps:=#[.agg (cnCells c),.pointer (some ⟨w.heap.size,0,none⟩),.pointer (some ⟨w.heap.size+1,0,none⟩),.pointer (some ⟨w.heap.size,11,none⟩),.agg #[.int .u32 c.iN,.string c.iD,.slice c.pa c.pn c.pc,.int .i64 c.iR],.agg #[.int .u32 c.iN,.string c.iD,.slice (some ⟨g,0,none⟩) c.pn cp,.int .i64 c.iR],.pointer (some ⟨w.heap.size,11,none⟩),.agg (cnCells {c with iN:=c.iN,iD:=c.iD,pa:=(some ⟨g,0,none⟩),pn:=c.pn,pc:=cp,iR:=c.iR})],defers:=[]}) (by kernel_rfl) ?_
 go_wp2_with (fail)
 exact bodyPost_ret (results_cn (t:=2) rfl _ rfl qB8) rfl ⟨_,_,rfl,H,G⟩

theorem specOkAt (c:Cn) (ps:List (Int×ByteArray)) (gc:GoodC c ps) (g cp:Nat) (wx:World) (Rx:Rd shP wx (some ⟨g,0,none⟩) c.pn ps):Calls Tryz.prog 22 #[.agg (cnCells {c with pa:=some ⟨g,0,none⟩,pc:=cp})] wx fun e w'=>e=.returned (.bool (connOk c ps))∧Since wx w':=
 specConnOk {c with pa:=some ⟨g,0,none⟩,pc:=cp} ps ⟨gc.w_iss,gc.w_una,gc.w_nxt,gc.w_mx,gc.w_wsq,gc.w_wak,gc.w_oF,gc.w_fsq,gc.w_cR,gc.w_tsq,gc.hod,gc.gd⟩ wx Rx

def mayW (st:Int):Bool:=decide (st=1∨st=2∨st=3∨st=6)

def closeC (c:Cn) (ps:List (Int×ByteArray)):Cn:=if connOk c ps && mayW c.st then {c with fin:=true} else c

set_option maxRecDepth 20000 in
set_option maxHeartbeats 8000000 in
theorem specClose (c:Cn) (ps:List (Int×ByteArray)) (gc:GoodC c ps) (hnil:c.pa=none→c.pc=0) (w:World) (R:Rd shP w c.pa c.pn ps) :
  Calls Tryz.prog 57 #[cnVal c] w fun e w'=>∃ g cp,e=.returned (cnVal {closeC c ps with pa:=some ⟨g,0,none⟩,pc:=cp})∧Held shP w' w.heap.size g c.pn cp ps∧Since w w':=by
 have hc:=fun wx Rx=>specCopied c ps gc hnil wx Rx
 have hk:=fun g cp wx Rx=>specConnOk {c with pa:=some ⟨g,0,none⟩,pc:=cp} ps ⟨gc.w_iss,gc.w_una,gc.w_nxt,gc.w_mx,gc.w_wsq,gc.w_wak,gc.w_oF,gc.w_fsq,gc.w_cR,gc.w_tsq,gc.hod,gc.gd⟩ wx Rx
 replace hk:∀ (g cp:Nat) (wx:World),Rd shP wx (some ⟨g,0,none⟩) c.pn ps→Calls Tryz.prog 22 #[cnVal {c with pa:=some ⟨g,0,none⟩,pc:=cp}] wx fun e w'=>e=.returned (.bool (connOk c ps))∧Since wx w':=hk
 obtain ⟨d,hd⟩:∃ d,Hid (d=closeC c ps):=⟨_,rfl⟩
 rw [← hd.out]
 obtain ⟨q,hq⟩:∃ q,Hid (q=connOk c ps):=⟨_,rfl⟩
 rw [← hq.out] at hk
 unfold cnVal at hc hk
 unfold cnVal
 go_enter Tryz.func57,Tryz.ntmps57
 go_upto_region 1 with (fail)
 rw [cn_zero]
 have G:=((Since.refl w).alloc (.cells (cnCells c) 50)).alloc (.cells (cnCells cnZero) 50)
 have A:=(Blk.new w (cnCells c) 50).since ((Since.refl _).alloc (.cells (cnCells cnZero) 50))
 have Z:=Blk.new (w.alloc (.cells (cnCells c) 50)) (cnCells cnZero) 50
 rw [World.size_alloc] at Z
 replace R:=R.since G
 generalize (w.alloc (.cells (cnCells c) 50)).alloc (.cells (cnCells cnZero) 50)=x0 at A Z G R ⊢
 have hZ:=Z.lt
 refine wp_region_lit ?_
 refine load_big cn_big (cn_size _) A rfl _ rfl rfl ?_
 refine call_step rfl 20 #[.agg (cnCells c)] (by kernel_rfl) (hc _ R) ?_
 rintro _ qw1 ⟨g,cp,rfl,H,qg2⟩
 refine ⟨_,rfl,?_⟩
 replace A:=A.since qg2
 replace Z:=Z.since qg2
 replace R:=R.since qg2
 replace G:=G.trans qg2
 have qg2_s:=qg2.size
 have hH0:=H.low'
 replace H:=H.raise (show w.heap.size≤g by omega)
 have hH:=H.lt
 clear R
 refine wpList_frame (a':={tmps:=#[.agg (cnCells c),.pointer (some ⟨w.heap.size,0,none⟩),.pointer (some ⟨w.heap.size+1,0,none⟩),.agg (cnCells c),.agg (cnCells {c with pa:=some ⟨g,0,none⟩,pc:=cp}),undef,undef,undef,undef,undef,undef,undef,undef,undef,undef,undef,undef,undef],defers:=[]}) (by kernel_rfl) ?_
 refine store_big cn_big (cn_size _) (cn_size _) (cn_one _) A rfl _ _ rfl rfl rfl ?_
 intro qw3 qt4 qB5
 clear A
 replace Z:=Z.touch qt4 (by omega)
 replace H:=H.touch qt4 (by omega)
 replace G:=since_touch G qt4 (by omega)
 have qt4_s:=qt4.size
 refine wpList_frame (a':={tmps:=#[.agg (cnCells c),.pointer (some ⟨w.heap.size,0,none⟩),.pointer (some ⟨w.heap.size+1,0,none⟩),.agg (cnCells c),.agg (cnCells {c with pa:=some ⟨g,0,none⟩,pc:=cp}),undef,undef,undef,undef,undef,undef,undef,undef,undef,undef,undef,undef,undef],defers:=[]}) (by kernel_rfl) ?_
 go_upto_region 2 with (fail)
 cases q
 case false=>
  refine wp_region_lit ?_
  refine load_big cn_big (cn_size _) qB5 rfl _ rfl rfl ?_
  refine call_step rfl 22 #[.agg (cnCells {c with pa:=some ⟨g,0,none⟩,pc:=cp})] (by kernel_rfl) (hk g cp _ H.reads) ?_
  rintro _ qw6 ⟨rfl,qg7⟩
  refine ⟨_,rfl,?_⟩
  replace qB5:=qB5.since qg7
  replace Z:=Z.since qg7
  replace H:=H.since qg7
  replace G:=G.trans qg7
  have qg7_s:=qg7.size
  refine wpList_frame (a':={tmps:=#[.agg (cnCells c),.pointer (some ⟨w.heap.size,0,none⟩),.pointer (some ⟨w.heap.size+1,0,none⟩),.agg (cnCells c),.agg (cnCells {c with pa:=some ⟨g,0,none⟩,pc:=cp}),.agg (cnCells {c with pa:=some ⟨g,0,none⟩,pc:=cp}),.bool false,undef,undef,undef,undef,undef,undef,undef,undef,undef,undef,undef],defers:=[]}) (by kernel_rfl) ?_
  refine step_val (w':=qw6) rfl (.bool true) (by kernel_rfl) ?_
  refine wpList_frame (a':={tmps:=#[.agg (cnCells c),.pointer (some ⟨w.heap.size,0,none⟩),.pointer (some ⟨w.heap.size+1,0,none⟩),.agg (cnCells c),.agg (cnCells {c with pa:=some ⟨g,0,none⟩,pc:=cp}),.agg (cnCells {c with pa:=some ⟨g,0,none⟩,pc:=cp}),.bool false,.bool true,undef,undef,undef,undef,undef,undef,undef,undef,undef,undef],defers:=[]}) (by kernel_rfl) ?_
  go_upto_region 3 with (fail)
  refine wp_region_lit ?_
  refine load_big cn_big (cn_size _) qB5 rfl _ rfl rfl ?_
  refine wpList_frame (a':={tmps:=#[.agg (cnCells c),.pointer (some ⟨w.heap.size,0,none⟩),.pointer (some ⟨w.heap.size+1,0,none⟩),.agg (cnCells c),.agg (cnCells {c with pa:=some ⟨g,0,none⟩,pc:=cp}),.agg (cnCells {c with pa:=some ⟨g,0,none⟩,pc:=cp}),.bool false,.bool true,.agg (cnCells {c with pa:=some ⟨g,0,none⟩,pc:=cp}),undef,undef,undef,undef,undef,undef,undef,undef,undef],defers:=[]}) (by kernel_rfl) ?_
  refine store_big cn_big (cn_size _) (cn_size _) (cn_one _) Z rfl _ _ rfl rfl rfl ?_
  intro qw8 qt9 qB10
  clear Z
  replace qB5:=qB5.touch qt9 (by omega)
  replace H:=H.touch qt9 (by omega)
  replace G:=since_touch G qt9 (by omega)
  have qt9_s:=qt9.size
  refine wpList_frame (a':={tmps:=#[.agg (cnCells c),.pointer (some ⟨w.heap.size,0,none⟩),.pointer (some ⟨w.heap.size+1,0,none⟩),.agg (cnCells c),.agg (cnCells {c with pa:=some ⟨g,0,none⟩,pc:=cp}),.agg (cnCells {c with pa:=some ⟨g,0,none⟩,pc:=cp}),.bool false,.bool true,.agg (cnCells {c with pa:=some ⟨g,0,none⟩,pc:=cp}),undef,undef,undef,undef,undef,undef,undef,undef,undef],defers:=[]}) (by kernel_rfl) ?_
  go_wp2_with (fail)
  exact bodyPost_ret (results_cn (t:=2) rfl _ rfl qB10) rfl ⟨_,_,by rw [hd.out];unfold closeC;rw [← hq.out];rfl,H,G⟩
 case true=>
  refine wp_region_lit ?_
  refine load_big cn_big (cn_size _) qB5 rfl _ rfl rfl ?_
  refine call_step rfl 22 #[.agg (cnCells {c with pa:=some ⟨g,0,none⟩,pc:=cp})] (by kernel_rfl) (hk g cp _ H.reads) ?_
  rintro _ qw6 ⟨rfl,qg7⟩
  refine ⟨_,rfl,?_⟩
  replace qB5:=qB5.since qg7
  replace Z:=Z.since qg7
  replace H:=H.since qg7
  replace G:=G.trans qg7
  have qg7_s:=qg7.size
  refine wpList_frame (a':={tmps:=#[.agg (cnCells c),.pointer (some ⟨w.heap.size,0,none⟩),.pointer (some ⟨w.heap.size+1,0,none⟩),.agg (cnCells c),.agg (cnCells {c with pa:=some ⟨g,0,none⟩,pc:=cp}),.agg (cnCells {c with pa:=some ⟨g,0,none⟩,pc:=cp}),.bool true,undef,undef,undef,undef,undef,undef,undef,undef,undef,undef,undef],defers:=[]}) (by kernel_rfl) ?_
  refine step_val (w':=qw6) rfl (.bool false) (by kernel_rfl) ?_
  refine wpList_frame (a':={tmps:=#[.agg (cnCells c),.pointer (some ⟨w.heap.size,0,none⟩),.pointer (some ⟨w.heap.size+1,0,none⟩),.agg (cnCells c),.agg (cnCells {c with pa:=some ⟨g,0,none⟩,pc:=cp}),.agg (cnCells {c with pa:=some ⟨g,0,none⟩,pc:=cp}),.bool true,.bool false,undef,undef,undef,undef,undef,undef,undef,undef,undef,undef],defers:=[]}) (by kernel_rfl) ?_
  go_upto_region 4 with (fail)
  have f_st:qw6.cell? ⟨w.heap.size,0,none⟩=some (.int .i64 c.st):=qB5.cell 0
  have f_fin:qw6.cell? ⟨w.heap.size,15,none⟩=some (.bool c.fin):=qB5.cell 15
  have z_fin:=qB5.fz 15
  obtain ⟨y1,e1,t1,B1⟩:=put_cn (c':={c with pa:=some ⟨g,0,none⟩,pc:=cp,fin:=true}) qB5 15 (.bool true) (by decide) rfl
  go_cut [10] (fun v wx=>v=.int .i64 c.st∧qw6=wx)
  case first=>
   go_wp2_with (fail)
   go_meet
   case rel=>exact ⟨rfl,rfl⟩
  case rest=>
  obtain ⟨rfl,rfl⟩:=hcut
  rename_i hK
  refine hK _ _ ?_
  clear hK
  go_cut [] (fun wx=>Blk w.heap.size wx (cnCells {d with pa:=some ⟨g,0,none⟩,pc:=cp})∧Blk (w.heap.size+1) wx (cnCells cnZero)∧Held shP wx w.heap.size g c.pn cp ps∧Since w wx)
  case first=>
   by_cases hm:c.st=1∨c.st=2∨c.st=3∨c.st=6
   case pos=>
    have hd1:d={c with fin:=true}:=by rw [hd.out];unfold closeC mayW;rw [← hq.out];simp [hm]
    replace hd1:Hid _:=hd1
    rcases hm with hm|hm|hm|hm
    all_goals rw [hm] at f_st
    all_goals go_wp2_with (fail)
    all_goals go_meet
    all_goals rw [hd1.out]
    all_goals exact ⟨B1,Z.touch t1 (by omega),H.touch t1 (by omega),since_touch G t1 (by omega)⟩
   case neg=>
    have hd1:d=c:=by rw [hd.out];unfold closeC mayW;simp [hm]
    replace hd1:Hid _:=hd1
    have m1:(c.st == 1)=false:=by simp;omega
    have m2:(c.st == 2)=false:=by simp;omega
    have m3:(c.st == 3)=false:=by simp;omega
    have m6:(c.st == 6)=false:=by simp;omega
    clear hm
    go_wp2_with (fail)
    go_meet
    case rel=>
     rw [hd1.out]
     exact ⟨qB5,Z,H,G⟩
  case rest=>
   obtain ⟨B2,Z2,H2,G2⟩:=hcut
   have hZ2:=Z2.lt
   have hH2:=H2.lt
   go_upto_region 10 with (fail)
   refine wp_region_lit ?_
   refine load_cn B2 rfl _ rfl rfl ?_
   refine store_cn Z2 rfl _ _ rfl rfl rfl ?_
   intro z tz Bz
   go_wp2_with (fail)
   exact bodyPost_ret (results_cn (t:=2) rfl _ rfl Bz) rfl ⟨_,_,rfl,H2.touch tz (by omega),since_touch G2 tz (by omega)⟩
end Go.Proofs.YtnbopjlpemmkcaaGreat
