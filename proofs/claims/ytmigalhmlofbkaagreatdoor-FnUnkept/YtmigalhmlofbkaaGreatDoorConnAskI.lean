/- A part of the proof. -/
import Derived.Test.YtmigalhmlofbkaaGreatDoorM33
set_option linter.unusedVariables false
set_option maxRecDepth 20000
set_option maxHeartbeats 8000000
namespace Go.Proofs.YtmigalhmlofbkaaGreatDoor
open Go.ChangeShapes Go.WideShapes Go.ChangeAt Go.RowKit
theorem isTickI (x:Int) (w:World) :
  Calls Tryz.prog 22 #[.int .i64 x] w fun e w'=>e=.returned (.bool (decide (0≤x∧x≤1000000000)))∧w=w':=by
 by_cases h1:0≤x
 ·have e1:decide (0≤x∧x≤1000000000)=decide (x≤1000000000):=by simp [h1]
  rw [e1]
  clear e1
  go_enter Tryz.func22,Tryz.ntmps22
  go_wp2
  go_ret
  exact ⟨rfl,rfl⟩
 ·have e1:decide (0≤x∧x≤1000000000)=false:=by simp [h1]
  rw [e1]
  clear e1
  go_enter Tryz.func22,Tryz.ntmps22
  go_wp2
  go_ret
  exact ⟨rfl,rfl⟩
theorem implAsk (i room now:Int) (hi:IsWord i) (w:World) :
  Calls Tryz.prog 6 #[.int .u32 i,.int .i64 room,.int .i64 now] w fun e w'=>e=.returned (askV i room now)∧Since w w':=by
 have k1:=fun wx=>isRoomI room wx
 have k2:=fun wx=>isTickI now wx
 obtain ⟨V,hV⟩:∃ V,Hid (V=askV i room now):=⟨_,rfl⟩
 rw [← hV.out]
 go_enter Tryz.func6,Tryz.ntmps6
 go_upto_region 1 with (fail)
 rw [cn_zero,sg_zero]
 have G:=((Since.refl w).alloc (.cells (cnCells cnZero) 39)).alloc (.cells (sgCells sgZero) 41)
 have Z:=(Blk.new w (cnCells cnZero) 39).since ((Since.refl _).alloc (.cells (sgCells sgZero) 41))
 have Y:=Blk.new (w.alloc (.cells (cnCells cnZero) 39)) (sgCells sgZero) 41
 rw [World.size_alloc] at Y
 generalize (w.alloc (.cells (cnCells cnZero) 39)).alloc (.cells (sgCells sgZero) 41)=x0 at Z Y G ⊢
 by_cases ha:1≤room∧room≤4096
 case neg=>
  have e:Hid (V=.tuple #[cnVal cnZero,sgVal sgZero,.bool false]):=hV.out.trans (if_neg fun h=>ha h.1)
  rw [show decide (1≤room∧room≤4096)=false by simp [ha]] at k1
  clear ha k2
  go_wp2_with (fail)
  refine (k1 _).mono ?_
  rintro _ _ ⟨rfl,rfl⟩
  go_upto_region 2 with (fail)
  refine wp_region_lit ?_
  refine step_val (w':=x0) rfl (.agg (cnCells cnZero)) (by kernel_rfl) ?_
  refine step_val (w':=x0) rfl (.agg (sgCells sgZero)) (by kernel_rfl) ?_
  have hy0:=Y.lt
  refine store_cn Z rfl _ _ rfl rfl rfl ?_
  intro x3 t3 Z3
  replace Y:=Y.touch t3 (by omega)
  replace G:=since_touch G t3 (by omega)
  refine store_big seg_big rfl rfl (seg_one _ _ _ _ _ _ _ _) Y rfl _ _ rfl rfl rfl ?_
  intro x4 t4 Y4
  replace Z3:=Z3.touch t4 (by omega)
  replace G:=since_touch G t4 (by omega)
  go_wp2_with (fail)
  refine bodyPost_ret (v:=.tuple #[.agg (cnCells cnZero),.agg (sgCells sgZero),.bool false]) (results_cn3 (t:=6) (u:=7) (v:=8) rfl _ rfl rfl Z3 Y4) rfl ⟨by rw [e.out];rfl,G⟩
 case pos=>
  rw [show decide (1≤room∧room≤4096)=true by simp [ha]] at k1
  by_cases hb:0≤now∧now≤1000000000
  case neg=>
   have e:Hid (V=.tuple #[cnVal cnZero,sgVal sgZero,.bool false]):=hV.out.trans (if_neg fun h=>hb h.2)
   rw [show decide (0≤now∧now≤1000000000)=false by simp [hb]] at k2
   clear ha hb
   go_wp2_with (fail)
   refine (k1 _).mono ?_
   rintro _ _ ⟨rfl,rfl⟩
   go_wp2_with (fail)
   refine (k2 _).mono ?_
   rintro _ _ ⟨rfl,rfl⟩
   go_upto_region 2 with (fail)
   refine wp_region_lit ?_
   refine step_val (w':=x0) rfl (.agg (cnCells cnZero)) (by kernel_rfl) ?_
   refine step_val (w':=x0) rfl (.agg (sgCells sgZero)) (by kernel_rfl) ?_
   have hy0:=Y.lt
   refine store_cn Z rfl _ _ rfl rfl rfl ?_
   intro x3 t3 Z3
   replace Y:=Y.touch t3 (by omega)
   replace G:=since_touch G t3 (by omega)
   refine store_big seg_big rfl rfl (seg_one _ _ _ _ _ _ _ _) Y rfl _ _ rfl rfl rfl ?_
   intro x4 t4 Y4
   replace Z3:=Z3.touch t4 (by omega)
   replace G:=since_touch G t4 (by omega)
   go_wp2_with (fail)
   refine bodyPost_ret (v:=.tuple #[.agg (cnCells cnZero),.agg (sgCells sgZero),.bool false]) (results_cn3 (t:=6) (u:=7) (v:=8) rfl _ rfl rfl Z3 Y4) rfl ⟨by rw [e.out];rfl,G⟩
  case pos=>
   have e:Hid (V=.tuple #[cnVal (startC 1 i room now 0),sgVal (synSg (startC 1 i room now 0) []),.bool true]):=hV.out.trans (if_pos ⟨ha,hb⟩)
   rw [show decide (0≤now∧now≤1000000000)=true by simp [hb]] at k2
   have hst:=fun wx=>implBegin i room now hb.1 hb.2 wx
   have hsy:=fun wx=>implSyn (startC 1 i room now 0) wx
   rw [synI_is ha] at hsy
   change ∀ wx,Calls Tryz.prog 24 #[cnVal (startC 1 i room now 0)] wx fun e w'=>e=.returned (.agg (sgCells (synSg (startC 1 i room now 0) [])))∧Since wx w' at hsy
   clear ha hb
   generalize synSg (startC 1 i room now 0) []=S at hsy e
   generalize startC 1 i room now 0=C at hst hsy e
   unfold cnVal at hst hsy
   go_wp2_with (fail)
   refine (k1 _).mono ?_
   rintro _ _ ⟨rfl,rfl⟩
   go_wp2_with (fail)
   refine (k2 _).mono ?_
   rintro _ _ ⟨rfl,rfl⟩
   go_upto_region 3 with (fail)
   refine wp_region_lit ?_
   refine step_val (w':=x0) rfl (.int .u32 i) (by kernel_rfl) ?_
   refine step_val (w':=x0) rfl (.int .i64 room) (by kernel_rfl) ?_
   refine step_val (w':=x0) rfl (.int .i64 now) (by kernel_rfl) ?_
   refine call_step rfl 23 #[.int .u32 i,.int .i64 room,.int .i64 now] (by kernel_rfl) (hst _) ?_
   rintro _ x1 ⟨rfl,g1⟩
   refine ⟨_,rfl,?_⟩
   have hy0:=Y.lt
   have hs1:=g1.size
   have A:=Blk.new x1 (cnCells cnZero) 39
   have g1':=(Since.refl x1).alloc (.cells (cnCells cnZero) 39)
   replace Z:=(Z.since g1).since g1'
   replace Y:=(Y.since g1).since g1'
   replace G:=(G.trans g1).trans g1'
   refine step_val (w':=x1.alloc (.cells (cnCells cnZero) 39)) rfl (.pointer (some ⟨x1.heap.size,0,none⟩)) (by kernel_rfl) ?_
   refine store_cn A rfl _ _ rfl rfl rfl ?_
   intro x2 t2 A2
   replace Z:=Z.touch t2 (by omega)
   replace Y:=Y.touch t2 (by omega)
   replace G:=since_touch G t2 (by omega)
   clear A t2 g1 g1' hst k1 k2
   refine wpList_frame (a':={tmps:=#[.int .u32 i,.int .i64 room,.int .i64 now,undef,undef,undef,.pointer (some ⟨w.heap.size,0,none⟩),.pointer (some ⟨w.heap.size+1,0,none⟩),.bool false,.pointer (some ⟨x1.heap.size,0,none⟩),.int .i64 room,.bool true,.bool false,.bool false,.int .i64 now,.bool true,.bool false,.bool false,undef,undef,.int .u32 i,.int .i64 room,.int .i64 now,.agg (cnCells C),undef,undef,undef],defers:=[]}) (by kernel_rfl) ?_
   go_upto_region 4 with (fail)
   refine wp_region_tail (wb:=x2) 3 (fun i x v=>match i with
     | 0=>v=.agg (cnCells C)
     | 1=>v=.agg (cnCells C)
     | 2=>v=.agg (sgCells S)
     | _=>True) (fun v=>{tmps:=#[Value.int IntKind.u32 i,Value.int IntKind.i64 room,Value.int IntKind.i64 now,undef,undef,undef,Value.pointer (some ⟨w.heap.size,0,none⟩),Value.pointer (some ⟨w.heap.size+1,0,none⟩),Value.bool false,Value.pointer (some ⟨x1.heap.size,0,none⟩),Value.int IntKind.i64 room,Value.bool true,Value.bool false,Value.bool false,Value.int IntKind.i64 now,Value.bool true,Value.bool false,Value.bool false,undef,undef,Value.int IntKind.u32 i,Value.int IntKind.i64 room,Value.int IntKind.i64 now,Value.agg (cnCells C),v 0,v 1,v 2],defers:=[]}) (by kernel_rfl) (by kernel_rfl) (by kernel_rfl) (Since.refl _) ?_ (fun vals=>by kernel_rfl) ?_ ?_
   case refine_1=>
    intro i x x' v h1 h2
    match i,h2 with
    | 0,h2|1,h2|2,h2=>exact h2
    | n+3,_=>trivial
   case refine_2=>
    repeat (first|exact eachDoes_nil|refine eachDoes_cons ?_ ?_)
    all_goals intro vals x hx hv
    all_goals simp [Region.binds] at hv
    ·simp [does,doesUpon,go_sem,hv]
     refine (hsy x).mono ?_
     rintro _ x' ⟨rfl,h1⟩
     simp [h1]
    ·exact does_load cn_big (cn_size C) (A2.since hx) _ rfl rfl ⟨Since.refl _,rfl⟩
    ·exact does_load cn_big (cn_size C) (A2.since hx) _ rfl rfl ⟨Since.refl _,rfl⟩
   case refine_3=>
    intro vals x hx hv
    have h0:vals 0=_:=hv 0 (by decide)
    have h2:vals 2=_:=hv 2 (by decide)
    clear hv
    simp only [h0,h2,List.drop]
    replace Z:=Z.since hx
    replace Y:=Y.since hx
    replace G:=G.trans hx
    refine store_cn Z rfl _ _ rfl rfl rfl ?_
    intro x3 t3 Z3
    replace Y:=Y.touch t3 (by omega)
    replace G:=since_touch G t3 (by omega)
    refine store_big seg_big rfl rfl (seg_one _ _ _ _ _ _ _ _) Y rfl _ _ rfl rfl rfl ?_
    intro x4 t4 Y4
    replace Z3:=Z3.touch t4 (by omega)
    replace G:=since_touch G t4 (by omega)
    go_wp2_with (fail)
    refine bodyPost_ret (v:=.tuple #[.agg (cnCells C),.agg (sgCells S),.bool true]) (results_cn3 (t:=6) (u:=7) (v:=8) rfl _ rfl rfl Z3 Y4) rfl ⟨by rw [e.out];rfl,G⟩
end Go.Proofs.YtmigalhmlofbkaaGreatDoor
