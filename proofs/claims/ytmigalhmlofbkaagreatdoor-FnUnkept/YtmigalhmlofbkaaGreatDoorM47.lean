/- A part of the proof. -/
import Derived.Test.YtmigalhmlofbkaaGreatDoorArrU
import Derived.Test.YtmigalhmlofbkaaGreatDoorSend11I
import Derived.Carry
set_option linter.unusedVariables false
set_option maxRecDepth 20000
set_option maxHeartbeats 8000000
namespace Go.Proofs.YtmigalhmlofbkaaGreatDoor
open Go.ChangeShapes Go.WideShapes Go.ChangeAt Go.RowKit
def writeOk (c:Cn) (ps:List (Int×ByteArray)):Bool:=connOk c ps && (mayW c.st && !c.fin)
def writeC (c:Cn) (ps:List (Int×ByteArray)) (s:ByteArray):Cn:=if writeOk c ps then {c with oD:=putD c.oD c.oR s} else c
def writeN (c:Cn) (ps:List (Int×ByteArray)) (s:ByteArray):Int:=if writeOk c ps then putN c.oD c.oR s else 0
def owesR (st:Int) (room:Int) (t:ByteArray):Bool:=decide (t≠ByteArray.empty∧room<100∧st≠0∧st≠1∧st≠2)
def readC (c:Cn) (ps:List (Int×ByteArray)) (n:Int):Cn:=
 if connOk c ps then (if owesR c.st (inRoomN c.iN c.iD c.iR ps) (readT c.iN c.iD c.iR ps n) then {c with iD:=readD c.iN c.iD c.iR ps n,owe:=true} else {c with iD:=readD c.iN c.iD c.iR ps n}) else c
def readS (c:Cn) (ps:List (Int×ByteArray)) (n:Int):ByteArray:=if connOk c ps then readT c.iN c.iD c.iR ps n else ByteArray.empty
def hearC (s:Sg) (i room now:Int):Cn:={startC 2 i room now ((s.sq+1) % 4294967296) with wnd:=s.wn,wsq:=s.sq}
def hearOk (s:Sg) (room now:Int):Prop:=(1≤room∧room≤4096)∧(0≤now∧now≤1000000000)∧s.fl=2∧(0≤s.wn∧s.wn≤65535)∧s.d=ByteArray.empty
instance (s:Sg) (room now:Int):Decidable (hearOk s room now):=by unfold hearOk;infer_instance
def hearV (s:Sg) (i room now:Int):Value:=if hearOk s room now then .tuple #[cnVal (hearC s i room now),sgVal (synSg (hearC s i room now) []),.bool true] else .tuple #[cnVal cnZero,sgVal sgZero,.bool false]
theorem specHear (s:Sg) (i room now:Int) (hi:IsWord i) (hq:IsWord s.sq) (w:World) :
  Calls Tryz.prog 52 #[sgVal s,.int .u32 i,.int .i64 room,.int .i64 now] w fun e w'=>e=.returned (hearV s i room now)∧Since w w':=by
 have k1:=fun wx=>specIn room 1 4096 wx
 have k2:=fun wx=>specIn now 0 1000000000 wx
 have k3:=fun wx=>specIn s.wn 0 65535 wx
 obtain ⟨V,hV⟩:∃ V,Hid (V=hearV s i room now):=⟨_,rfl⟩
 rw [← hV.out]
 unfold sgVal
 go_enter Tryz.func52,Tryz.ntmps52
 go_upto_region 1 with (fail)
 rw [cn_zero,sg_zero]
 have G:=(((Since.refl w).alloc (.cells (sgCells s) 41)).alloc (.cells (cnCells cnZero) 39)).alloc (.cells (sgCells sgZero) 41)
 have S:=(Blk.new w (sgCells s) 41).since (((Since.refl _).alloc (.cells (cnCells cnZero) 39)).alloc (.cells (sgCells sgZero) 41))
 have Z:=(Blk.new (w.alloc (.cells (sgCells s) 41)) (cnCells cnZero) 39).since ((Since.refl _).alloc (.cells (sgCells sgZero) 41))
 have Y:=Blk.new ((w.alloc (.cells (sgCells s) 41)).alloc (.cells (cnCells cnZero) 39)) (sgCells sgZero) 41
 simp only [World.size_alloc] at Z Y
 generalize ((w.alloc (.cells (sgCells s) 41)).alloc (.cells (cnCells cnZero) 39)).alloc (.cells (sgCells sgZero) 41)=x0 at S Z Y G ⊢
 have s_sq:x0.cell? ⟨w.heap.size,2,none⟩=some (.int .u32 s.sq):=S.cell 2
 have s_fl:x0.cell? ⟨w.heap.size,4,none⟩=some (.int .i64 s.fl):=S.cell 4
 have s_wn:x0.cell? ⟨w.heap.size,5,none⟩=some (.int .i64 s.wn):=S.cell 5
 have s_d:x0.cell? ⟨w.heap.size,7,none⟩=some (.string s.d):=S.cell 7
 have hy0:=Y.lt
 obtain ⟨q,hqq⟩:∃ q,Hid (q=decide (¬ hearOk s room now)):=⟨_,rfl⟩
 go_cut [35] (fun v wx=>v=.bool q∧x0=wx)
 case first=>
  by_cases h1:1≤room∧room≤4096
  case neg=>
   have e:Hid (q=true):=by
    show q=true
    rw [hqq.out]
    simp [hearOk,h1]
   rw [show decide (1≤room∧room≤4096)=false by simp [h1]] at k1
   clear h1
   go_wp2_with (fail)
   refine (k1 _).mono ?_
   rintro _ _ ⟨rfl,rfl⟩
   go_wp2_with (fail)
   go_meet
   case rel=>exact ⟨by rw [e.out],rfl⟩
  case pos=>
   rw [show decide (1≤room∧room≤4096)=true by simp [h1]] at k1
   go_wp2_with (fail)
   refine (k1 _).mono ?_
   rintro _ _ ⟨rfl,rfl⟩
   by_cases h2:0≤now∧now≤1000000000
   case neg=>
    have e:Hid (q=true):=by
     show q=true
     rw [hqq.out]
     simp [hearOk,h2]
    rw [show decide (0≤now∧now≤1000000000)=false by simp [h2]] at k2
    clear h1 h2
    go_wp2_with (fail)
    refine (k2 _).mono ?_
    rintro _ _ ⟨rfl,rfl⟩
    go_wp2_with (fail)
    go_meet
    case rel=>exact ⟨by rw [e.out],rfl⟩
   case pos=>
    rw [show decide (0≤now∧now≤1000000000)=true by simp [h2]] at k2
    go_wp2_with (fail)
    refine (k2 _).mono ?_
    rintro _ _ ⟨rfl,rfl⟩
    by_cases h3:s.fl=2
    case neg=>
     have e:Hid (q=true):=by
      show q=true
      rw [hqq.out]
      simp [hearOk,h3]
     have h3':(s.fl != 2)=true:=by simpa using h3
     clear h1 h2 h3
     go_wp2_with (fail)
     go_meet
     case rel=>exact ⟨by rw [e.out],rfl⟩
    case pos=>
     rw [h3] at s_fl
     by_cases h4:0≤s.wn∧s.wn≤65535
     case neg=>
      have e:Hid (q=true):=by
       show q=true
       rw [hqq.out]
       simp [hearOk,h4]
      rw [show decide (0≤s.wn∧s.wn≤65535)=false by simp [h4]] at k3
      clear h1 h2 h3 h4
      go_wp2_with (fail)
      refine (k3 _).mono ?_
      rintro _ _ ⟨rfl,rfl⟩
      go_wp2_with (fail)
      go_meet
      case rel=>exact ⟨by rw [e.out],rfl⟩
     case pos=>
      rw [show decide (0≤s.wn∧s.wn≤65535)=true by simp [h4]] at k3
      have h3h:Hid (s.fl=2):=h3
      clear h3
      go_wp2_with (fail)
      refine (k3 _).mono ?_
      rintro _ _ ⟨rfl,rfl⟩
      by_cases h5:s.d=ByteArray.empty
      case neg=>
       have e:Hid (q=true):=by
        show q=true
        rw [hqq.out]
        simp [hearOk,h5]
       have h5':=text_empty h5
       clear h1 h2 h4 h5
       go_wp2_with (fail)
       go_meet
       case rel=>exact ⟨by rw [e.out],rfl⟩
      case pos=>
       have e:Hid (q=false):=by
        show q=false
        rw [hqq.out]
        simp [hearOk,h1,h2,h3h.out,h4,h5]
       rw [h5] at s_d
       clear h1 h2 h4 h5
       go_wp2_with (fail)
       go_meet
       case rel=>exact ⟨by rw [e.out],rfl⟩
 case rest=>
  obtain ⟨rfl,rfl⟩:=hcut
  clear k1 k2 k3 s_d s_fl
  cases q
  ·have hok:hearOk s room now:=by simpa using hqq.out.symm
   have e:Hid (V=.tuple #[cnVal (hearC s i room now),sgVal (synSg (hearC s i room now) []),.bool true]):=hV.out.trans (if_pos hok)
   obtain ⟨h1,h2,-⟩:=hok
   obtain ⟨nx,hnx⟩:∃ nx,Hid (nx=(s.sq+1) % 4294967296):=⟨_,rfl⟩
   have hst:=fun wx=>specStartC 2 i room now nx h2.1 h2.2 wx
   have hsy:=fun wx=>specSyn (hearC s i room now) [] ⟨⟨by show 0≤(s.sq+1) % 4294967296;omega,by show (s.sq+1) % 4294967296<4294967296;omega⟩,by show ByteArray.empty.size≤1048576;decide,⟨by show -9223372036854775808≤room;omega,by show room≤9223372036854775807;omega⟩,by show 0≤1048576;omega,fun i hi=>by cases hi⟩ wx ⟨rfl,Nat.zero_le _,fun i hi=>by cases hi⟩
   change ∀ wx,Calls Tryz.prog 98 #[cnVal (hearC s i room now)] wx fun e w'=>e=.returned (.agg (sgCells (synSg (hearC s i room now) [])))∧Since wx w' at hsy
   clear h1 h2
   generalize synSg (hearC s i room now) []=S' at hsy e
   obtain ⟨C,hC⟩:∃ C,Hid (C=hearC s i room now):=⟨_,rfl⟩
   rw [← hC.out] at hsy e
   obtain ⟨C0,hC0⟩:∃ C,Hid (C=startC 2 i room now nx):=⟨_,rfl⟩
   rw [← hC0.out] at hst
   unfold cnVal at hst hsy
   go_upto_region 3 with (fail)
   refine wp_region_lit ?_
   refine step_val (w':=x0) rfl (.int .u32 i) (by kernel_rfl) ?_
   refine step_val (w':=x0) rfl (.int .i64 room) (by kernel_rfl) ?_
   refine step_val (w':=x0) rfl (.int .i64 now) (by kernel_rfl) ?_
   refine step_val (w':=x0) rfl (.pointer (some ⟨w.heap.size,2,none⟩)) (by kernel_rfl) ?_
   refine wpList_frame (a':={tmps:=#[.agg (sgCells s),.int .u32 i,.int .i64 room,.int .i64 now,.pointer (some ⟨w.heap.size,0,none⟩),undef,undef,undef,.pointer (some ⟨w.heap.size+1,0,none⟩),.pointer (some ⟨w.heap.size+1+1,0,none⟩),.bool false,undef,u12,u13,u14,u15,u16,u17,u18,u19,u20,u21,u22,u23,u24,u25,u26,u27,u28,u29,u30,u31,u32,u33,u34,.bool false,u36,u37,.int .u32 i,.int .i64 room,.int .i64 now,.pointer (some ⟨w.heap.size,2,none⟩),u42,u43,u44,u45,u46,u47,u48,u49,u50,u51,u52,u53],defers:=[]}) (by kernel_rfl) ?_
   refine step_does rfl (R:=fun v w'=>v=.int .u32 s.sq∧x0=w') (by simp [does,doesUpon,go_sem,s_sq]) ?_
   rintro _ _ ⟨rfl,rfl⟩
   refine step_val (w':=x0) rfl (.int .u32 nx) (by rw [hnx.out];kernel_rfl) ?_
   refine call_step rfl 97 #[.int .i64 2,.int .u32 i,.int .i64 room,.int .i64 now,.int .u32 nx] (by kernel_rfl) (hst _) ?_
   rintro _ x1 ⟨rfl,g1⟩
   refine ⟨_,rfl,?_⟩
   have hs1:=g1.size
   have A:=Blk.new x1 (cnCells cnZero) 39
   have g1':=(Since.refl x1).alloc (.cells (cnCells cnZero) 39)
   replace S:=(S.since g1).since g1'
   replace Z:=(Z.since g1).since g1'
   replace Y:=(Y.since g1).since g1'
   replace G:=(G.trans g1).trans g1'
   refine step_val (w':=x1.alloc (.cells (cnCells cnZero) 39)) rfl (.pointer (some ⟨x1.heap.size,0,none⟩)) (by kernel_rfl) ?_
   refine wpList_frame (a':={tmps:=#[.agg (sgCells s),.int .u32 i,.int .i64 room,.int .i64 now,.pointer (some ⟨w.heap.size,0,none⟩),undef,undef,undef,.pointer (some ⟨w.heap.size+1,0,none⟩),.pointer (some ⟨w.heap.size+1+1,0,none⟩),.bool false,.pointer (some ⟨x1.heap.size,0,none⟩),u12,u13,u14,u15,u16,u17,u18,u19,u20,u21,u22,u23,u24,u25,u26,u27,u28,u29,u30,u31,u32,u33,u34,.bool false,u36,u37,.int .u32 i,.int .i64 room,.int .i64 now,.pointer (some ⟨w.heap.size,2,none⟩),.int .u32 s.sq,.int .u32 nx,.agg (cnCells C0),u45,u46,u47,u48,u49,u50,u51,u52,u53],defers:=[]}) (by kernel_rfl) ?_
   refine store_cn A rfl _ _ rfl rfl rfl ?_
   intro x2 t2 A2
   replace S:=S.touch t2 (by omega)
   replace Z:=Z.touch t2 (by omega)
   replace Y:=Y.touch t2 (by omega)
   replace G:=since_touch G t2 (by omega)
   clear A t2 g1 g1' hst s_sq s_wn
   have p_wn:x2.cell? ⟨w.heap.size,5,none⟩=some (.int .i64 s.wn):=S.cell 5
   have fh0_wnd:x2.cell? ⟨x1.heap.size,5,none⟩=some (.int .i64 C0.wnd):=A2.cell 5
   have zh0:=A2.fz 5
   obtain ⟨yh0,eh0,th0,Bh0⟩:=put_cn (c':={C0 with wnd:=s.wn}) A2 5 (.int .i64 s.wn) (by decide) rfl
   replace S:=S.touch th0 (by omega)
   replace Z:=Z.touch th0 (by omega)
   replace Y:=Y.touch th0 (by omega)
   replace G:=since_touch G th0 (by omega)
   have p_sq:yh0.cell? ⟨w.heap.size,2,none⟩=some (.int .u32 s.sq):=S.cell 2
   have fh1_wsq:yh0.cell? ⟨x1.heap.size,6,none⟩=some (.int .u32 C0.wsq):=Bh0.cell 6
   have zh1:=Bh0.fz 6
   obtain ⟨yh1,eh1,th1,Bh1⟩:=put_cn (c':={C0 with wnd:=s.wn,wsq:=s.sq}) Bh0 6 (.int .u32 s.sq) (by decide) rfl
   replace S:=S.touch th1 (by omega)
   replace Z:=Z.touch th1 (by omega)
   replace Y:=Y.touch th1 (by omega)
   replace G:=since_touch G th1 (by omega)
   have e6:({C0 with wnd:=s.wn,wsq:=s.sq}:Cn)=C:=by rw [hC.out,hC0.out,hnx.out];rfl
   rw [e6] at Bh1
   clear e6
   go_upto_region 6 with (fail)
   clear eh0 eh1 A2 Bh0 fh0_wnd fh1_wsq zh0 zh1
   generalize yh1=x3 at Bh1 S Z Y G ⊢
   refine wp_region_tail (wb:=x3) 3 (fun i x v=>match i with
     | 0=>v=.agg (cnCells C)
     | 1=>v=.agg (cnCells C)
     | 2=>v=.agg (sgCells S')
     | _=>True) (fun v=>{tmps:=#[Value.agg (sgCells s),Value.int IntKind.u32 i,Value.int IntKind.i64 room,Value.int IntKind.i64 now,Value.pointer (some ⟨w.heap.size,0,none⟩),undef,undef,undef,Value.pointer (some ⟨w.heap.size+1,0,none⟩),Value.pointer (some ⟨w.heap.size+1+1,0,none⟩),Value.bool false,Value.pointer (some ⟨x1.heap.size,0,none⟩),u12,u13,u14,u15,u16,u17,u18,u19,u20,u21,u22,u23,u24,u25,u26,u27,u28,u29,u30,u31,u32,u33,u34,Value.bool false,u36,u37,Value.int IntKind.u32 i,Value.int IntKind.i64 room,Value.int IntKind.i64 now,Value.pointer (some ⟨w.heap.size,2,none⟩),Value.int IntKind.u32 s.sq,Value.int IntKind.u32 nx,Value.agg (cnCells C0),Value.pointer (some ⟨w.heap.size,5,none⟩),Value.int IntKind.i64 s.wn,Value.pointer (some ⟨x1.heap.size,5,none⟩),Value.pointer (some ⟨w.heap.size,2,none⟩),Value.int IntKind.u32 s.sq,Value.pointer (some ⟨x1.heap.size,6,none⟩),v 0,v 1,v 2],defers:=[]}) (by kernel_rfl) (by kernel_rfl) (by kernel_rfl) (Since.refl _) ?_ (fun vals=>by kernel_rfl) ?_ ?_
   case refine_1=>
    intro i x x' v h1 h2
    match i,h2 with
    | 0,h2|1,h2|2,h2=>exact h2
    | n+3,_=>trivial
   case refine_2=>
    repeat (first|exact eachDoes_nil|refine eachDoes_cons ?_ ?_)
    all_goals intro vals x hx hv
    all_goals simp [Region.binds] at hv
    ·simp [does,doesUpon,go_sem,hv]
     refine (hsy x).mono ?_
     rintro _ x' ⟨rfl,h1⟩
     simp [h1]
    ·exact does_load cn_big (cn_size C) (Bh1.since hx) _ rfl rfl ⟨Since.refl _,rfl⟩
    ·exact does_load cn_big (cn_size C) (Bh1.since hx) _ rfl rfl ⟨Since.refl _,rfl⟩
   case refine_3=>
    intro vals x hx hv
    have h0:vals 0=_:=hv 0 (by decide)
    have h2:vals 2=_:=hv 2 (by decide)
    clear hv
    simp only [h0,h2,List.drop]
    replace Z:=Z.since hx
    replace Y:=Y.since hx
    replace G:=G.trans hx
    refine store_cn Z rfl _ _ rfl rfl rfl ?_
    intro x4 t4 Z4
    replace Y:=Y.touch t4 (by omega)
    replace G:=since_touch G t4 (by omega)
    refine store_big seg_big rfl rfl (seg_one _ _ _ _ _ _ _ _) Y rfl _ _ rfl rfl rfl ?_
    intro x5 t5 Y5
    replace Z4:=Z4.touch t5 (by omega)
    replace G:=since_touch G t5 (by omega)
    go_wp2_with (fail)
    refine bodyPost_ret (v:=.tuple #[.agg (cnCells C),.agg (sgCells S'),.bool true]) (results_cn3 (t:=8) (u:=9) (v:=10) rfl _ rfl rfl Z4 Y5) rfl ⟨by rw [e.out];rfl,G⟩
  ·have hok:¬ hearOk s room now:=by simpa using hqq.out.symm
   have e:Hid (V=.tuple #[cnVal cnZero,sgVal sgZero,.bool false]):=hV.out.trans (if_neg hok)
   clear hok s_sq s_wn
   go_upto_region 2 with (fail)
   refine wp_region_lit ?_
   refine step_val (w':=x0) rfl (.agg (cnCells cnZero)) (by kernel_rfl) ?_
   refine step_val (w':=x0) rfl (.agg (sgCells sgZero)) (by kernel_rfl) ?_
   refine wpList_frame (a':={tmps:=#[.agg (sgCells s),.int .u32 i,.int .i64 room,.int .i64 now,.pointer (some ⟨w.heap.size,0,none⟩),undef,undef,undef,.pointer (some ⟨w.heap.size+1,0,none⟩),.pointer (some ⟨w.heap.size+1+1,0,none⟩),.bool false,undef,u12,u13,u14,u15,u16,u17,u18,u19,u20,u21,u22,u23,u24,u25,u26,u27,u28,u29,u30,u31,u32,u33,u34,.bool true,.agg (cnCells cnZero),.agg (sgCells sgZero),u38,u39,u40,u41,u42,u43,u44,u45,u46,u47,u48,u49,u50,u51,u52,u53],defers:=[]}) (by kernel_rfl) ?_
   refine store_cn Z rfl _ _ rfl rfl rfl ?_
   intro x3 t3 Z3
   replace Y:=Y.touch t3 (by omega)
   replace G:=since_touch G t3 (by omega)
   refine store_big seg_big rfl rfl (seg_one _ _ _ _ _ _ _ _) Y rfl _ _ rfl rfl rfl ?_
   intro x4 t4 Y4
   replace Z3:=Z3.touch t4 (by omega)
   replace G:=since_touch G t4 (by omega)
   go_wp2_with (fail)
   refine bodyPost_ret (v:=.tuple #[.agg (cnCells cnZero),.agg (sgCells sgZero),.bool false]) (results_cn3 (t:=8) (u:=9) (v:=10) rfl _ rfl rfl Z3 Y4) rfl ⟨by rw [e.out];rfl,G⟩
end Go.Proofs.YtmigalhmlofbkaaGreatDoor
namespace Go.Proofs.YtmigalhmlofbkaaGreatDoor
open Go.ChangeShapes Go.WideShapes Go.ChangeAt Go.RowKit Go.Deep
theorem dist1 {x:Int} (h:IsWord x):distI x ((x+1) % 4294967296)=1:=by
 unfold IsWord at h
 unfold distI
 omega
theorem dist0 (x:Int):distI x x=0:=by
 unfold distI
 omega
theorem inOk0 (q room:Int) (h:1≤room∧room≤4096):inOk q ByteArray.empty room []=true:=by
 unfold inOk okB spans
 simp [h]
 omega
theorem roomN0 (q room:Int) (h:1≤room∧room≤4096):inRoomN q ByteArray.empty room []=room:=by
 unfold inRoomN
 rw [if_pos (inOk0 q room h)]
 simp
theorem outOk0 (room:Int) (h:1≤room∧room≤4096):outOk ByteArray.empty room=true:=by
 unfold outOk
 simp [h]
 omega
def hA0 (i room:Int):Cn:=startC 1 i room 5 0
def hS1 (i room:Int):Sg:=⟨0,0,i,0,2,room,100,ByteArray.empty⟩
def hB0 (i k room:Int):Cn:=hearC (hS1 i room) k room 6
def hS2 (i k room:Int):Sg:=⟨0,0,k,(i+1) % 4294967296,18,room,100,ByteArray.empty⟩
def hA1 (i k room:Int):Cn:={hA0 i room with una:=(i+1) % 4294967296,iN:=(k+1) % 4294967296,wnd:=room,wsq:=k,wak:=(i+1) % 4294967296,st:=3,owe:=true,agn:=0,trs:=0,rA:=true,rS:=16,rV:=4,rD:=0,tmg:=false}
def hA2 (i k room:Int):Cn:={hA1 i k room with owe:=false}
def hK1 (i k room:Int):Sg:=⟨0,0,(i+1) % 4294967296,(k+1) % 4294967296,16,room,0,ByteArray.empty⟩
def hB1 (i k room:Int):Cn:={hB0 i k room with st:=3,una:=(k+1) % 4294967296,rA:=true,rS:=16,rV:=4,rD:=0,cX:=201,agn:=0,tmg:=false,wnd:=room,wsq:=(i+1) % 4294967296,wak:=(k+1) % 4294967296}
def hW:ByteArray:=⟨#[116,119,111,108,105,110,101]⟩
def hM (room:Int):Nat:=min room.toNat 7
def hT (room:Int):ByteArray:=hW.extract 0 (hM room)
def hP (i k room:Int):Sg:=⟨0,0,(i+1) % 4294967296,(k+1) % 4294967296,24,room,0,hT room⟩
theorem pieces_stop (ps:List (Int×ByteArray)) (now:Int) (c:Cn) (xs:List Sg) (h:goesB c=false):∀ n,piecesC ps now n c xs=(c,xs)
 | 0=>rfl
 | n+1=>by
  rw [piecesC,h]
  rfl
def hB2 (i k room:Int):Cn:={hB1 i k room with iN:=((i+1) % 4294967296+(hM room:Int)) % 4294967296,iD:=hT room,owe:=true}
theorem good_at {c:Cn} {ps:List (Int×ByteArray)} (g:GoodC c ps) (a:Option Addr) (p:Nat):GoodC {c with pa:=a,pc:=p} ps:=
 ⟨g.w_iss,g.w_una,g.w_nxt,g.w_mx,g.w_wsq,g.w_wak,g.w_oF,g.w_fsq,g.w_cR,g.w_tsq,g.hod,g.gd⟩
end Go.Proofs.YtmigalhmlofbkaaGreatDoor
