/-
  A cursor as it stands, carried over what is new and over what is written elsewhere; its small draws with what they touch.
  The draw of two ends' start.
  An end that was asked, as impl makes it.
  Regions that leave their order open and store into variables that were there: each operation is shown once; what it leaves stands whatever is stored into older blocks. And a list of parts and a variable of an end are never one block.
  Addresses as blocks.
  Texts put together, cut and held against the empty one, behind the veil.
-/
import Derived.Test.YtmdglnmdodcehaaGreatDoorM52
import Derived.Test.YtmdglnmdodcehaaGreatDoorM6
import Derived.Deep.DeepCutAuto
import Derived.Test.YtmdglnmdodcehaaGreatDoorM35
import Derived.Test.YtmdglnmdodcehaaGreatDoorConnAskI
import Derived.Test.YtmdglnmdodcehaaGreatDoorM47
import Derived.Test.YtmdglnmdodcehaaGreatDoorM1
import Derived.Test.YtmdglnmdodcehaaGreatDoorM5
import Derived.Test.YtmdglnmdodcehaaGreatDoorM7
import Derived.Test.YtmdglnmdodcehaaGreatDoorM0
namespace Go.Proofs.YtmdglnmdodcehaaGreatDoor
open Go.ChangeShapes Go.WideShapes Go.ChangeAt Go.RowKit
set_option linter.unusedVariables false
set_option maxRecDepth 10000

def Crs (w0:World) (g:Nat) (a:Option Addr) (len cap:Nat) (zs:List Int) (w:World):Prop:=Cur w0 w g a len cap zs w

section
variable {w0:World} {g:Nat} {a:Option Addr} {len cap:Nat} {zs:List Int}

theorem Crs.of {wb w:World} (h:Cur w0 wb g a len cap zs w):Crs w0 g a len cap zs w:=h.rebase

theorem Crs.here {w:World} (h:Crs w0 g a len cap zs w):g<w.heap.size:=Cur.here h

theorem Crs.low {w:World} (h:Crs w0 g a len cap zs w):w0.heap.size≤g:=Cur.low h

theorem Crs.bel {w:World} (h:Crs w0 g a len cap zs w):Below w0.heap.size w0 w:=Cur.bel h

theorem Crs.since {w x:World} (h:Crs w0 g a len cap zs w) (k:Since w x):Crs w0 g a len cap zs x:=(Cur.moved (g':=g) h k).rebase

theorem Crs.touch {w x:World} {b:Nat} (h:Crs w0 g a len cap zs w) (t:Touch b w x) (hb:b≠g∧w0.heap.size≤b):Crs w0 g a len cap zs x:=by
 obtain ⟨i,y,hi,c0,c1,c2,f1,f2⟩:=Cur.cells h
 have hh:=h.here
 have hl:=h.low
 have hbel:=h.bel
 have cc:∀ q,x.cell? ⟨g,q,none⟩=w.cell? ⟨g,q,none⟩:=fun q=>t.cell (p:=⟨g,q,none⟩) (fun e=>hb.1 e.symm) hh
 have ff:∀ q,x.frozen? ⟨g,q,none⟩=w.frozen? ⟨g,q,none⟩:=fun q=>t.frozen (p:=⟨g,q,none⟩) (fun e=>hb.1 e.symm) hh
 refine ⟨Cur.bytes h,Cur.most h,⟨t.os.trans hbel.os,t.tape.trans hbel.tape,t.output.trans hbel.output,Nat.le_trans hbel.size t.size,fun k hk=>(t.block k (Nat.lt_of_lt_of_le hk hbel.size) (by omega)).trans (hbel.block k hk)⟩,hl,Nat.lt_of_lt_of_le hh t.size,Touch.refl _ _,i,y,hi,(cc 0).trans c0,(cc 1).trans c1,(cc 2).trans c2,(ff 1).trans f1,(ff 2).trans f2⟩

theorem dWord (w:World) (hc:Crs w0 g a len cap zs w) :
  Calls Tryz.prog 21 #[.pointer (some ⟨g,0,none⟩)] w fun e w'=>∃ x:Int,e=.returned (.int .u32 x)∧IsWord x∧Crs w0 g a len cap zs w'∧Touch g w w':=
 (drawWord w hc).mono fun e w' ⟨x,he,hx,h⟩=>⟨x,he,hx,h.rebase,h.touch⟩

theorem dPick (b n:Nat) (vs:List Int) (hn:vs.length=n) (hpos:0<n) (hn2:n≤1000) (w:World) (hc:Crs w0 g a len cap zs w) (hne:b≠g) (hl:Ints w b vs) :
  Calls Tryz.prog 22 #[.pointer (some ⟨g,0,none⟩),.slice (some ⟨b,0,none⟩) n n] w fun e w'=>∃ v:Int,e=.returned (.int .i64 v)∧v∈vs∧Crs w0 g a len cap zs w'∧Touch g w w':=by
 refine (pickInt b n vs hn hpos hn2 w hc hne hl).mono ?_
 rintro e w' ⟨k,hk,he,h⟩
 refine ⟨vs.getD k 0,he,?_,h.rebase,h.touch⟩
 rw [List.getD_eq_getElem?_getD,List.getElem?_eq_getElem hk]
 exact List.getElem_mem hk
end
end Go.Proofs.YtmdglnmdodcehaaGreatDoor

namespace Go.Proofs.YtmdglnmdodcehaaGreatDoor
open Go.ChangeShapes Go.WideShapes Go.ChangeAt Go.RowKit Go.Deep
set_option linter.unusedVariables false
set_option maxRecDepth 10000

set_option maxRecDepth 20000 in
set_option maxHeartbeats 1500000 in
theorem drawPair15 (a:Option Addr) (len cap:Nat) (zs:List Int) (w:World) (hb:Bytes w a len zs) (hm:len≤1048576) :
  Calls Tryz.prog 6 #[.slice a len cap] w fun f w'=>∃ i k r:Int,f=.returned (.tuple #[.int .u32 i,.int .u32 k,.int .i64 r])∧IsWord i∧IsWord k∧(-1000000≤r∧r≤1000000)∧Since w w':=by
 have G:=Since.refl w
 go_enter Tryz.func6,Tryz.ntmps6
 go_upto_region 0 with (fail)
 refine vR ?_
 refine vV (.int .u32 0) ?_
 refine vV (.int .u32 0) ?_
 refine vV (.int .i64 0) ?_
 refine vE #[.slice a len cap,U,.int .u32 0,.int .u32 0,.int .i64 0,U,U,U,U,U,U,U,U,U,U,U,U,U,U] ?_
 go_upto_region 1 with (fail)
 refine vR ?_
 refine vV (.slice a len cap) ?_
 refine vC (drawNew a len cap zs w hb hm _ G) ?_
 rintro _ qw1 ⟨g,rfl,hgl,qg2,HCu⟩
 refine ⟨_,rfl,?_⟩
 replace G:=G.trans qg2
 have qg2_s:=qg2.size
 have HC:=Crs.of HCu
 clear HCu
 have hg:=HC.here
 refine vV (.pointer (some ⟨g,0,none⟩)) ?_
 refine vE #[.slice a len cap,U,.int .u32 0,.int .u32 0,.int .i64 0,pX g 0,U,U,.slice a len cap,pX g 0,U,U,U,U,U,U,U,U,U] ?_
 go_upto_region 2 with (fail)
 refine vR ?_
 refine vV (.pointer (some ⟨g,0,none⟩)) ?_
 refine vC (dWord _ HC) ?_
 rintro _ qw3 ⟨i,rfl,hi,HCn,qt4⟩
 refine ⟨_,rfl,?_⟩
 clear HC
 replace G:=since_touch G qt4 (by omega)
 have HC:=HCn
 clear HCn
 have qt4_s:=qt4.size
 refine vV (.int .u32 i) ?_
 refine vE #[.slice a len cap,U,.int .u32 0,.int .u32 0,.int .i64 0,pX g 0,.int .u32 i,U,.slice a len cap,pX g 0,pX g 0,.int .u32 i,U,U,U,U,U,U,U] ?_
 go_upto_region 3 with (fail)
 refine vR ?_
 refine vV (.pointer (some ⟨g,0,none⟩)) ?_
 refine vC (dWord _ HC) ?_
 rintro _ qw5 ⟨k,rfl,hk,HCn,qt6⟩
 refine ⟨_,rfl,?_⟩
 clear HC
 replace G:=since_touch G qt6 (by omega)
 have HC:=HCn
 clear HCn
 have qt6_s:=qt6.size
 refine vV (.int .u32 k) ?_
 refine vE #[.slice a len cap,U,.int .u32 0,.int .u32 0,.int .i64 0,pX g 0,.int .u32 i,.int .u32 k,.slice a len cap,pX g 0,pX g 0,.int .u32 i,pX g 0,.int .u32 k,U,U,U,U,U] ?_
 go_upto_region 4 with (fail)
 refine vR ?_
 refine vV (.int .u32 i) ?_
 refine vV (.int .u32 k) ?_
 refine vV (.pointer (some ⟨g,0,none⟩)) ?_
 refine vW (qw5.alloc (.cells #[.int .i64 50,.int .i64 400,.int .i64 4096,.int .i64 4097,.int .i64 0,.int .i64 1] 3)) (.slice (some ⟨qw5.heap.size,0,none⟩) 6 6) ?_
 have qI8:=ints_alloc qw5 #[.int .i64 50,.int .i64 400,.int .i64 4096,.int .i64 4097,.int .i64 0,.int .i64 1] 3 [50,400,4096,4097,0,1] rfl
 have qg9:=(Since.refl qw5).alloc (.cells #[.int .i64 50,.int .i64 400,.int .i64 4096,.int .i64 4097,.int .i64 0,.int .i64 1] 3)
 replace HC:=HC.since qg9
 replace G:=G.trans qg9
 generalize qw5.alloc (.cells #[.int .i64 50,.int .i64 400,.int .i64 4096,.int .i64 4097,.int .i64 0,.int .i64 1] 3)=qw7 at HC G qI8 qg9 ⊢
 have qg9_s:=qg9.size
 refine vC (dPick _ 6 [50,400,4096,4097,0,1] rfl (by omega) (by omega) _ HC (by omega) qI8) ?_
 rintro _ qw10 ⟨r,rfl,hr,HCn,qt11⟩
 refine ⟨_,rfl,?_⟩
 clear HC
 replace G:=since_touch G qt11 (by omega)
 have HC:=HCn
 clear HCn
 have qt11_s:=qt11.size
 clear qI8
 refine vV (.int .u32 i) ?_
 refine vV (.int .u32 k) ?_
 refine vV (.int .i64 r) ?_
 refine vE #[.slice a len cap,U,.int .u32 i,.int .u32 k,.int .i64 r,pX g 0,.int .u32 i,.int .u32 k,.slice a len cap,pX g 0,pX g 0,.int .u32 i,pX g 0,.int .u32 k,.int .u32 i,.int .u32 k,pX g 0,.slice (some ⟨qw5.heap.size,0,none⟩) 6 6,.int .i64 r] ?_
 go_wp2_with (fail)
 refine bodyPost_ret (v:=.tuple #[.int .u32 i,.int .u32 k,.int .i64 r]) ?_ rfl ⟨i,k,r,rfl,hi,hk,by simp at hr;omega,G⟩
 simp [results,go_sem]
end Go.Proofs.YtmdglnmdodcehaaGreatDoor

namespace Go.Proofs.YtmdglnmdodcehaaGreatDoor
open Go.ChangeShapes Go.WideShapes Go.ChangeAt Go.RowKit
set_option linter.unusedVariables false
set_option maxRecDepth 10000

theorem synI_hear {s:Sg} {i room now:Int} (h:1≤room∧room≤4096):synI (hearC s i room now)=synSg (hearC s i room now) []:=by
 have e:=synI_is (a:=2) (i:=i) (now:=now) (nx:=(s.sq+1) % 4294967296) h
 unfold synI synSg at e ⊢
 exact e

theorem hear_ask (s:Sg) (room now:Int):hearOk s room now↔(1≤room∧room≤4096)∧(0≤now∧now≤1000000000)∧askOk s=true:=by
 unfold hearOk askOk formOk
 constructor
 ·rintro ⟨h1,h2,h3,h4,h5⟩
  refine ⟨h1,h2,?_⟩
  have hz:s.d.size=0:=by rw [h5];rfl
  simp [h3,h5,h4]
 ·rintro ⟨h1,h2,h3⟩
  simp at h3
  exact ⟨h1,h2,h3.1.1,h3.2.2.1,h3.1.2⟩

set_option maxRecDepth 20000 in
set_option maxHeartbeats 16000000 in
theorem implHear (s:Sg) (i room now:Int) (hi:IsWord i) (hq:IsWord s.sq) (hd:s.d.size≤1048576) (w:World) (E:Laid0 w) :
  Calls Tryz.prog 8 #[sgVal s,.int .u32 i,.int .i64 room,.int .i64 now] w fun e w'=>e=.returned (hearV s i room now)∧Since w w':=by
 have k1:=fun wx=>isRoomI room wx
 have k2:=fun wx=>isTickI now wx
 have k3:=fun wx=>asking s hd wx
 obtain ⟨V,hV⟩:∃ V,Hid (V=hearV s i room now):=⟨_,rfl⟩
 rw [← hV.out]
 have hok:=hear_ask s room now
 replace hok:Hid _:=hok
 have hE:=E.lt
 unfold sgVal
 go_enter Tryz.func8,Tryz.ntmps8
 go_upto_region 2 with (fail)
 rw [cn_zero,sg_zero,show (#[.string ⟨#[]⟩,.bool false,.bool false,.bool false]:Array Value)=mfCells ByteArray.empty false false false from rfl]
 have G:=((((Since.refl w).alloc (.cells (sgCells s) 39)).alloc (.cells (cnCells cnZero) 37)).alloc (.cells (sgCells sgZero) 39)).alloc (.cells (mfCells ByteArray.empty false false false) 71)
 have S:=(Blk.new w (sgCells s) 39).since ((((Since.refl _).alloc (.cells (cnCells cnZero) 37)).alloc (.cells (sgCells sgZero) 39)).alloc (.cells (mfCells ByteArray.empty false false false) 71))
 have Z:=(Blk.new (w.alloc (.cells (sgCells s) 39)) (cnCells cnZero) 37).since (((Since.refl _).alloc (.cells (sgCells sgZero) 39)).alloc (.cells (mfCells ByteArray.empty false false false) 71))
 have Y:=(Blk.new ((w.alloc (.cells (sgCells s) 39)).alloc (.cells (cnCells cnZero) 37)) (sgCells sgZero) 39).since ((Since.refl _).alloc (.cells (mfCells ByteArray.empty false false false) 71))
 have F:=Blk.new (((w.alloc (.cells (sgCells s) 39)).alloc (.cells (cnCells cnZero) 37)).alloc (.cells (sgCells sgZero) 39)) (mfCells ByteArray.empty false false false) 71
 simp only [World.size_alloc] at Z Y F
 replace E:=E.since G
 generalize (((w.alloc (.cells (sgCells s) 39)).alloc (.cells (cnCells cnZero) 37)).alloc (.cells (sgCells sgZero) 39)).alloc (.cells (mfCells ByteArray.empty false false false) 71)=x0 at S Z Y F G E ⊢
 have hF:=F.lt
 by_cases ha:1≤room∧room≤4096
 case neg=>
  have e:Hid (V=.tuple #[cnVal cnZero,sgVal sgZero,.bool false]):=hV.out.trans (if_neg fun h=>ha (hok.out.1 h).1)
  rw [show decide (1≤room∧room≤4096)=false by simp [ha]] at k1
  clear ha k2 k3
  refine vR ?_
  refine vV (.int .i64 room) ?_
  refine vC (k1 _) ?_
  rintro _ _ ⟨rfl,rfl⟩
  refine ⟨_,rfl,?_⟩
  refine vV (.bool true) ?_
  refine vV (.bool true) ?_
  refine vS ?_
  refine vS ?_
  refine vS ?_
  refine vV (.bool true) ?_
  refine vV (.bool true) ?_
  refine vS ?_
  refine vS ?_
  refine vS ?_
  refine vS ?_
  refine vV (.bool true) ?_
  refine vE #[.agg (sgCells s),.int .u32 i,.int .i64 room,.int .i64 now,pX w.heap.size 0,U,U,U,pX (w.heap.size+1) 0,pX (w.heap.size+1+1) 0,.bool false,pX (w.heap.size+1+1+1) 0,U,.int .i64 room,.bool false,.bool true,.bool true,U,U,U,.bool true,.bool true,U,U,U,U,.bool true,U,U,U,U,U,U,U,U,U,U,U,U,U] ?_
  go_upto_region 3 with (fail)
  refine vR ?_
  refine vV (.agg (cnCells cnZero)) ?_
  refine vV (.agg (sgCells sgZero)) ?_
  refine sB (cnCells cnZero) cn_big Z (cn_size _) (cn_size _) (cn_one _) ?_
  intro qw1 qt2 qB3
  clear Z
  replace S:=S.touch qt2 (by omega)
  replace Y:=Y.touch qt2 (by omega)
  replace F:=F.touch qt2 (by omega)
  replace E:=E.touch qt2 (by omega)
  replace G:=since_touch G qt2 (by omega)
  have qt2_s:=qt2.size
  refine sB (sgCells sgZero) seg_big Y rfl rfl (seg_one _ _ _ _ _ _ _ _) ?_
  intro qw4 qt5 qB6
  clear Y
  replace S:=S.touch qt5 (by omega)
  replace qB3:=qB3.touch qt5 (by omega)
  replace F:=F.touch qt5 (by omega)
  replace E:=E.touch qt5 (by omega)
  replace G:=since_touch G qt5 (by omega)
  have qt5_s:=qt5.size
  refine vV (.bool false) ?_
  refine vE #[.agg (sgCells s),.int .u32 i,.int .i64 room,.int .i64 now,pX w.heap.size 0,U,U,U,pX (w.heap.size+1) 0,pX (w.heap.size+1+1) 0,.bool false,pX (w.heap.size+1+1+1) 0,U,.int .i64 room,.bool false,.bool true,.bool true,U,U,U,.bool true,.bool true,U,U,U,U,.bool true,.agg (cnCells cnZero),.agg (sgCells sgZero),U,U,U,U,U,U,U,U,U,U,U] ?_
  go_wp2_with (fail)
  exact bodyPost_ret (v:=.tuple #[.agg (cnCells cnZero),.agg (sgCells sgZero),.bool false]) (results_cn3 (t:=8) (u:=9) (v:=10) rfl _ rfl rfl qB3 qB6) rfl ⟨by rw [e.out];rfl,G⟩
 case pos=>
  rw [show decide (1≤room∧room≤4096)=true by simp [ha]] at k1
  by_cases hb:0≤now∧now≤1000000000
  case neg=>
   have e:Hid (V=.tuple #[cnVal cnZero,sgVal sgZero,.bool false]):=hV.out.trans (if_neg fun h=>hb (hok.out.1 h).2.1)
   rw [show decide (0≤now∧now≤1000000000)=false by simp [hb]] at k2
   clear ha hb k3
   refine vR ?_
   refine vV (.int .i64 room) ?_
   refine vC (k1 _) ?_
   rintro _ _ ⟨rfl,rfl⟩
   refine ⟨_,rfl,?_⟩
   refine vV (.bool false) ?_
   refine vV (.bool false) ?_
   refine vV (.int .i64 now) ?_
   refine vC (k2 _) ?_
   rintro _ _ ⟨rfl,rfl⟩
   refine ⟨_,rfl,?_⟩
   refine vV (.bool true) ?_
   refine vV (.bool true) ?_
   refine vV (.bool true) ?_
   refine vS ?_
   refine vS ?_
   refine vS ?_
   refine vS ?_
   refine vV (.bool true) ?_
   refine vE #[.agg (sgCells s),.int .u32 i,.int .i64 room,.int .i64 now,pX w.heap.size 0,U,U,U,pX (w.heap.size+1) 0,pX (w.heap.size+1+1) 0,.bool false,pX (w.heap.size+1+1+1) 0,U,.int .i64 room,.bool true,.bool false,.bool false,.int .i64 now,.bool false,.bool true,.bool true,.bool true,U,U,U,U,.bool true,U,U,U,U,U,U,U,U,U,U,U,U,U] ?_
   go_upto_region 3 with (fail)
   refine vR ?_
   refine vV (.agg (cnCells cnZero)) ?_
   refine vV (.agg (sgCells sgZero)) ?_
   refine sB (cnCells cnZero) cn_big Z (cn_size _) (cn_size _) (cn_one _) ?_
   intro qw1 qt2 qB3
   clear Z
   replace S:=S.touch qt2 (by omega)
   replace Y:=Y.touch qt2 (by omega)
   replace F:=F.touch qt2 (by omega)
   replace E:=E.touch qt2 (by omega)
   replace G:=since_touch G qt2 (by omega)
   have qt2_s:=qt2.size
   refine sB (sgCells sgZero) seg_big Y rfl rfl (seg_one _ _ _ _ _ _ _ _) ?_
   intro qw4 qt5 qB6
   clear Y
   replace S:=S.touch qt5 (by omega)
   replace qB3:=qB3.touch qt5 (by omega)
   replace F:=F.touch qt5 (by omega)
   replace E:=E.touch qt5 (by omega)
   replace G:=since_touch G qt5 (by omega)
   have qt5_s:=qt5.size
   refine vV (.bool false) ?_
   refine vE #[.agg (sgCells s),.int .u32 i,.int .i64 room,.int .i64 now,pX w.heap.size 0,U,U,U,pX (w.heap.size+1) 0,pX (w.heap.size+1+1) 0,.bool false,pX (w.heap.size+1+1+1) 0,U,.int .i64 room,.bool true,.bool false,.bool false,.int .i64 now,.bool false,.bool true,.bool true,.bool true,U,U,U,U,.bool true,.agg (cnCells cnZero),.agg (sgCells sgZero),U,U,U,U,U,U,U,U,U,U,U] ?_
   go_wp2_with (fail)
   exact bodyPost_ret (v:=.tuple #[.agg (cnCells cnZero),.agg (sgCells sgZero),.bool false]) (results_cn3 (t:=8) (u:=9) (v:=10) rfl _ rfl rfl qB3 qB6) rfl ⟨by rw [e.out];rfl,G⟩
  case pos=>
   rw [show decide (0≤now∧now≤1000000000)=true by simp [hb]] at k2
   rcases Bool.eq_false_or_eq_true (askOk s) with hk|hk
   case inr=>
    have e:Hid (V=.tuple #[cnVal cnZero,sgVal sgZero,.bool false]):=hV.out.trans (if_neg fun h=>by rw [(hok.out.1 h).2.2] at hk;cases hk)
    clear ha hb
    refine vR ?_
    refine vV (.int .i64 room) ?_
    refine vC (k1 _) ?_
    rintro _ _ ⟨rfl,rfl⟩
    refine ⟨_,rfl,?_⟩
    refine vV (.bool false) ?_
    refine vV (.bool false) ?_
    refine vV (.int .i64 now) ?_
    refine vC (k2 _) ?_
    rintro _ _ ⟨rfl,rfl⟩
    refine ⟨_,rfl,?_⟩
    refine vV (.bool false) ?_
    refine vV (.bool false) ?_
    refine vV (.bool false) ?_
    refine vB seg_big S rfl ?_
    refine vC (k3 _) ?_
    rintro _ qw1 ⟨⟨av,rfl,hv⟩,qg2⟩
    refine ⟨_,rfl,?_⟩
    replace S:=S.since qg2
    replace Z:=Z.since qg2
    replace Y:=Y.since qg2
    replace F:=F.since qg2
    replace E:=E.since qg2
    replace G:=G.trans qg2
    have qg2_s:=qg2.size
    rw [hk] at hv
    refine vV (.iface 76 (.pointer (some ⟨w.heap.size+1+1+1,0,none⟩))) ?_
    refine vC (as_fit false av hv _ _ E.at0 F) ?_
    rintro _ qw3 ⟨rfl,qt4,tt,qB5⟩
    refine ⟨_,rfl,?_⟩
    clear F
    replace S:=S.touch qt4 (by omega)
    replace Z:=Z.touch qt4 (by omega)
    replace Y:=Y.touch qt4 (by omega)
    replace E:=E.touch qt4 (by omega)
    replace G:=since_touch G qt4 (by omega)
    have qt4_s:=qt4.size
    refine vV (.bool true) ?_
    refine vE #[.agg (sgCells s),.int .u32 i,.int .i64 room,.int .i64 now,pX w.heap.size 0,U,U,U,pX (w.heap.size+1) 0,pX (w.heap.size+1+1) 0,.bool false,pX (w.heap.size+1+1+1) 0,U,.int .i64 room,.bool true,.bool false,.bool false,.int .i64 now,.bool true,.bool false,.bool false,.bool false,.agg (sgCells s),av,.iface 76 (pX (w.heap.size+1+1+1) 0),.bool true,.bool true,U,U,U,U,U,U,U,U,U,U,U,U,U] ?_
    go_upto_region 3 with (fail)
    refine vR ?_
    refine vV (.agg (cnCells cnZero)) ?_
    refine vV (.agg (sgCells sgZero)) ?_
    refine sB (cnCells cnZero) cn_big Z (cn_size _) (cn_size _) (cn_one _) ?_
    intro qw6 qt7 qB8
    clear Z
    replace S:=S.touch qt7 (by omega)
    replace Y:=Y.touch qt7 (by omega)
    replace qB5:=qB5.touch qt7 (by omega)
    replace E:=E.touch qt7 (by omega)
    replace G:=since_touch G qt7 (by omega)
    have qt7_s:=qt7.size
    refine sB (sgCells sgZero) seg_big Y rfl rfl (seg_one _ _ _ _ _ _ _ _) ?_
    intro qw9 qt10 qB11
    clear Y
    replace S:=S.touch qt10 (by omega)
    replace qB8:=qB8.touch qt10 (by omega)
    replace qB5:=qB5.touch qt10 (by omega)
    replace E:=E.touch qt10 (by omega)
    replace G:=since_touch G qt10 (by omega)
    have qt10_s:=qt10.size
    refine vV (.bool false) ?_
    refine vE #[.agg (sgCells s),.int .u32 i,.int .i64 room,.int .i64 now,pX w.heap.size 0,U,U,U,pX (w.heap.size+1) 0,pX (w.heap.size+1+1) 0,.bool false,pX (w.heap.size+1+1+1) 0,U,.int .i64 room,.bool true,.bool false,.bool false,.int .i64 now,.bool true,.bool false,.bool false,.bool false,.agg (sgCells s),av,.iface 76 (pX (w.heap.size+1+1+1) 0),.bool true,.bool true,.agg (cnCells cnZero),.agg (sgCells sgZero),U,U,U,U,U,U,U,U,U,U,U] ?_
    go_wp2_with (fail)
    exact bodyPost_ret (v:=.tuple #[.agg (cnCells cnZero),.agg (sgCells sgZero),.bool false]) (results_cn3 (t:=8) (u:=9) (v:=10) rfl _ rfl rfl qB8 qB11) rfl ⟨by rw [e.out];rfl,G⟩
   case inl=>
    have e:Hid (V=.tuple #[cnVal (hearC s i room now),sgVal (synSg (hearC s i room now) []),.bool true]):=hV.out.trans (if_pos (hok.out.2 ⟨ha,hb,hk⟩))
    have hsy:=fun wx=>implSyn (hearC s i room now) wx
    rw [synI_hear ha] at hsy
    unfold sgVal cnVal at hsy
    have hhc:({metC {startC 1 i room now 0 with st:=2} s with wak:=0}:Cn)=hearC s i room now:=rfl
    refine vR ?_
    refine vV (.int .i64 room) ?_
    refine vC (k1 _) ?_
    rintro _ _ ⟨rfl,rfl⟩
    refine ⟨_,rfl,?_⟩
    refine vV (.bool false) ?_
    refine vV (.bool false) ?_
    refine vV (.int .i64 now) ?_
    refine vC (k2 _) ?_
    rintro _ _ ⟨rfl,rfl⟩
    refine ⟨_,rfl,?_⟩
    refine vV (.bool false) ?_
    refine vV (.bool false) ?_
    refine vV (.bool false) ?_
    refine vB seg_big S rfl ?_
    refine vC (k3 _) ?_
    rintro _ qw1 ⟨⟨av,rfl,hv⟩,qg2⟩
    refine ⟨_,rfl,?_⟩
    replace S:=S.since qg2
    replace Z:=Z.since qg2
    replace Y:=Y.since qg2
    replace F:=F.since qg2
    replace E:=E.since qg2
    replace G:=G.trans qg2
    have qg2_s:=qg2.size
    rw [hk] at hv
    refine vV (.iface 76 (.pointer (some ⟨w.heap.size+1+1+1,0,none⟩))) ?_
    refine vC (as_fit true av hv _ _ E.at0 F) ?_
    rintro _ qw3 ⟨rfl,qt4,tt,qB5⟩
    refine ⟨_,rfl,?_⟩
    clear F
    replace S:=S.touch qt4 (by omega)
    replace Z:=Z.touch qt4 (by omega)
    replace Y:=Y.touch qt4 (by omega)
    replace E:=E.touch qt4 (by omega)
    replace G:=since_touch G qt4 (by omega)
    have qt4_s:=qt4.size
    refine vV (.bool false) ?_
    refine vE #[.agg (sgCells s),.int .u32 i,.int .i64 room,.int .i64 now,pX w.heap.size 0,U,U,U,pX (w.heap.size+1) 0,pX (w.heap.size+1+1) 0,.bool false,pX (w.heap.size+1+1+1) 0,U,.int .i64 room,.bool true,.bool false,.bool false,.int .i64 now,.bool true,.bool false,.bool false,.bool false,.agg (sgCells s),av,.iface 76 (pX (w.heap.size+1+1+1) 0),.bool false,.bool false,U,U,U,U,U,U,U,U,U,U,U,U,U] ?_
    go_upto_region 4 with (fail)
    refine vR ?_
    refine vV (.int .u32 i) ?_
    refine vV (.int .i64 room) ?_
    refine vV (.int .i64 now) ?_
    refine vK (implBegin i room now hb.1 hb.2 _) ?_
    intro qw6 qg7
    replace S:=S.since qg7
    replace Z:=Z.since qg7
    replace Y:=Y.since qg7
    replace qB5:=qB5.since qg7
    replace E:=E.since qg7
    replace G:=G.trans qg7
    have qg7_s:=qg7.size
    refine vW (qw6.alloc (.cells (cnCells cnZero) 37)) (.pointer (some ⟨qw6.heap.size,0,none⟩)) ?_
    have qB9:=Blk.new qw6 (cnCells cnZero) 37
    have qg10:=(Since.refl qw6).alloc (.cells (cnCells cnZero) 37)
    replace S:=S.since qg10
    replace Z:=Z.since qg10
    replace Y:=Y.since qg10
    replace qB5:=qB5.since qg10
    replace E:=E.since qg10
    replace G:=G.trans qg10
    generalize qw6.alloc (.cells (cnCells cnZero) 37)=qw8 at S Z Y qB5 E G qB9 qg10 ⊢
    have qB9_l:=qB9.lt
    have qg10_s:=qg10.size
    refine sB (cnCells (startC 1 i room now 0)) cn_big qB9 (cn_size _) (cn_size _) (cn_one _) ?_
    intro qw11 qt12 qB13
    clear qB9
    replace S:=S.touch qt12 (by omega)
    replace Z:=Z.touch qt12 (by omega)
    replace Y:=Y.touch qt12 (by omega)
    replace qB5:=qB5.touch qt12 (by omega)
    replace E:=E.touch qt12 (by omega)
    replace G:=since_touch G qt12 (by omega)
    have qt12_s:=qt12.size
    refine vE #[.agg (sgCells s),.int .u32 i,.int .i64 room,.int .i64 now,pX w.heap.size 0,U,U,U,pX (w.heap.size+1) 0,pX (w.heap.size+1+1) 0,.bool false,pX (w.heap.size+1+1+1) 0,pX qw6.heap.size 0,.int .i64 room,.bool true,.bool false,.bool false,.int .i64 now,.bool true,.bool false,.bool false,.bool false,.agg (sgCells s),av,.iface 76 (pX (w.heap.size+1+1+1) 0),.bool false,.bool false,U,U,.int .u32 i,.int .i64 room,.int .i64 now,.agg (cnCells (startC 1 i room now 0)),U,U,U,U,U,U,U] ?_
    go_upto_region 5 with (fail)
    refine vR ?_
    refine vV (.pointer (some ⟨qw6.heap.size,0,none⟩)) ?_
    refine sC (cnCells {(startC 1 i room now 0) with st:=2}) qB13 0 (.int .i64 2) (cn_size _) ?_
    intro qw14 qt15 qB16
    clear qB13
    replace S:=S.touch qt15 (by omega)
    replace Z:=Z.touch qt15 (by omega)
    replace Y:=Y.touch qt15 (by omega)
    replace qB5:=qB5.touch qt15 (by omega)
    replace E:=E.touch qt15 (by omega)
    replace G:=since_touch G qt15 (by omega)
    have qt15_s:=qt15.size
    refine vE #[.agg (sgCells s),.int .u32 i,.int .i64 room,.int .i64 now,pX w.heap.size 0,U,U,U,pX (w.heap.size+1) 0,pX (w.heap.size+1+1) 0,.bool false,pX (w.heap.size+1+1+1) 0,pX qw6.heap.size 0,.int .i64 room,.bool true,.bool false,.bool false,.int .i64 now,.bool true,.bool false,.bool false,.bool false,.agg (sgCells s),av,.iface 76 (pX (w.heap.size+1+1+1) 0),.bool false,.bool false,U,U,.int .u32 i,.int .i64 room,.int .i64 now,.agg (cnCells (startC 1 i room now 0)),pX qw6.heap.size 0,U,U,U,U,U,U] ?_
    go_upto_region 6 with (fail)
    refine vR ?_
    refine vB seg_big S rfl ?_
    refine vC (implMeet _ _ s _ qB16) ?_
    rintro _ qw17 ⟨rfl,qt18,qB19⟩
    refine ⟨_,rfl,?_⟩
    clear qB16
    replace S:=S.touch qt18 (by omega)
    replace Z:=Z.touch qt18 (by omega)
    replace Y:=Y.touch qt18 (by omega)
    replace qB5:=qB5.touch qt18 (by omega)
    replace E:=E.touch qt18 (by omega)
    replace G:=since_touch G qt18 (by omega)
    have qt18_s:=qt18.size
    refine vE #[.agg (sgCells s),.int .u32 i,.int .i64 room,.int .i64 now,pX w.heap.size 0,U,U,U,pX (w.heap.size+1) 0,pX (w.heap.size+1+1) 0,.bool false,pX (w.heap.size+1+1+1) 0,pX qw6.heap.size 0,.int .i64 room,.bool true,.bool false,.bool false,.int .i64 now,.bool true,.bool false,.bool false,.bool false,.agg (sgCells s),av,.iface 76 (pX (w.heap.size+1+1+1) 0),.bool false,.bool false,U,U,.int .u32 i,.int .i64 room,.int .i64 now,.agg (cnCells (startC 1 i room now 0)),pX qw6.heap.size 0,.agg (sgCells s),.tuple #[],U,U,U,U] ?_
    go_upto_region 7 with (fail)
    refine vR ?_
    refine vV (.pointer (some ⟨qw6.heap.size,7,none⟩)) ?_
    refine sC (cnCells {(metC {startC 1 i room now 0 with st:=2} s) with wak:=0}) qB19 7 (.int .u32 0) (cn_size _) ?_
    intro qw20 qt21 qB22
    clear qB19
    replace S:=S.touch qt21 (by omega)
    replace Z:=Z.touch qt21 (by omega)
    replace Y:=Y.touch qt21 (by omega)
    replace qB5:=qB5.touch qt21 (by omega)
    replace E:=E.touch qt21 (by omega)
    replace G:=since_touch G qt21 (by omega)
    have qt21_s:=qt21.size
    refine vE #[.agg (sgCells s),.int .u32 i,.int .i64 room,.int .i64 now,pX w.heap.size 0,U,U,U,pX (w.heap.size+1) 0,pX (w.heap.size+1+1) 0,.bool false,pX (w.heap.size+1+1+1) 0,pX qw6.heap.size 0,.int .i64 room,.bool true,.bool false,.bool false,.int .i64 now,.bool true,.bool false,.bool false,.bool false,.agg (sgCells s),av,.iface 76 (pX (w.heap.size+1+1+1) 0),.bool false,.bool false,U,U,.int .u32 i,.int .i64 room,.int .i64 now,.agg (cnCells (startC 1 i room now 0)),pX qw6.heap.size 0,.agg (sgCells s),.tuple #[],pX qw6.heap.size 7,U,U,U] ?_
    rw [hhc] at qB22
    go_upto_region 8 with (fail)
    generalize synSg (hearC s i room now) []=SS at hsy e
    generalize hearC s i room now=CC at hsy e qB22 hhc
    clear hhc
    refine wp_region_tail (wb:=qw20) 3 (fun i x v=>match i with
      | 0=>v=.agg (cnCells CC)
      | 1=>v=.agg (cnCells CC)
      | 2=>v=.agg (sgCells SS)
      | _=>True) (fun v=>{tmps:=#[.agg (sgCells s),.int .u32 i,.int .i64 room,.int .i64 now,.pointer (some ⟨w.heap.size,0,none⟩),undef,undef,undef,.pointer (some ⟨w.heap.size+1,0,none⟩),.pointer (some ⟨w.heap.size+1+1,0,none⟩),.bool false,.pointer (some ⟨w.heap.size+1+1+1,0,none⟩),.pointer (some ⟨qw6.heap.size,0,none⟩),.int .i64 room,.bool true,.bool false,.bool false,.int .i64 now,.bool true,.bool false,.bool false,.bool false,.agg (sgCells s),av,.iface 76 (.pointer (some ⟨w.heap.size+1+1+1,0,none⟩)),.bool false,.bool false,undef,undef,.int .u32 i,.int .i64 room,.int .i64 now,.agg (cnCells (startC 1 i room now 0)),.pointer (some ⟨qw6.heap.size,0,none⟩),.agg (sgCells s),.tuple #[],.pointer (some ⟨qw6.heap.size,7,none⟩),v 0,v 1,v 2],defers:=[]}) (by kernel_rfl) (by kernel_rfl) (by kernel_rfl) (Since.refl _) ?_ (fun vals=>by kernel_rfl) ?_ ?_
    case refine_1=>
     intro i x x' v h1 h2
     match i,h2 with
     | 0,h2|1,h2|2,h2=>exact h2
     | n+3,_=>trivial
    case refine_2=>
     repeat (first|exact eachDoes_nil|refine eachDoes_cons ?_ ?_)
     all_goals intro vals x hx hv
     all_goals simp [Region.binds] at hv
     ·simp [does,doesUpon,go_sem,hv]
      refine (hsy x).mono ?_
      rintro _ x' ⟨rfl,h1⟩
      simp [h1]
     ·exact does_load cn_big (cn_size CC) (qB22.since hx) _ rfl rfl ⟨Since.refl _,rfl⟩
     ·exact does_load cn_big (cn_size CC) (qB22.since hx) _ rfl rfl ⟨Since.refl _,rfl⟩
    case refine_3=>
     intro vals x hx hv
     have h0:vals 0=_:=hv 0 (by decide)
     have h2:vals 2=_:=hv 2 (by decide)
     clear hv
     simp only [h0,h2,List.drop]
     replace Z:=Z.since hx
     replace Y:=Y.since hx
     replace G:=G.trans hx
     refine store_cn Z rfl _ _ rfl rfl rfl ?_
     intro x3 t3 Z3
     replace Y:=Y.touch t3 (by omega)
     replace G:=since_touch G t3 (by omega)
     refine store_big seg_big rfl rfl (seg_one _ _ _ _ _ _ _ _) Y rfl _ _ rfl rfl rfl ?_
     intro x4 t4 Y4
     replace Z3:=Z3.touch t4 (by omega)
     replace G:=since_touch G t4 (by omega)
     go_wp2_with (fail)
     exact bodyPost_ret (v:=.tuple #[.agg (cnCells CC),.agg (sgCells SS),.bool true]) (results_cn3 (t:=8) (u:=9) (v:=10) rfl _ rfl rfl Z3 Y4) rfl ⟨by rw [e.out];rfl,G⟩
end Go.Proofs.YtmdglnmdodcehaaGreatDoor

namespace Go.Proofs.YtmdglnmdodcehaaGreatDoor
open Go.ChangeShapes Go.WideShapes Go.ChangeAt Go.RowKit
set_option linter.unusedVariables false
set_option maxRecDepth 10000

def Low (N:Nat→Prop) (x y:World):Prop:=∃ b,N b∧Touch b x y

theorem Low.since {N:Nat→Prop} {b:Nat} {x y:World} (h:Since x y) (hN:N b):Low N x y:=⟨b,hN,Touch.of_since h b⟩

theorem Low.touch {N:Nat→Prop} {b:Nat} {x y:World} (h:Touch b x y) (hb:N b):Low N x y:=⟨b,hb,h⟩

def eachLow (P:Program) (N:World→World→Prop) (V:Nat→World→Value→Prop) (K:(Nat→Bool)→(Nat→Value)→World→Prop) (F:(Nat→Value)→Act):Nat→List Oper→Prop
 | _,[]=>True
 | k,o :: rest=>(∀ (f:Nat→Bool) vals x,f k=false→(∀ e∈o.after,Region.binds .any e=true→f e.on=true∧V e.on x (vals e.on))→K f vals x→does P o (F vals) x fun v w'=>N x w'∧K (andDone f k) (putVal vals k v) w'∧V k w' v)∧eachLow P N V K F (k+1) rest

theorem eachLow_nil {P:Program} {N:World→World→Prop} {V:Nat→World→Value→Prop} {K:(Nat→Bool)→(Nat→Value)→World→Prop} {F:(Nat→Value)→Act} {k:Nat}:eachLow P N V K F k []:=trivial

theorem eachLow_cons {P:Program} {N:World→World→Prop} {V:Nat→World→Value→Prop} {K:(Nat→Bool)→(Nat→Value)→World→Prop} {F:(Nat→Value)→Act} {k:Nat} {o:Oper} {rest:List Oper} (h:eachLow P N V K F (k+1) rest)
  (h1:∀ (f:Nat→Bool) vals x,f k=false→(∀ e∈o.after,Region.binds .any e=true→f e.on=true∧V e.on x (vals e.on))→K f vals x→does P o (F vals) x fun v w'=>N x w'∧K (andDone f k) (putVal vals k v) w'∧V k w' v):eachLow P N V K F k (o :: rest):=⟨h1,h⟩

theorem eachLow_V {P:Program} {N:World→World→Prop} {V:Nat→World→Value→Prop} {K:(Nat→Bool)→(Nat→Value)→World→Prop} {F:(Nat→Value)→Act} (hst:∀ j x y v,N x y→V j x v→V j y v) :
  ∀ (l:List Oper) (k:Nat),eachLow P N V K F k l→eachDoneV P (fun f vals x=>K f vals x∧∀ j,f j=true→V j x (vals j)) F k l
 | [],_,_=>trivial
 | o :: rest,k,h=>⟨fun f vals x hf hr hi=>doesUpon_mono (fun v w q=>⟨q.2.1,fun j hj=>by
   by_cases e:j=k
   ·subst e
    rw [show putVal vals j v j=v from if_pos rfl]
    exact q.2.2
   ·rw [show putVal vals k v j=vals j from if_neg e]
    exact hst _ _ _ _ q.1 (hi.2 j (by rw [show andDone f k j=f j from if_neg e] at hj;exact hj))⟩) (h.1 f vals x hf (fun e he hb=>⟨hr e he hb,hi.2 _ (hr e he hb)⟩) hi.1),eachLow_V hst rest (k+1) h.2⟩

theorem wp_region_low {P:Program} {id:Nat} {Q:Exit→Act→World→Prop} {a:Act} {w:World} {l:List Oper} (N:World→World→Prop) (V:Nat→World→Value→Prop) (K:(Nat→Bool)→(Nat→Value)→World→Prop) (F:(Nat→Value)→Act) (hm:P.follows .mixedOrders=true) (hs:settled l.toArray a.tmps.size=true)
  (hst:∀ j x y v,N x y→V j x v→V j y v) (h0:∀ (f:Nat→Bool) vals,(∀ j,f j=false)→K f vals w.drew) (hF:∀ vals,F vals=filled l.toArray a vals) (hop:eachLow P N V K F 0 l)
  (hfin:∀ (f:Nat→Bool) vals w,K f vals w→(∀ i,i<l.length→f i=true)→(∀ i,i<l.length→V i w (vals i))→Q .normal (F vals) w):(Code.region id l.toArray true).wp P Q a w:=
 wp_region_doneV (fun f vals x=>K f vals x∧∀ j,f j=true→V j x (vals j)) F hm hs (fun f vals hf=>⟨h0 f vals hf,fun j hj=>by rw [hf j] at hj;cases hj⟩) hF (eachLow_V hst l 0 hop) (fun f vals w hi hf=>hfin f vals w hi.1 hf (fun i h=>hi.2 i (hf i h)))
end Go.Proofs.YtmdglnmdodcehaaGreatDoor

namespace Go.Proofs.YtmdglnmdodcehaaGreatDoor
open Go.ChangeShapes Go.WideShapes Go.ChangeAt Go.RowKit Go.Deep
set_option linter.unusedVariables false
set_option maxRecDepth 10000

theorem does_valT {op:Oper} {a:Act} {w:World} {R:Value→World→Prop} (v:Value) (w':World) (h:(execOp a.eval op).run Tryz.prog w=.ok (.value v) w') (k:R v w'):does Tryz.prog op a w R:=by
 unfold does
 rw [h]
 exact k
end Go.Proofs.YtmdglnmdodcehaaGreatDoor

namespace Go.Proofs.YtmdglnmdodcehaaGreatDoor
open Go.ChangeShapes Go.WideShapes Go.ChangeAt Go.RowKit
set_option linter.unusedVariables false
set_option maxRecDepth 10000

section
variable {ops:Array Oper} {rest:List Oper} {o:Oper} {a:Act} {w:World} {Q:Exit→Act→World→Prop}

theorem vAdd (A B:ByteArray) (hz:A.size+B.size≤9223372036854775807) {x y:Operand} {T':TypeId} (h:VL ops Q rest (a.put o.dst (.string (A++B))) w) (ho:o.op=.binOp .add 9 x y T':=by rfl)
  (hg:Region.wanted o (yielded ops a.tmps)=true:=by kernel_rfl) (hx:a.eval x=.string A:=by kernel_rfl) (hy:a.eval y=.string B:=by kernel_rfl):VL ops Q (o :: rest) a w:=
 ⟨want_val hg _ (by
  have e:=run_string_add_sum (P:=Tryz.prog) w A B hz
  unfold execOp
  simp only [ho,hx,hy]
  simp [go_sem,e]) h.out⟩

end
end Go.Proofs.YtmdglnmdodcehaaGreatDoor
