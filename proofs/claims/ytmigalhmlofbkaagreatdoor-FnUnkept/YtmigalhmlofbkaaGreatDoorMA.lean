/- A part of the proof. -/
import Derived.Test.YtmigalhmlofbkaaGreatDoorProg
import Derived.LaidEql
import Derived.Stop.Asserts
import Derived.RowKitTokens
import Derived.Test.YtmigalhmlofbkaaGreatDoorM6
import Derived.Deep.DeepCutAuto
set_option linter.unusedVariables false
set_option maxRecDepth 20000
set_option maxHeartbeats 8000000
namespace Go.Proofs.YtmigalhmlofbkaaGreatDoor
open Go.RowKit Go.Extern.Stop Go.Stop Go.Extern
theorem as_nil (t:Value) (w:World) :
  Calls Tryz.prog 30 #[.nilIface,t] w fun e w'=>e=.returned (.bool false)∧w'=w:=by
 go_enter Tryz.func30,Tryz.ntmps30
 go_wp2
 go_ret
 exact ⟨rfl,rfl⟩
abbrev mfCells (s:ByteArray) (a b c:Bool):Array Value:=#[.string s,.bool a,.bool b,.bool c]
theorem as_vP (t:Addr) (w:World):(ReflectliteValue.unpack (.iface 81 (.pointer (some t)))).run Tryz.prog w
  = .ok (.agg #[.pointer (some ⟨2,81,none⟩),.pointer (some ⟨w.heap.size,0,none⟩),.int .u64 150]) (w.alloc (.cells #[.pointer (some t)] 81)):=by kernel_rfl
theorem as_tP (a : Addr) (w : World) : (ReflectliteValue.methodAny (ReflectliteValue.valueError "reflectlite.Value.Type" 0) (fun t _ _ _ => ReflectliteType.toType t) #[.agg #[.pointer (some ⟨2, 81, none⟩), .pointer (some a), .int .u64 150]]).run Tryz.prog w
  = .ok (.iface 143 (.agg #[.pointer (some ⟨2,81,none⟩)])) w:=by kernel_rfl
theorem as_kP (w:World):((ReflectliteType.abiMethod fun t=>(fun a:Nat=>Value.int IntKind.u8 (a:Int)) <$> Rtype.kind t) #[.pointer (some ⟨2,81,none⟩)]).run Tryz.prog w=.ok (.int .u8 22) w:=by kernel_rfl
theorem as_kM (w:World):((ReflectliteType.abiMethod fun t=>(fun a:Nat=>Value.int IntKind.u8 (a:Int)) <$> Rtype.kind t) #[.pointer (some ⟨2,75,none⟩)]).run Tryz.prog w=.ok (.int .u8 25) w:=by kernel_rfl
theorem as_rlm (z:Sem Value) (f:TypeId→Addr→Nat→Nat→Sem Value) (v:Value) :
  ReflectliteValue.method z f #[v]=(do match ← ReflectliteValue.parts v with|none=>z|some (t,a,fl)=>f t a fl (fl % 32)):=rfl
theorem as_pP (a:Addr) (w:World):(ReflectliteValue.parts (.agg #[.pointer (some ⟨2,81,none⟩),.pointer (some a),.int .u64 150])).run Tryz.prog w=.ok (some (81,a,150)) w:=by kernel_rfl
theorem as_nP (a p:Addr) (W:World) (ha:W.cell? a=some (.pointer (some p))) :
  (ReflectliteValue.method (ReflectliteValue.valueError "reflectlite.Value.IsNil" 0) ReflectliteValue.isNil #[.agg #[.pointer (some ⟨2, 81, none⟩), .pointer (some a), .int .u64 150]]).run Tryz.prog W = .ok (.bool false) W := by
 rw [as_rlm]
 simp only [Sem.run_bind,as_pP,Result.andThen]
 simp [ReflectliteValue.isNil,loadVar,isAgg,underlying,Tryz.underlying81,ha,Result.andThen]
theorem as_eP (w:World):(ReflectliteType.method ReflectliteType.elem #[.agg #[.pointer (some ⟨2,81,none⟩)]]).run Tryz.prog w=.ok (.iface 143 (.agg #[.pointer (some ⟨2,75,none⟩)])) w:=by kernel_rfl
theorem as_iM (w : World) : (ReflectliteType.relation "Implements" ReflectliteType.implements_ #[.agg #[.pointer (some ⟨2, 75, none⟩)], .iface 143 (.agg #[.pointer (some ⟨2, 70, none⟩)])]).run Tryz.prog w = .ok (.bool true) w := by kernel_rfl
theorem as_tM (v:Value) (w:World):(ReflectliteType.typeOf #[.iface 75 v]).run Tryz.prog w=.ok (.iface 143 (.agg #[.pointer (some ⟨2,75,none⟩)])) w:=by kernel_rfl
theorem as_aM (w : World) : (ReflectliteType.relation "AssignableTo" ReflectliteType.assignableTo #[.agg #[.pointer (some ⟨2, 75, none⟩)], .iface 143 (.agg #[.pointer (some ⟨2, 75, none⟩)])]).run Tryz.prog w = .ok (.bool true) w := by kernel_rfl
theorem as_vM (s:ByteArray) (a b c:Bool) (w:World):(ReflectliteValue.unpack (.iface 75 (.agg (mfCells s a b c)))).run Tryz.prog w
  = .ok (.agg #[.pointer (some ⟨2,75,none⟩),.pointer (some ⟨w.heap.size,0,none⟩),.int .u64 153]) (w.alloc (.cells (mfCells s a b c) 75)):=by kernel_rfl
theorem as_xP (w:World):(Rtype.elem? 81).run Tryz.prog w=.ok (some 75) w:=by kernel_rfl
theorem as_mM (p:Addr) (w:World):(ReflectliteValue.mk 75 p ReflectliteValue.flagAddr).run Tryz.prog w=.ok (.agg #[.pointer (some ⟨2,75,none⟩),.pointer (some p),.int .u64 409]) w:=by kernel_rfl
theorem as_oP (a p:Addr) (W:World) (ha:W.cell? a=some (.pointer (some p))) :
  (ReflectliteValue.method (ReflectliteValue.valueError "reflectlite.Value.Elem" 0) ReflectliteValue.elem #[.agg #[.pointer (some ⟨2, 81, none⟩), .pointer (some a), .int .u64 150]]).run Tryz.prog W
   = .ok (.agg #[.pointer (some ⟨2,75,none⟩),.pointer (some p),.int .u64 409]) W:=by
 rw [as_rlm]
 simp only [Sem.run_bind,as_pP,Result.andThen]
 simp [ReflectliteValue.elem,loadVar,isAgg,underlying,Tryz.underlying81,ha,Result.andThen,as_xP,as_mM]
theorem as_pA (a:Addr) (w:World):(ReflectliteValue.parts (.agg #[.pointer (some ⟨2,75,none⟩),.pointer (some a),.int .u64 409])).run Tryz.prog w=.ok (some (75,a,409)) w:=by kernel_rfl
theorem as_pM (a:Addr) (w:World):(ReflectliteValue.parts (.agg #[.pointer (some ⟨2,75,none⟩),.pointer (some a),.int .u64 153])).run Tryz.prog w=.ok (some (75,a,153)) w:=by kernel_rfl
theorem as_dM (w:World):(Rtype.directlyAssignable 75 75).run Tryz.prog w=.ok true w:=by kernel_rfl
theorem as_rls (v x:Value):ReflectliteValue.set #[v,x]=(do
  let (some (dst,a,fl),some (src,b,_)):=(← ReflectliteValue.parts v,← ReflectliteValue.parts x)
   | unsupported (.noEntry "extern/(internal/reflectlite.Value).Set.zeroValue")
  if fl / ReflectliteValue.flagAddr % 2 == 0 then unsupported (.noEntry "extern/(internal/reflectlite.Value).Set.unaddressable")
  let val ← loadVar src b
  if ← Rtype.directlyAssignable dst src then storeVar dst a val
  else if ← Rtype.implements dst src then
   if (← Rtype.kind src) == 20 then
    match val with
    | .nilIface => unsupported (.noEntry "extern/reflectlite: a nil value of one interface type handed on as a value of another")
    | _=>storeVar dst a val
   else storeVar dst a (.iface src val)
  else panicString ("reflectlite.Set: value of type " ++ (← Rtype.spelt src) ++ " is not assignable to type " ++ (← Rtype.spelt dst))
  pure (.tuple #[])):=rfl
theorem mf_big:IsBig 75 4:=⟨⟨_,Tryz.underlying75,rfl⟩,by kernel_rfl⟩
theorem mf_one (s:ByteArray) (a b c:Bool):(mfCells s a b c).all (·.oneCell')=true:=by
 rw [Array.all_eq_true_iff_forall_mem]
 intro v hv
 simp only [List.mem_toArray,List.mem_cons,List.not_mem_nil,or_false] at hv
 rcases hv with h|h|h|h<;>rw [h]<;>rfl
theorem as_sM (tb vb:Nat) (s:ByteArray) (a b c:Bool) (old:Array Value) (ho:old.size=4) (W:World) (V:Blk vb W (mfCells s a b c)) (O:Blk tb W old) :
  (ReflectliteValue.set #[.agg #[.pointer (some ⟨2,75,none⟩),.pointer (some ⟨tb,0,none⟩),.int .u64 409],.agg #[.pointer (some ⟨2,75,none⟩),.pointer (some ⟨vb,0,none⟩),.int .u64 153]]).run Tryz.prog W
   = .ok (.tuple #[]) (W.setCells tb 0 (mfCells s a b c).toList):=by
 have hl:=var_big mf_big rfl V
 have hs:=run_storeVar_mid (P:=Tryz.prog) W tb 0 75 (mfCells s a b c) (by have:=O.there;rwa [ho] at this) (by rw [mf_big.size];rfl) (mf_one s a b c)
 rw [as_rls]
 simp only [Sem.run_bind,as_pA,as_pM,Result.andThen]
 simp [ReflectliteValue.flagAddr,hl,Result.andThen,as_dM,hs]
theorem as_mK (h : Value) (w : World) : (Go.method 332 143 (.agg #[h]) "Kind").run Tryz.prog w = .ok (194, h) w := by kernel_rfl
theorem as_mE (h : Value) (w : World) : (Go.method 332 143 (.agg #[h]) "Elem").run Tryz.prog w = .ok (205, .agg #[h]) w := by kernel_rfl
theorem as_mI (h : Value) (w : World) : (Go.method 332 143 (.agg #[h]) "Implements").run Tryz.prog w = .ok (206, .agg #[h]) w := by kernel_rfl
theorem as_mA (h : Value) (w : World) : (Go.method 332 143 (.agg #[h]) "AssignableTo").run Tryz.prog w = .ok (203, .agg #[h]) w := by kernel_rfl
theorem as_hit (tb:Nat) (s:ByteArray) (a b c:Bool) (old:Array Value) (ho:old.size=4) (w:World) (hg:w.cell? ⟨1,0,none⟩=some (.iface 143 (.agg #[.pointer (some ⟨2,70,none⟩)]))) (O:Blk tb w old) :
  Calls Tryz.prog 30 #[.iface 75 (.agg (mfCells s a b c)),.iface 81 (.pointer (some ⟨tb,0,none⟩))] w fun ev w'=>ev=.returned (.bool true)∧∃ x,Since w x∧Touch tb x w'∧Blk tb w' (mfCells s a b c):=by
 have h6:=@run_callFunc_extern Tryz.prog 62 _ (fun args=>ReflectliteValue.unpack (args.getD 0 (.tuple #[]))) Tryz.func62 (by kernel_rfl) (by kernel_rfl) (by kernel_rfl) (by kernel_rfl)
 have h7 := @run_callFunc_extern Tryz.prog 63 _ (ReflectliteValue.methodAny (ReflectliteValue.valueError "reflectlite.Value.Type" 0) (fun t _ _ _ => ReflectliteType.toType t)) Tryz.func63 (by kernel_rfl) (by kernel_rfl) (by kernel_rfl) (by kernel_rfl)
 have h8 := @run_callFunc_extern Tryz.prog 64 _ (ReflectliteValue.method (ReflectliteValue.valueError "reflectlite.Value.IsNil" 0) ReflectliteValue.isNil) Tryz.func64 (by kernel_rfl) (by kernel_rfl) (by kernel_rfl) (by kernel_rfl)
 have h27:=@run_callFunc_extern Tryz.prog 194 _ (ReflectliteType.abiMethod fun t=>do pure (.int .u8 (← Rtype.kind t))) Tryz.func194 (by kernel_rfl) (by kernel_rfl) (by kernel_rfl) (by kernel_rfl)
 have h37:=@run_callFunc_extern Tryz.prog 205 _ (ReflectliteType.method ReflectliteType.elem) Tryz.func205 (by kernel_rfl) (by kernel_rfl) (by kernel_rfl) (by kernel_rfl)
 have h38 := @run_callFunc_extern Tryz.prog 206 _ (ReflectliteType.relation "Implements" ReflectliteType.implements_) Tryz.func206 (by kernel_rfl) (by kernel_rfl) (by kernel_rfl) (by kernel_rfl)
 have h10:=@run_callFunc_extern Tryz.prog 99 _ ReflectliteType.typeOf Tryz.func99 (by kernel_rfl) (by kernel_rfl) (by kernel_rfl) (by kernel_rfl)
 have h35 := @run_callFunc_extern Tryz.prog 203 _ (ReflectliteType.relation "AssignableTo" ReflectliteType.assignableTo) Tryz.func203 (by kernel_rfl) (by kernel_rfl) (by kernel_rfl) (by kernel_rfl)
 have h11 := @run_callFunc_extern Tryz.prog 100 _ (ReflectliteValue.method (ReflectliteValue.valueError "reflectlite.Value.Elem" 0) ReflectliteValue.elem) Tryz.func100 (by kernel_rfl) (by kernel_rfl) (by kernel_rfl) (by kernel_rfl)
 have h12:=@run_callFunc_extern Tryz.prog 101 _ ReflectliteValue.set Tryz.func101 (by kernel_rfl) (by kernel_rfl) (by kernel_rfl) (by kernel_rfl)
 have tO:=as_tM
 have mA:=as_mA
 have a25:=as_aM
 have v25:=as_vM s a b c
 have f6:=as_vP
 have f7:=as_tP
 have mK:=as_mK
 have mE:=as_mE
 have mI:=as_mI
 have k27:=as_kP
 have k25:=as_kM
 have e27:=as_eP
 have i25:=as_iM
 have n8:=as_nP ⟨w.heap.size,0,none⟩ ⟨tb,0,none⟩ ((w.alloc (.cells #[.pointer (some ⟨tb,0,none⟩)] 81)).alloc (.cells #[.pointer (some ⟨2,81,none⟩),.pointer (some ⟨w.heap.size,0,none⟩),.int .u64 150] 113)) (by simp)
 have hlt:1<w.heap.size:=World.block_lt_of_cell? w _ hg
 have hg2:((w.alloc (.cells #[.pointer (some ⟨tb,0,none⟩)] 81)).alloc (.cells #[.pointer (some ⟨2,81,none⟩),.pointer (some ⟨w.heap.size,0,none⟩),.int .u64 150] 113)).cell? ⟨1,0,none⟩=some (.iface 143 (.agg #[.pointer (some ⟨2,70,none⟩)])):=by
  rw [World.cell?_alloc_lt _ _ ⟨1,0,none⟩ (by rw [World.size_alloc];exact Nat.lt_succ_of_lt hlt),World.cell?_alloc_lt _ _ ⟨1,0,none⟩ hlt];exact hg
 have el:=as_oP ⟨w.heap.size,0,none⟩ ⟨tb,0,none⟩ (((w.alloc (.cells #[.pointer (some ⟨tb,0,none⟩)] 81)).alloc (.cells #[.pointer (some ⟨2,81,none⟩),.pointer (some ⟨w.heap.size,0,none⟩),.int .u64 150] 113)).alloc (.cells #[.pointer (some ⟨2,81,none⟩),.pointer (some ⟨w.heap.size,0,none⟩),.int .u64 150] 113)) (by rw [World.cell?_alloc_lt _ _ ⟨w.heap.size,0,none⟩ (by simp;omega),World.cell?_alloc_lt _ _ ⟨w.heap.size,0,none⟩ (by simp)];simp)
 have G:=((((Since.refl w).alloc (.cells #[.pointer (some ⟨tb,0,none⟩)] 81)).alloc (.cells #[.pointer (some ⟨2,81,none⟩),.pointer (some ⟨w.heap.size,0,none⟩),.int .u64 150] 113)).alloc (.cells #[.pointer (some ⟨2,81,none⟩),.pointer (some ⟨w.heap.size,0,none⟩),.int .u64 150] 113)).alloc (.cells (mfCells s a b c) 75)
 have V:=Blk.new (((w.alloc (.cells #[.pointer (some ⟨tb,0,none⟩)] 81)).alloc (.cells #[.pointer (some ⟨2,81,none⟩),.pointer (some ⟨w.heap.size,0,none⟩),.int .u64 150] 113)).alloc (.cells #[.pointer (some ⟨2,81,none⟩),.pointer (some ⟨w.heap.size,0,none⟩),.int .u64 150] 113)) (mfCells s a b c) 75
 simp only [World.size_alloc] at V
 replace O:=O.since G
 have st:=as_sM tb (w.heap.size+1+1+1) s a b c old ho _ V O
 go_enter Tryz.func30,Tryz.ntmps30
 go_wp2
 refine wp_loop_rounds 1 ?_
 rw [rounds_succ]
 go_wp2
 go_ret
 exact ⟨rfl,_,G,Touch.puts _ 0 (Touch.refl tb _),blk_puts O (by rw [ho];rfl)⟩
end Go.Proofs.YtmigalhmlofbkaaGreatDoor
namespace Go.Proofs.YtmigalhmlofbkaaGreatDoor
open Go.ChangeShapes Go.WideShapes Go.ChangeAt Go.RowKit
theorem touch_of {b:Nat} {w x:World} (h:Since w x):Touch b w x:=Touch.of_below h fun k hk _=>hk
def FitV (ok:Bool) (v:Value):Prop:=(ok=true→v=.nilIface)∧(ok=false→∃ t,v=.iface 75 (.agg (mfCells t false false false)))
theorem fit_no (t:ByteArray):FitV false (.iface 75 (.agg (mfCells t false false false))):=⟨fun h=>(by cases h),fun _=>⟨t,rfl⟩⟩
theorem fit_yes:FitV true .nilIface:=⟨fun _=>rfl,fun h=>(by cases h)⟩
def formOk (s:Sg):Bool:=decide (0≤s.fl∧s.fl≤31) && (decide (0≤s.wn∧s.wn≤65535) && decide ((s.d.size:Int)≤536))
theorem formed (s:Sg) (hd:s.d.size≤1048576) (w:World) :
  Calls Tryz.prog 31 #[.agg (sgCells s)] w fun e w'=>(∃ v,e=.returned v∧FitV (formOk s) v)∧Since w w':=by
 have A:=Blk.new w (sgCells s) 41
 have G:=(Since.refl w).alloc (.cells (sgCells s) 41)
 obtain ⟨k,hk⟩:∃ k,k=formOk s:=⟨_,rfl⟩
 rw [← hk]
 unfold formOk at hk
 go_enter Tryz.func31,Tryz.ntmps31
 go_upto_region 1 with (fail)
 generalize w.alloc (.cells (sgCells s) 41)=w1 at A G ⊢
 have f4:w1.cell? ⟨w.heap.size,4,none⟩=some (.int .i64 s.fl):=A.cell 4
 have f5:w1.cell? ⟨w.heap.size,5,none⟩=some (.int .i64 s.wn):=A.cell 5
 have f7:w1.cell? ⟨w.heap.size,7,none⟩=some (.string s.d):=A.cell 7
 go_wp2_with (fail)
 refine (isWithin s.fl 31 _).mono ?_
 generalize decide (0≤s.fl∧s.fl≤31)=k0 at hk ⊢
 rintro _ _ ⟨rfl,rfl⟩
 cases k0
 ·go_wp2_with (fail)
  go_ret
  exact ⟨⟨_,rfl,by rw [hk];exact fit_no _⟩,G⟩
 go_wp2_with (fail)
 refine (isHalf s.wn _).mono ?_
 generalize decide (0≤s.wn∧s.wn≤65535)=k1 at hk ⊢
 rintro _ _ ⟨rfl,rfl⟩
 cases k1
 ·go_wp2_with (fail)
  go_ret
  exact ⟨⟨_,rfl,by rw [hk];exact fit_no _⟩,G⟩
 simp only [Bool.true_and] at hk
 by_cases h3:(s.d.size:Int)≤536
 ·have h3':¬ (536:Int)<(s.d.size:Int):=by omega
  go_wp2_with (fail)
  go_ret
  exact ⟨⟨_,rfl,by rw [hk,decide_eq_true (by omega)];exact fit_yes⟩,G⟩
 ·have h3':(536:Int)<(s.d.size:Int):=by omega
  go_wp2_with (fail)
  go_ret
  exact ⟨⟨_,rfl,by rw [hk,decide_eq_false (by omega)];exact fit_no _⟩,G⟩
def askOk (s:Sg):Bool:=decide (s.fl=2∧s.d=ByteArray.empty) && formOk s
theorem asking (s:Sg) (hd:s.d.size≤1048576) (w:World) :
  Calls Tryz.prog 26 #[.agg (sgCells s)] w fun e w'=>(∃ v,e=.returned v∧FitV (askOk s) v)∧Since w w':=by
 have A:=Blk.new w (sgCells s) 41
 have G:=(Since.refl w).alloc (.cells (sgCells s) 41)
 have hF:=fun wx=>formed s hd wx
 obtain ⟨k,hk⟩:∃ k,Hid (k=askOk s):=⟨_,rfl⟩
 rw [← hk.out]
 go_enter Tryz.func26,Tryz.ntmps26
 go_upto_region 1 with (fail)
 generalize w.alloc (.cells (sgCells s) 41)=w1 at A G ⊢
 have f4:w1.cell? ⟨w.heap.size,4,none⟩=some (.int .i64 s.fl):=A.cell 4
 have f7:w1.cell? ⟨w.heap.size,7,none⟩=some (.string s.d):=A.cell 7
 by_cases h1:s.fl=2
 ·have h1':(s.fl != 2)=false:=by simp [h1]
  by_cases h2:s.d=ByteArray.empty
  ·replace hk:Hid (k=formOk s):=by
    have:=hk.out
    unfold askOk at this
    rwa [show decide (s.fl=2∧s.d=ByteArray.empty)=true by simp [h1,h2],Bool.true_and] at this
   have f7':w1.cell? ⟨w.heap.size,7,none⟩=some (.string ⟨#[]⟩):=by rw [f7,h2];rfl
   clear f7
   rw [h1] at f4
   go_upto_region 3 with (fail)
   refine wp_region_lit ?_
   refine load_big seg_big rfl A rfl _ rfl rfl ?_
   refine call_step rfl 31 #[.agg (sgCells s)] (by kernel_rfl) (hF _) ?_
   rintro _ w2 ⟨⟨v,rfl,hv⟩,g2⟩
   refine ⟨_,rfl,?_⟩
   go_wp2_with (fail)
   go_ret
   exact ⟨⟨_,rfl,by rw [hk.out];exact hv⟩,G.trans g2⟩
  ·replace hk:Hid (k=false):=by
    have:=hk.out
    unfold askOk at this
    rwa [show decide (s.fl=2∧s.d=ByteArray.empty)=false by simp [h2],Bool.false_and] at this
   have h2':=text_empty h2
   clear h2 hF
   rw [h1] at f4
   go_wp2_with (fail)
   go_ret
   exact ⟨⟨_,rfl,by rw [hk.out];exact fit_no _⟩,G⟩
 ·have h1':(s.fl != 2)=true:=by simpa using h1
  replace hk:Hid (k=false):=by
   have:=hk.out
   unfold askOk at this
   rwa [show decide (s.fl=2∧s.d=ByteArray.empty)=false by simp [h1],Bool.false_and] at this
  clear hF h1
  go_wp2_with (fail)
  go_ret
  exact ⟨⟨_,rfl,by rw [hk.out];exact fit_no _⟩,G⟩
def toldC (c:Cn) (s:Sg):Cn:={c with wnd:=s.wn,wsq:=s.sq,wak:=s.ak}
theorem implTell (b:Nat) (c:Cn) (s:Sg) (w:World) (B:Blk b w (cnCells c)) :
  Calls Tryz.prog 110 #[.pointer (some ⟨b,0,none⟩),.agg (sgCells s)] w fun e w'=>e=.returned (.tuple #[])∧Touch b w w'∧Blk b w' (cnCells (toldC c s)):=by
 have hb:=B.lt
 have A:=Blk.new w (sgCells s) 41
 have G:=(Since.refl w).alloc (.cells (sgCells s) 41)
 replace B:=B.since G
 go_enter Tryz.func110,Tryz.ntmps110
 go_upto_region 1 with (fail)
 generalize w.alloc (.cells (sgCells s) 41)=w1 at A B G ⊢
 have f2:w1.cell? ⟨w.heap.size,2,none⟩=some (.int .u32 s.sq):=A.cell 2
 have f3:w1.cell? ⟨w.heap.size,3,none⟩=some (.int .u32 s.ak):=A.cell 3
 have f5:w1.cell? ⟨w.heap.size,5,none⟩=some (.int .i64 s.wn):=A.cell 5
 have c5:w1.cell? ⟨b,5,none⟩=some (.int .i64 c.wnd):=B.cell 5
 have c6:w1.cell? ⟨b,6,none⟩=some (.int .u32 c.wsq):=B.cell 6
 have c7:w1.cell? ⟨b,7,none⟩=some (.int .u32 c.wak):=B.cell 7
 have z5:=B.fz 5
 have z6:=B.fz 6
 have z7:=B.fz 7
 obtain ⟨y1,e1,t1,B1⟩:=put_cn (c':={c with wnd:=s.wn}) B 5 (.int .i64 s.wn) (by decide) rfl
 obtain ⟨y2,e2,t2,B2⟩:=put_cn (c':={c with wnd:=s.wn,wsq:=s.sq}) B1 6 (.int .u32 s.sq) (by decide) rfl
 obtain ⟨y3,e3,t3,B3⟩:=put_cn (c':=toldC c s) B2 7 (.int .u32 s.ak) (by decide) rfl
 replace e1:Hid _:=e1
 replace e2:Hid _:=e2
 replace e3:Hid _:=e3
 go_region
 rw [e1.out,e2.out,e3.out]
 refine bodyPost_end (v:=.tuple #[]) (results_none rfl _ _ _) rfl ⟨rfl,?_,B3.since ((Since.refl y3).drew)⟩
 exact (((touch_of G).trans t1).trans (t2.trans t3)).drew
def metC (c:Cn) (s:Sg):Cn:={c with iN:=(s.sq+1) % 4294967296,wnd:=s.wn,wsq:=s.sq,wak:=s.ak}
theorem implMeet (b:Nat) (c:Cn) (s:Sg) (w:World) (B:Blk b w (cnCells c)) :
  Calls Tryz.prog 86 #[.pointer (some ⟨b,0,none⟩),.agg (sgCells s)] w fun e w'=>e=.returned (.tuple #[])∧Touch b w w'∧Blk b w' (cnCells (metC c s)):=by
 have hb:=B.lt
 have A:=Blk.new w (sgCells s) 41
 have G:=(Since.refl w).alloc (.cells (sgCells s) 41)
 replace B:=B.since G
 go_enter Tryz.func86,Tryz.ntmps86
 go_upto_region 1 with (fail)
 generalize w.alloc (.cells (sgCells s) 41)=w1 at A B G ⊢
 have f2:w1.cell? ⟨w.heap.size,2,none⟩=some (.int .u32 s.sq):=A.cell 2
 have c11:w1.cell? ⟨b,11,none⟩=some (.int .u32 c.iN):=B.cell 11
 have z11:=B.fz 11
 obtain ⟨y1,e1,t1,B1⟩:=put_cn (c':={c with iN:=(s.sq+1) % 4294967296}) B 11 (.int .u32 ((s.sq+1) % 4294967296)) (by decide) rfl
 replace A:=A.touch t1 (by omega)
 go_upto_region 2 with (fail)
 refine wp_region_lit ?_
 refine move_step rfl _ rfl ?_
 refine load_big seg_big rfl A rfl _ rfl rfl ?_
 refine call_step rfl 110 #[.pointer (some ⟨b,0,none⟩),.agg (sgCells s)] (by kernel_rfl) (implTell b _ s _ B1) ?_
 rintro _ w3 ⟨rfl,tx,Bx⟩
 refine ⟨_,rfl,?_⟩
 go_wp2_with (fail)
 exact bodyPost_end (v:=.tuple #[]) (results_none rfl _ _ _) rfl ⟨rfl,((touch_of G).trans t1).trans tx,Bx⟩
theorem as_fit (ok:Bool) (v:Value) (hv:FitV ok v) (tb:Nat) (w:World) (hg:w.cell? ⟨1,0,none⟩=some (.iface 143 (.agg #[.pointer (some ⟨2,70,none⟩)]))) (O:Blk tb w (mfCells ByteArray.empty false false false)) :
  Calls Tryz.prog 30 #[v,.iface 81 (.pointer (some ⟨tb,0,none⟩))] w fun e w'=>e=.returned (.bool (!ok))∧Touch tb w w'∧∃ t,Blk tb w' (mfCells t false false false):=by
 cases ok
 ·obtain ⟨t,rfl⟩:=hv.2 rfl
  refine (as_hit tb t false false false _ rfl w hg O).mono ?_
  rintro _ w' ⟨rfl,x,g,t',B⟩
  exact ⟨rfl,(touch_of g).trans t',_,B⟩
 ·rw [hv.1 rfl]
  refine (as_nil _ w).mono ?_
  rintro _ w' ⟨rfl,rfl⟩
  exact ⟨rfl,Touch.refl _ _,_,O⟩
end Go.Proofs.YtmigalhmlofbkaaGreatDoor
