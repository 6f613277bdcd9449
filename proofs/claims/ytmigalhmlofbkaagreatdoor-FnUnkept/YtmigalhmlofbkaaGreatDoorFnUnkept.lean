/-
  Proved: for every code the law FnUnkept returns true, where the table of steps and errors.errorType hold what the program's text lays (who asked and was answered without anything being kept is known by its answer, and then has a line on which it can send), its argument and the table read as before; no other condition.
-/
import Derived.Test.YtmigalhmlofbkaaGreatDoorCards
import Derived.Test.YtmigalhmlofbkaaGreatDoorTie
import Derived.Test.YtmigalhmlofbkaaGreatDoorK8
import Derived.LaidLaws
import Derived.LaidHandle
import Derived.Lib.LaidTab
import Derived.OpenVars
import Derived.ChangeOld
import Derived.Deep.DeepHandedRow
namespace Go.Proofs.YtmigalhmlofbkaaGreatDoor.fnUnkept
open Go.ChangeShapes Go.WideShapes Go.ChangeAt Go.RowKit
set_option linter.unusedVariables false
set_option maxRecDepth 10000
theorem own:ownKnob Tryz.prog.godebug=none:=by kernel_rfl
theorem laidOut:laidOutB Tryz.prog=true:=by kernel_rfl
def IsRow (k:IntKind) (w:World) (a:Option Addr) (len cap:Nat) (zs:List Int):Prop:=
 (a=none∧len=0∧cap=0∧zs=[])∨
 ∃ x,a=some x∧len≤cap∧cap≤maxLen∧zs.length=cap∧(∀ i,i<zs.length→w.cell? (x.add i)=some (.int k (zs.getD i 0)))∧∀ n∈zs,(Lit.int k n).wf=true
theorem et : Tryz.prog.globalNamed "errors.errorType" = some 1 := by kernel_rfl
theorem rt : (Tryz.prog.cutTypes.find? (·.1 == "internal/reflectlite.rtype")).map (·.2) = some 143 := by kernel_rfl
theorem oneRow:((List.range 232).filter fun t=>Tryz.prog.rowNamed t [101,114,114,111,114])=[70]:=by kernel_rfl
theorem tsize:Tryz.prog.types.size=232:=by kernel_rfl
theorem parts_of {W:World} (h:laidMetH Tryz.prog Rows.fnUnkeptRow.laid W):laidMet Tryz.prog (Rows.fnUnkeptRow.laid.filter fun x=>x.2.handleName?.isNone) W∧handlesMet Tryz.prog (Rows.fnUnkeptRow.laid.filter fun x=>x.2.handleName?.isSome) W:=h
theorem handle_of_laid {W:World} (h:laidMetH Tryz.prog Rows.fnUnkeptRow.laid W):Laid0 W:=by
 have h':=parts_of h
 obtain ⟨name,u,ty,e1,e2,e3,e4,e5⟩:=h'.2 _ (List.mem_singleton.2 rfl)
 have en:name=[101,114,114,111,114]:=(Option.some.inj e1).symm
 subst en
 obtain rfl:=Option.some.inj (rt.symm.trans e2)
 have hm:ty∈(List.range 232).filter fun t=>Tryz.prog.rowNamed t [101,114,114,111,114]:=List.mem_filter.2 ⟨List.mem_range.2 (by rw [← tsize];exact e3),e4⟩
 rw [oneRow] at hm
 obtain rfl:=List.mem_singleton.1 hm
 have hh:typeHandle Tryz.prog 70=.pointer (some ⟨2,70,none⟩):=by kernel_rfl
 rw [hh] at e5
 exact ⟨by simpa using World.var?_cell et e5 0⟩
theorem laidM_of {W:World} (h:laidMetH Tryz.prog Rows.fnUnkeptRow.laid W):LaidM W:=by
 have h':laidMet Tryz.prog (Rows.fnUnkeptRow.laid.filter fun x=>x.2.handleName?.isNone) W:=(parts_of h).1
 have hg : Tryz.prog.globalNamed "loop.example/g00107/impl.stepMss" = some 0 := by kernel_rfl
 have t : Lib.TabIs Tryz.prog W "loop.example/g00107/impl.stepMss" .i64 [64, 128, 256, 400, 536, 800, 1200, 1460] := Lib.tabIs_of_head hg (t := 107) (e := 3) (n := 8) (by kernel_rfl) Tryz.underlying107 Tryz.underlying3 (by kernel_rfl) (by kernel_rfl) h'
 refine ⟨fun i hi=>(World.var?_cell hg t i).trans ?_⟩
 match i,hi with
 | 0,_|1,_|2,_|3,_|4,_|5,_|6,_|7,_=>rfl
theorem contract (H:Type) (enc:TypeId×Value→H) (W:World) (base:Nat) (args:Array Value) (ds gs:List (DataW H)) (before:List MemPlace)
  (hval:∀ (j:Nat) t v,Tryz.f3.params[j]?=some t→args[j]?=some v→Value.okWide Tryz.prog W .any base t v)
  (hW:DataW.Whole enc Tryz.prog Tryz.f3.params.toList Rows.fnUnkeptSpec.vars false W args.toList ds gs before) (hL:laidMetH Tryz.prog Rows.fnUnkeptRow.laid W) :
  Calls Tryz.prog 3 args W fun e W'=>∃ v,e=.returned v∧Rows.fnUnkeptSpec.post enc Tryz.prog Tryz.f3 false true false false W args v W':=by
 have hW':=hW
 obtain ⟨p,q,hA0,hV,rfl,hfz,hnd⟩:=hW
 have hA:DataW.TrodAll enc Tryz.prog W 0 (fun _=>true) true Tryz.f3.params.toList args.toList ds p:=hA0
 rw [Tryz.params3] at hA hval
 obtain ⟨v0,vs0,d0,ds0,p0,q0,hargs,rfl,rfl,h0,r0⟩:=trodAll_cons hA
 obtain ⟨rfl,rfl,rfl⟩:=trodAll_nil r0
 obtain rfl:args=#[v0]:=by cases args;simp_all
 obtain ⟨gd,rfl⟩:∃ gd,gs=[gd]:=by
  obtain ⟨_,_,_,_,gd,_,e,_⟩:=trodVars_one hV
  exact ⟨gd,e⟩
 obtain ⟨a0,len0,cap0,rfl⟩:=okWide_slice Tryz.underlying22 (hval 0 22 v0 rfl rfl)
 have k0:=h0
 have lt0:∀ x∈p0,x.block<W.heap.size:=by obtain ⟨m,hm⟩:=k0;exact DataW.trod_lt m _ _ _ hm
 obtain ⟨z0,w0⟩:∃ zs,IsRow .u8 W a0 len0 cap0 zs:=by
  obtain ⟨fuel,hf⟩:=h0
  rcases open_ints Tryz.underlying22 Tryz.underlying5 (by kernel_rfl) hf with ⟨hcs,_⟩|⟨x,l,c,zs,hcs,_,hl,hm,hz,_,hcell,hwz⟩
  ·simp [Value.cells] at hcs
   obtain ⟨rfl,rfl,rfl⟩:=hcs
   exact ⟨[],.inl ⟨rfl,rfl,rfl,rfl⟩⟩
  ·simp [Value.cells] at hcs
   obtain ⟨rfl,rfl,rfl⟩:=hcs
   exact ⟨zs,.inr ⟨_,rfl,hl,hm,by simpa using hz,hcell,hwz⟩⟩
 clear hA0
 refine (walkUnkept a0 len0 cap0 z0 W (bytes_of_row w0) (handle_of_laid hL) (laidM_of hL)).mono fun e W' ⟨he,bel⟩=>?_
 subst he
 exact ⟨_,rfl,_,_,_,[],_,_,hW',trodAll_mk1 (shut_bool Tryz.underlying4 _),(trodAll_cons_mk (Below.trod laidOut (by kernel_rfl) (of_decide_eq_true (by kernel_rfl)) k0 bel lt0) trodAll_mk0),Below.trodVars laidOut bel (by kernel_rfl) hV,bel.frame _,fun h=>by cases h⟩
noncomputable def laidWorld (os:Os):World:=
 let w0:=World.holding Tryz.prog os ⟨#[],#[],[]⟩
 let w1:World:={w0 with heap:=w0.heap.modify 0 fun
   | .cells _ t frozen=>.cells #[.int .i64 64,.int .i64 128,.int .i64 256,.int .i64 400,.int .i64 536,.int .i64 800,.int .i64 1200,.int .i64 1460] t frozen
   | o=>o}
 {w1 with heap:=w1.heap.modify 1 fun
   | .cells _ t frozen=>.cells #[.iface 143 (.agg #[.pointer (some ⟨2,70,none⟩)])] t frozen
   | o=>o}
theorem laid_met (os:Os):laidMetH Tryz.prog Rows.fnUnkeptRow.laid ((laidWorld os).forCall (fun _ _=>0) ⟨#[],#[.slice none 0 0],[]⟩).memory:=
 laidMetH_of_parts (laidMet_of_run' 8 (by kernel_rfl) (by kernel_rfl)) (by kernel_rfl)
theorem reads (os:Os) {H:Type} (enc:TypeId×Value→H):∃ places,DataW.whole enc Tryz.prog ((laidWorld os).forCall (fun _ _=>0) ⟨#[],#[.slice none 0 0],[]⟩).memory Tryz.f3.params.toList Rows.fnUnkeptSpec.vars false (#[(.slice none 0 0:Value)]:Array Value).toList 8=some ([.nil],[Rows.laid_loop_example_g00107_impl_stepMss],places):=
 ⟨MemPlace.row ⟨0,0,none⟩ 8,by kernel_rfl⟩
set_option maxRecDepth 100000 in
theorem lifted (os:Os) (started:os.Started) (H:Type) (enc:TypeId×Value→H) (F:Stop.Interp) :
  ReturnsInHanded {} Tryz.checked os 3 .any ((OpenSpec.ofChange Rows.fnUnkeptSpec).preRow enc Tryz.prog Tryz.f3 Rows.fnUnkeptRow.domain false Rows.fnUnkeptRow.laid) (((OpenSpec.ofChange Rows.fnUnkeptSpec).at F).post enc Tryz.prog Tryz.f3 false true false false):=by
 obtain ⟨places,hx⟩:=reads os enc
 refine returnsInHanded_of_row (C:=Tryz.checked) (s:=OpenSpec.ofChange Rows.fnUnkeptSpec) own started (by kernel_rfl) Tryz.func3
  (witness_row_at (enc:=enc) (C:=Tryz.checked) false (laidWorld os) #[.slice none 0 0] rfl (by kernel_rfl) (by kernel_rfl) (by kernel_rfl)
   (OpenSpec.preRow_of_cond 8 hx (by kernel_rfl) (fun k hk=>by cases hk) (by kernel_rfl) (laid_met os))) ?_
 intro W base args ds gs before hval hW _ _ _ hL _ _
 exact contract H enc W base args ds gs before hval hW hL
theorem said:Rows.FnUnkeptSaid:=
 OpenClaim.holds_of_cond 3 Tryz.f3 rfl rfl rfl rfl rfl rfl rfl ⟨rfl,rfl,rfl,rfl,rfl⟩ rfl rfl rfl rfl rfl (by kernel_rfl) Tryz.func3 (by kernel_rfl)
  (of_decide_eq_true (by kernel_rfl)) (by unfold Func.isWrapper;first|(rw [if_pos (by decide +kernel)];kernel_rfl)|(rw [if_neg (by decide +kernel)];exact ⟨rfl,rfl⟩))
  (fun os started H enc _ F=>by rw [OpenClaim.pre_eq_preRow];exact lifted os started H enc F)
theorem plain (f : FuncId) (fn : Func) (hf : Tryz.pinned.checked.prog.funcNamed "loop.example/g00107/laws.FnUnkept" = some f) (hfn : Tryz.pinned.checked.prog.funcs[f]? = some fn) :
  true=Tryz.pinned.checked.prog.looks []∧∀ (j:Nat) t,fn.params[j]?=some t→Tryz.pinned.checked.prog.wantsStandIn t=false:=by
 obtain rfl : f = 3 := Option.some.inj ((show Tryz.prog.funcNamed "loop.example/g00107/laws.FnUnkept" = some 3 by kernel_rfl).symm.trans hf) |>.symm
 obtain rfl:fn=Tryz.f3:=(Option.some.inj (Tryz.func3.symm.trans hfn)).symm
 refine ⟨by kernel_rfl,fun j t ht=>?_⟩
 rw [Tryz.params3] at ht
 obtain rfl:t=22:=by simpa using Array.mem_of_getElem? ht
 exact (show Tryz.prog.wantsStandIn 22=false by kernel_rfl)
theorem card:Rows.FnUnkeptCardSaid:=
 Claim7.holds_tied_plain_at .later [] _ _ _ _ said (fun _ h=>by cases h) (by kernel_rfl) (fun _ h=>by cases h) fnUnkept_row_tie rfl ⟨rfl,rfl⟩ (by kernel_rfl) rfl plain (by kernel_rfl)
end Go.Proofs.YtmigalhmlofbkaaGreatDoor.fnUnkept
namespace Go.Proofs.YtmigalhmlofbkaaGreatDoor
theorem fnUnkept_holds:Rows.FnUnkeptCardSaid:=fnUnkept.card
#print axioms fnUnkept_holds
end Go.Proofs.YtmigalhmlofbkaaGreatDoor
