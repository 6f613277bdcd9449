/- A part of the proof. -/
import Derived.Test.YtmigalhmlofbkaaGreatDoorME
import Derived.Test.YtmigalhmlofbkaaGreatDoorM33
set_option linter.unusedVariables false
set_option maxRecDepth 20000
set_option maxHeartbeats 16000000
namespace Go.Proofs.YtmigalhmlofbkaaGreatDoor
open Go.ChangeShapes Go.WideShapes Go.ChangeAt Go.RowKit Go.Deep
def metX (c:Cn) (s:Sg) (now:Int):Cn:=if hasF s.fl 16 then (if c.tmg then timedC (opnC c s) now else opnC c s) else synC c s
def metS (c:Cn) (s:Sg):List Sg:=if hasF s.fl 16 then [] else [synI (synC c s)]
def metI (g:Nat) (d:Cn) (s:Sg) (now:Int) (gs:Nat) (sy:Sg) (N:World) (f:Nat→Bool) (vals:Nat→Value) (x:World):Prop:=
 ChainE (α:=Nat×Nat) g N 10 13 [4,7] (arrCells {d with iN:=(s.sq+1) % 4294967296,wnd:=s.wn,wsq:=s.sq,wak:=s.ak,st:=2} s now (.slice (some ⟨gs,0,none⟩) 0 0)) (fun a=>arrCells {d with iN:=(s.sq+1) % 4294967296,wnd:=s.wn,wsq:=s.sq,wak:=s.ak,st:=2} s now (.slice (some ⟨a.1,0,none⟩) 1 a.2)) (fun a x=>Held shG x N.heap.size a.1 1 a.2 [sy]) (fun i a v=>match i with
  | 0=>v=.pointer (some ⟨g,0,none⟩)
  | 1=>v=.pointer (some ⟨g,0,none⟩)
  | 2=>v=.pointer (some ⟨g,0,none⟩)
  | 3=>v=.pointer (some ⟨g,46,none⟩)
  | 4=>v=.slice (some ⟨gs,0,none⟩) 0 0
  | 5=>v=.pointer (some ⟨g,0,none⟩)
  | 6=>v=.pointer (some ⟨g,0,none⟩)
  | 7=>v=.agg (cnCells {d with iN:=(s.sq+1) % 4294967296,wnd:=s.wn,wsq:=s.sq,wak:=s.ak,st:=2})
  | 8=>v=.agg (sgCells sy)
  | 11=>v=.pointer (some ⟨g,0,none⟩)
  | 12=>v=.pointer (some ⟨g,46,none⟩)
  | 9=>∃ hb,v=.slice (some ⟨hb,0,none⟩) 1 1
  | 10=>v=.slice (some ⟨a.1,0,none⟩) 1 a.2
  | _=>True) f vals x∧RowI N 9 sy f vals x
theorem implMet (g:Nat) (d:Cn) (s:Sg) (now:Int) (B pg gs:Nat) (ps:List (Int×ByteArray)) (h0:0≤now) (h1:now≤1000000000) (h2:0≤d.tat) (h3:d.tat≤2000000000) (hf:IsInt s.fl) (w:World) (A:Blk g w (arrCells d s now (.slice (some ⟨gs,0,none⟩) 0 0))) (L:Held shG w B gs 0 0 []) (P:Held shP w B pg d.pn d.pc ps) (hgB:B≤g) (n1:g≠gs) (n2:g≠pg) (n3:gs≠pg) :
  Calls Tryz.prog 104 #[.pointer (some ⟨g,0,none⟩)] w fun e w'=>e=.returned (.tuple #[])∧Base B w w'∧∃ gs' n' c',Blk g w' (arrCells (metX d s now) s now (.slice (some ⟨gs',0,none⟩) n' c'))∧Held shG w' B gs' n' c' (metS d s)∧Held shP w' B pg d.pn d.pc ps∧g≠gs'∧gs'≠pg:=by
 have hh16:=fun {dd:Cn} {sv:Value} wx (Ax:Blk g wx (arrCells dd s now sv))=>implHasA g dd s now sv 16 hf (by simp [IsFlag]) wx Ax
 have hsy:=fun wx=>implSyn (synC d s) wx
 obtain ⟨sy,hsy0⟩:∃ q,Hid (q=synI (synC d s)):=⟨_,rfl⟩
 rw [← hsy0.out] at hsy
 unfold cnVal sgVal at hsy
 obtain ⟨f16,hf16⟩:∃ q,Hid (q=hasF s.fl 16):=⟨_,rfl⟩
 rw [← hf16.out] at hh16
 obtain ⟨tm,htm0⟩:∃ q,Hid (q=d.tmg):=⟨_,rfl⟩
 have htm:Hid ((opnC d s).tmg=tm):=htm0.out.symm
 have hX:Hid (metX d s now=if f16 then (if tm then timedC (opnC d s) now else opnC d s) else synC d s):=by
  show _=_
  rw [hf16.out,htm0.out]
  rfl
 have hXx:Hid (metS d s=if f16 then [] else [sy]):=by
  show _=_
  rw [hf16.out,hsy0.out]
  rfl
 generalize metX d s now=cX at hX ⊢
 generalize metS d s=xX at hXx ⊢
 have hA:=A.lt
 have hL:=L.lt
 have hLo:=L.low'
 have hP:=P.lt
 have hPo:=P.low'
 have G:Base B w w:=Base.refl (by omega)
 go_enter Tryz.func104,Tryz.ntmps104
 go_upto_region 0 with (fail)
 refine vR ?_
 refine vV (pX g 0) ?_
 refine vV (pX g 0) ?_
 refine vV (pX g 0) ?_
 refine vV (pX g 0) ?_
 refine vE #[pX g 0,U,pX g 0,pX g 0,pX g 0,pX g 0,U,U,U,U,U,U,U,U,U,U,U,U,U,U,U,U,U,U,U,U,U,U,U,U,U,U,U,U,U,U,U,U,U,U,U,U,U,U,U,U,U,U,U,U,U,U,U,U,U,U,U] ?_
 go_upto_region 1 with (fail)
 refine vR ?_
 refine vV (pX g 0) ?_
 refine vV (pX g 0) ?_
 refine vV (pX g 0) ?_
 refine vV (pX g 37) ?_
 refine vAS A ?_
 refine vC (implMeetA g _ s now _ s _ A) ?_
 rintro _ qw1 ⟨rfl,qt2,qB3⟩
 refine ⟨_,rfl,?_⟩
 clear A
 replace L:=L.touch qt2 (by omega)
 replace P:=P.touch qt2 (by omega)
 replace G:=G.touch qt2 (by omega)
 have qt2_s:=qt2.size
 refine vE #[pX g 0,U,pX g 0,pX g 0,pX g 0,pX g 0,pX g 0,pX g 0,pX g 0,pX g 37,.agg (sgCells s),.tuple #[],U,U,U,U,U,U,U,U,U,U,U,U,U,U,U,U,U,U,U,U,U,U,U,U,U,U,U,U,U,U,U,U,U,U,U,U,U,U,U,U,U,U,U,U,U] ?_
 go_upto_region 2 with (fail)
 cases f16
 case false=>
  refine vR ?_
  refine vV (pX g 0) ?_
  refine vK (hh16 _ qB3) ?_
  intro qw4 qg5
  replace qB3:=qB3.since qg5
  replace L:=L.since qg5
  replace P:=P.since qg5
  replace G:=G.trans qg5
  have qg5_s:=qg5.size
  refine vV (bT) ?_
  refine vE #[pX g 0,U,pX g 0,pX g 0,pX g 0,pX g 0,pX g 0,pX g 0,pX g 0,pX g 37,.agg (sgCells s),.tuple #[],pX g 0,bF,bT,U,U,U,U,U,U,U,U,U,U,U,U,U,U,U,U,U,U,U,U,U,U,U,U,U,U,U,U,U,U,U,U,U,U,U,U,U,U,U,U,U,U] ?_
  go_upto_region 3 with (fail)
  refine vR ?_
  refine vV (pX g 0) ?_
  refine vV (pX g 0) ?_
  refine vV (pX g 0) ?_
  refine sC (arrCells {d with iN:=(s.sq+1) % 4294967296,wnd:=s.wn,wsq:=s.sq,wak:=s.ak,st:=2} s now (.slice (some ⟨gs,0,none⟩) 0 0)) qB3 0 (.int .i64 2) (arr_size _ _ _ _) ?_
  intro qw6 qt7 qB8
  clear qB3
  replace L:=L.touch qt7 (by omega)
  replace P:=P.touch qt7 (by omega)
  replace G:=G.touch qt7 (by omega)
  have qt7_s:=qt7.size
  refine vE #[pX g 0,U,pX g 0,pX g 0,pX g 0,pX g 0,pX g 0,pX g 0,pX g 0,pX g 37,.agg (sgCells s),.tuple #[],pX g 0,bF,bT,pX g 0,pX g 0,pX g 0,U,U,U,U,U,U,U,U,U,U,U,U,U,U,U,U,U,U,U,U,U,U,U,U,U,U,U,U,U,U,U,U,U,U,U,U,U,U,U] ?_
  go_upto_region 4 with (fail)
  refine wp_region_doneV (metI g d s now gs sy qw6) (fun v=>{tmps:=#[pX g 0,U,pX g 0,pX g 0,pX g 0,pX g 0,pX g 0,pX g 0,pX g 0,pX g 37,.agg (sgCells s),.tuple #[],pX g 0,.bool false,.bool true,pX g 0,pX g 0,pX g 0,v 0,v 1,v 2,v 3,v 4,v 5,v 6,v 7,v 8,v 9,v 10,v 11,v 12,U,U,U,U,U,U,U,U,U,U,U,U,U,U,U,U,U,U,U,U,U,U,U,U,U,U],defers:=[]}) (by kernel_rfl) (by kernel_rfl) (fun f vals hf=>⟨ChainE.start qB8 hf,fun e=>by rw [hf] at e;cases e⟩) (fun vals=>by kernel_rfl) ?_ ?_
  case refine_1=>
   repeat (first|exact eachDoneV_nil|refine eachDoneV_cons ?_ ?_)
   all_goals intro f vals x hf hr hI
   all_goals simp [Region.binds] at hr
   all_goals obtain ⟨hI,hR⟩:=hI
   ·have qk:f 10=true:=by simp [hr]
    obtain ⟨a,Ha,Ea,Ba⟩:=ChainE.ex hI qk
    have ek:vals 10=.slice (some ⟨a.1,0,none⟩) 1 a.2:=Ea 10 (by simp [hr])
    have ep:vals 12=.pointer (some ⟨g,46,none⟩):=Ea 12 (by simp [hr])
    have q1:∀ j,([4,7]:List Nat).contains j=true→f j=true:=by
     intro j hj
     simp at hj
     rcases hj with rfl|rfl<;>simp [hr]
    have B0:=ChainE.old hI hf
    have hag:g<a.1:=by have:=Held.low' Ha;omega
    refine does_cell_store (cs':=arrCells {d with iN:=(s.sq+1) % 4294967296,wnd:=s.wn,wsq:=s.sq,wak:=s.ak,st:=2} s now (.slice (some ⟨a.1,0,none⟩) 1 a.2)) B0 _ _ _ rfl 46 ep (.slice (some ⟨a.1,0,none⟩) 1 a.2) ek rfl (by kernel_rfl) (by rw [arr_size];decide) rfl ?_
    intro z tz Bz
    exact ⟨ChainE.put hI (by decide) qk q1 a Ea tz Bz (Held.touch Ha tz (by omega)) _ trivial,(hR.touch tz (by omega)).step 13 (by decide) _⟩
   ·have e11:vals 11=.pointer (some ⟨g,0,none⟩):=ChainE.val hI (j:=11) (by simp [hr]) (fun _ _ h=>h)
    simp [does,doesUpon,go_sem,e11]
    exact ⟨ChainE.step hI 12 (by decide) (by decide) _ (fun _=>rfl),hR.step 12 (by decide) _⟩
   ·have e0:vals 0=.pointer (some ⟨g,0,none⟩):=ChainE.val hI (j:=0) (by simp [hr]) (fun _ _ h=>h)
    simp [does,doesUpon,go_sem,e0]
    exact ⟨ChainE.step hI 11 (by decide) (by decide) _ (fun _=>rfl),hR.step 11 (by decide) _⟩
   ·have e4:vals 4=.slice (some ⟨gs,0,none⟩) 0 0:=ChainE.val hI (j:=4) (by simp [hr]) (fun _ _ h=>h)
    obtain ⟨hb,eb,Hb⟩:=hR (by simp [hr])
    have Lx:=L.touch (ChainE.touch hI) (by omega)
    have hsz:=(ChainE.touch hI).size
    refine does_app_e laidG _ _ rfl e4 Lx eb Hb.reads (by decide) (by omega) (by omega) ?_
    intro g' c' z T' s' hg'
    exact ⟨ChainE.call hI (by decide) hf _ (g',c') s' (T'.raise (by omega)) rfl,(hR.since s').step 10 (by decide) _⟩
   ·have e8:vals 8=.agg (sgCells sy):=ChainE.val hI (j:=8) (by simp [hr]) (fun _ _ h=>h)
    have h1:=(Since.refl x).alloc (.cells (sgCells sy) 41)
    refine does_build1 sy _ rfl e8 ?_
    exact ⟨ChainE.step (ChainE.since hI h1 (fun a h=>Held.since h h1)) 9 (by decide) (by decide) _ (fun _=>⟨_,rfl⟩),RowI.made (ChainE.touch hI).size⟩
   ·have e7:vals 7=.agg (cnCells {d with iN:=(s.sq+1) % 4294967296,wnd:=s.wn,wsq:=s.sq,wak:=s.ak,st:=2}):=ChainE.val hI (j:=7) (by simp [hr]) (fun _ _ h=>h)
    simp [does,doesUpon,go_sem,e7]
    refine (hsy x).mono ?_
    rintro _ x' ⟨rfl,h1⟩
    simp
    exact ⟨ChainE.step (ChainE.since hI h1 (fun a h=>Held.since h h1)) 8 (by decide) (by decide) _ (fun _=>rfl),(hR.since h1).step 8 (by decide) _⟩
   ·have e6:vals 6=.pointer (some ⟨g,0,none⟩):=ChainE.val hI (j:=6) (by simp [hr]) (fun _ _ h=>h)
    have B0:=ChainE.old hI (ChainE.no_b hI hf (by decide))
    exact does_aend B0 _ rfl e6 (⟨ChainE.step hI 7 (by decide) (by decide) _ (fun _=>rfl),hR.step 7 (by decide) _⟩)
   ·have e5:vals 5=.pointer (some ⟨g,0,none⟩):=ChainE.val hI (j:=5) (by simp [hr]) (fun _ _ h=>h)
    simp [does,doesUpon,go_sem,e5]
    exact ⟨ChainE.step hI 6 (by decide) (by decide) _ (fun _=>rfl),hR.step 6 (by decide) _⟩
   ·simp [does,doesUpon,go_sem]
    exact ⟨ChainE.step hI 5 (by decide) (by decide) _ (fun _=>rfl),hR.step 5 (by decide) _⟩
   ·have e3:vals 3=.pointer (some ⟨g,46,none⟩):=ChainE.val hI (j:=3) (by simp [hr]) (fun _ _ h=>h)
    have B0:=ChainE.old hI (ChainE.no_b hI hf (by decide))
    have fl:x.cell? ⟨g,46,none⟩=some (.slice (some ⟨gs,0,none⟩) 0 0):=B0.cell 46
    simp [does,doesUpon,go_sem,e3,fl]
    exact ⟨ChainE.step hI 4 (by decide) (by decide) _ (fun _=>rfl),hR.step 4 (by decide) _⟩
   ·have e2:vals 2=.pointer (some ⟨g,0,none⟩):=ChainE.val hI (j:=2) (by simp [hr]) (fun _ _ h=>h)
    simp [does,doesUpon,go_sem,e2]
    exact ⟨ChainE.step hI 3 (by decide) (by decide) _ (fun _=>rfl),hR.step 3 (by decide) _⟩
   ·have e1:vals 1=.pointer (some ⟨g,0,none⟩):=ChainE.val hI (j:=1) (by simp [hr]) (fun _ _ h=>h)
    simp [does,doesUpon,go_sem,e1]
    exact ⟨ChainE.step hI 2 (by decide) (by decide) _ (fun _=>rfl),hR.step 2 (by decide) _⟩
   ·simp [does,doesUpon,go_sem]
    exact ⟨ChainE.step hI 1 (by decide) (by decide) _ (fun _=>rfl),hR.step 1 (by decide) _⟩
   ·simp [does,doesUpon,go_sem]
    exact ⟨ChainE.step hI 0 (by decide) (by decide) _ (fun _=>rfl),hR.step 0 (by decide) _⟩
  case refine_2=>
   intro f qv10 qw9 hI hf
   obtain ⟨hI,-⟩:=hI
   obtain ⟨⟨gn,cn⟩,Hn,Ea,Ba⟩:=ChainE.ex hI (hf 10 (by decide))
   have Bn:=Ba (hf 13 (by decide))
   have hT:=ChainE.touch hI
   clear hI Ba
   have hv0:qv10 0=.pointer (some ⟨g,0,none⟩):=Ea 0 (hf 0 (by decide))
   have hv1:qv10 1=.pointer (some ⟨g,0,none⟩):=Ea 1 (hf 1 (by decide))
   have hv2:qv10 2=.pointer (some ⟨g,0,none⟩):=Ea 2 (hf 2 (by decide))
   have hv3:qv10 3=.pointer (some ⟨g,46,none⟩):=Ea 3 (hf 3 (by decide))
   have hv4:qv10 4=.slice (some ⟨gs,0,none⟩) 0 0:=Ea 4 (hf 4 (by decide))
   have hv5:qv10 5=.pointer (some ⟨g,0,none⟩):=Ea 5 (hf 5 (by decide))
   have hv6:qv10 6=.pointer (some ⟨g,0,none⟩):=Ea 6 (hf 6 (by decide))
   have hv7:qv10 7=.agg (cnCells {d with iN:=(s.sq+1) % 4294967296,wnd:=s.wn,wsq:=s.sq,wak:=s.ak,st:=2}):=Ea 7 (hf 7 (by decide))
   have hv8:qv10 8=.agg (sgCells sy):=Ea 8 (hf 8 (by decide))
   have hv11:qv10 11=.pointer (some ⟨g,0,none⟩):=Ea 11 (hf 11 (by decide))
   have hv12:qv10 12=.pointer (some ⟨g,46,none⟩):=Ea 12 (hf 12 (by decide))
   have hv10:qv10 10=.slice (some ⟨gn,0,none⟩) 1 cn:=Ea 10 (hf 10 (by decide))
   obtain ⟨hb,hv9⟩:∃ hb,qv10 9=.slice (some ⟨hb,0,none⟩) 1 1:=Ea 9 (hf 9 (by decide))
   clear Ea hf
   simp only [hv0,hv1,hv2,hv3,hv4,hv5,hv6,hv7,hv8,hv9,hv10,hv11,hv12]
   clear hv0 hv1 hv2 hv3 hv4 hv5 hv6 hv7 hv8 hv9 hv10 hv11 hv12
   clear qB8 L
   replace Bn:Blk g qw9 (arrCells {d with iN:=(s.sq+1) % 4294967296,wnd:=s.wn,wsq:=s.sq,wak:=s.ak,st:=2} s now (.slice (some ⟨gn,0,none⟩) 1 cn)):=Bn
   replace Hn:Held shG qw9 qw6.heap.size gn 1 cn [sy]:=Hn
   have hlo:=Hn.low'
   have Hn_l:=Hn.lt
   replace Hn:=Hn.raise (show B≤gn by omega)
   replace P:=P.touch hT (by omega)
   replace G:=G.touch hT (by omega)
   have hT_s:=hT.size
   clear hT
   first|(simp only [Exit.then];rename_i hK;refine hK _ _ ?_;clear hK)|skip
   have hfin:Hid (cX=synC d s):=hX.out
   have hfx:Hid (xX=[sy]):=hXx.out
   go_wp2_with (fail)
   refine bodyPost_ret (v:=.tuple #[]) (results_none rfl _ _ _) rfl ⟨rfl,G,gn,1,cn,?_,?_,P,by omega,by omega⟩
   ·rw [hfin.out]
    exact Bn
   ·rw [hfx.out]
    exact Hn
 case true=>
  cases tm
  case false=>
   refine vR ?_
   refine vV (pX g 0) ?_
   refine vK (hh16 _ qB3) ?_
   intro qw4 qg5
   replace qB3:=qB3.since qg5
   replace L:=L.since qg5
   replace P:=P.since qg5
   replace G:=G.trans qg5
   have qg5_s:=qg5.size
   refine vV (bF) ?_
   refine vE #[pX g 0,U,pX g 0,pX g 0,pX g 0,pX g 0,pX g 0,pX g 0,pX g 0,pX g 37,.agg (sgCells s),.tuple #[],pX g 0,bT,bF,U,U,U,U,U,U,U,U,U,U,U,U,U,U,U,U,U,U,U,U,U,U,U,U,U,U,U,U,U,U,U,U,U,U,U,U,U,U,U,U,U,U] ?_
   go_upto_region 5 with (fail)
   refine vR ?_
   refine vV (pX g 0) ?_
   refine vV (pX g 0) ?_
   refine vV (pX g 0) ?_
   refine vV (pX g 0) ?_
   refine vV (pX g 0) ?_
   refine vV (pX g 0) ?_
   refine vV (pX g 0) ?_
   refine vV (pX g 1) ?_
   refine vD (uJ d.iss) (qB3.cell 1) ?_
   refine vV (uJ ((d.iss+1) % 4294967296)) ?_
   refine vV (pX g 0) ?_
   refine vV (pX g 0) ?_
   refine sC (arrCells {d with iN:=(s.sq+1) % 4294967296,wnd:=s.wn,wsq:=s.sq,wak:=s.ak,st:=3} s now (.slice (some ⟨gs,0,none⟩) 0 0)) qB3 0 (.int .i64 3) (arr_size _ _ _ _) ?_
   intro qw6 qt7 qB8
   clear qB3
   replace L:=L.touch qt7 (by omega)
   replace P:=P.touch qt7 (by omega)
   replace G:=G.touch qt7 (by omega)
   have qt7_s:=qt7.size
   refine vV (pX g 0) ?_
   refine vV (pX g 2) ?_
   refine sC (arrCells {d with iN:=(s.sq+1) % 4294967296,wnd:=s.wn,wsq:=s.sq,wak:=s.ak,st:=3,una:=((d.iss+1) % 4294967296)} s now (.slice (some ⟨gs,0,none⟩) 0 0)) qB8 2 (.int .u32 ((d.iss+1) % 4294967296)) (arr_size _ _ _ _) ?_
   intro qw9 qt10 qB11
   clear qB8
   replace L:=L.touch qt10 (by omega)
   replace P:=P.touch qt10 (by omega)
   replace G:=G.touch qt10 (by omega)
   have qt10_s:=qt10.size
   refine vV (pX g 0) ?_
   refine vV (pX g 36) ?_
   refine sC (arrCells {d with iN:=(s.sq+1) % 4294967296,wnd:=s.wn,wsq:=s.sq,wak:=s.ak,st:=3,una:=((d.iss+1) % 4294967296),owe:=true} s now (.slice (some ⟨gs,0,none⟩) 0 0)) qB11 36 (.bool true) (arr_size _ _ _ _) ?_
   intro qw12 qt13 qB14
   clear qB11
   replace L:=L.touch qt13 (by omega)
   replace P:=P.touch qt13 (by omega)
   replace G:=G.touch qt13 (by omega)
   have qt13_s:=qt13.size
   refine vV (pX g 0) ?_
   refine vV (pX g 31) ?_
   refine sC (arrCells {d with iN:=(s.sq+1) % 4294967296,wnd:=s.wn,wsq:=s.sq,wak:=s.ak,st:=3,una:=((d.iss+1) % 4294967296),owe:=true,agn:=0} s now (.slice (some ⟨gs,0,none⟩) 0 0)) qB14 31 (.int .i64 0) (arr_size _ _ _ _) ?_
   intro qw15 qt16 qB17
   clear qB14
   replace L:=L.touch qt16 (by omega)
   replace P:=P.touch qt16 (by omega)
   replace G:=G.touch qt16 (by omega)
   have qt16_s:=qt16.size
   refine vV (pX g 0) ?_
   refine vV (pX g 34) ?_
   refine sC (arrCells {d with iN:=(s.sq+1) % 4294967296,wnd:=s.wn,wsq:=s.sq,wak:=s.ak,st:=3,una:=((d.iss+1) % 4294967296),owe:=true,agn:=0,trs:=0} s now (.slice (some ⟨gs,0,none⟩) 0 0)) qB17 34 (.int .i64 0) (arr_size _ _ _ _) ?_
   intro qw18 qt19 qB20
   clear qB17
   replace L:=L.touch qt19 (by omega)
   replace P:=P.touch qt19 (by omega)
   replace G:=G.touch qt19 (by omega)
   have qt19_s:=qt19.size
   refine vE #[pX g 0,U,pX g 0,pX g 0,pX g 0,pX g 0,pX g 0,pX g 0,pX g 0,pX g 37,.agg (sgCells s),.tuple #[],pX g 0,bT,bF,U,U,U,U,U,U,U,U,U,U,U,U,U,U,U,U,pX g 0,pX g 0,pX g 0,pX g 0,pX g 0,pX g 0,pX g 0,pX g 1,uJ d.iss,uJ ((d.iss+1) % 4294967296),pX g 0,pX g 0,pX g 0,pX g 2,pX g 0,pX g 36,pX g 0,pX g 31,pX g 0,pX g 34,U,U,U,U,U,U] ?_
   have e5:{d with iN:=(s.sq+1) % 4294967296,wnd:=s.wn,wsq:=s.sq,wak:=s.ak,st:=3,una:=((d.iss+1) % 4294967296),owe:=true,agn:=0,trs:=0}=opnC d s:=rfl
   rw [e5] at qB20
   clear e5
   go_upto_region 6 with (fail)
   refine vR ?_
   refine vV (pX g 0) ?_
   refine vV (pX g 0) ?_
   refine vV (pX g 28) ?_
   refine vD (bF) ((qB20.cell 28).trans (by show some (.bool (opnC d s).tmg:Value)=some (bF:Value);rw [htm.out])) ?_
   refine vE #[pX g 0,U,pX g 0,pX g 0,pX g 0,pX g 0,pX g 0,pX g 0,pX g 0,pX g 37,.agg (sgCells s),.tuple #[],pX g 0,bT,bF,U,U,U,U,U,U,U,U,U,U,U,U,U,U,U,U,pX g 0,pX g 0,pX g 0,pX g 0,pX g 0,pX g 0,pX g 0,pX g 1,uJ d.iss,uJ ((d.iss+1) % 4294967296),pX g 0,pX g 0,pX g 0,pX g 2,pX g 0,pX g 36,pX g 0,pX g 31,pX g 0,pX g 34,pX g 0,pX g 0,pX g 28,bF,U,U] ?_
   have hfin:Hid (cX=opnC d s):=hX.out
   have hfx:Hid (xX=[]):=hXx.out
   go_wp2_with (fail)
   refine bodyPost_end (v:=.tuple #[]) (results_none rfl _ _ _) rfl ⟨rfl,G,gs,0,0,?_,?_,P,by omega,by omega⟩
   ·rw [hfin.out]
    exact qB20
   ·rw [hfx.out]
    exact L
  case true=>
   refine vR ?_
   refine vV (pX g 0) ?_
   refine vK (hh16 _ qB3) ?_
   intro qw4 qg5
   replace qB3:=qB3.since qg5
   replace L:=L.since qg5
   replace P:=P.since qg5
   replace G:=G.trans qg5
   have qg5_s:=qg5.size
   refine vV (bF) ?_
   refine vE #[pX g 0,U,pX g 0,pX g 0,pX g 0,pX g 0,pX g 0,pX g 0,pX g 0,pX g 37,.agg (sgCells s),.tuple #[],pX g 0,bT,bF,U,U,U,U,U,U,U,U,U,U,U,U,U,U,U,U,U,U,U,U,U,U,U,U,U,U,U,U,U,U,U,U,U,U,U,U,U,U,U,U,U,U] ?_
   go_upto_region 5 with (fail)
   refine vR ?_
   refine vV (pX g 0) ?_
   refine vV (pX g 0) ?_
   refine vV (pX g 0) ?_
   refine vV (pX g 0) ?_
   refine vV (pX g 0) ?_
   refine vV (pX g 0) ?_
   refine vV (pX g 0) ?_
   refine vV (pX g 1) ?_
   refine vD (uJ d.iss) (qB3.cell 1) ?_
   refine vV (uJ ((d.iss+1) % 4294967296)) ?_
   refine vV (pX g 0) ?_
   refine vV (pX g 0) ?_
   refine sC (arrCells {d with iN:=(s.sq+1) % 4294967296,wnd:=s.wn,wsq:=s.sq,wak:=s.ak,st:=3} s now (.slice (some ⟨gs,0,none⟩) 0 0)) qB3 0 (.int .i64 3) (arr_size _ _ _ _) ?_
   intro qw6 qt7 qB8
   clear qB3
   replace L:=L.touch qt7 (by omega)
   replace P:=P.touch qt7 (by omega)
   replace G:=G.touch qt7 (by omega)
   have qt7_s:=qt7.size
   refine vV (pX g 0) ?_
   refine vV (pX g 2) ?_
   refine sC (arrCells {d with iN:=(s.sq+1) % 4294967296,wnd:=s.wn,wsq:=s.sq,wak:=s.ak,st:=3,una:=((d.iss+1) % 4294967296)} s now (.slice (some ⟨gs,0,none⟩) 0 0)) qB8 2 (.int .u32 ((d.iss+1) % 4294967296)) (arr_size _ _ _ _) ?_
   intro qw9 qt10 qB11
   clear qB8
   replace L:=L.touch qt10 (by omega)
   replace P:=P.touch qt10 (by omega)
   replace G:=G.touch qt10 (by omega)
   have qt10_s:=qt10.size
   refine vV (pX g 0) ?_
   refine vV (pX g 36) ?_
   refine sC (arrCells {d with iN:=(s.sq+1) % 4294967296,wnd:=s.wn,wsq:=s.sq,wak:=s.ak,st:=3,una:=((d.iss+1) % 4294967296),owe:=true} s now (.slice (some ⟨gs,0,none⟩) 0 0)) qB11 36 (.bool true) (arr_size _ _ _ _) ?_
   intro qw12 qt13 qB14
   clear qB11
   replace L:=L.touch qt13 (by omega)
   replace P:=P.touch qt13 (by omega)
   replace G:=G.touch qt13 (by omega)
   have qt13_s:=qt13.size
   refine vV (pX g 0) ?_
   refine vV (pX g 31) ?_
   refine sC (arrCells {d with iN:=(s.sq+1) % 4294967296,wnd:=s.wn,wsq:=s.sq,wak:=s.ak,st:=3,una:=((d.iss+1) % 4294967296),owe:=true,agn:=0} s now (.slice (some ⟨gs,0,none⟩) 0 0)) qB14 31 (.int .i64 0) (arr_size _ _ _ _) ?_
   intro qw15 qt16 qB17
   clear qB14
   replace L:=L.touch qt16 (by omega)
   replace P:=P.touch qt16 (by omega)
   replace G:=G.touch qt16 (by omega)
   have qt16_s:=qt16.size
   refine vV (pX g 0) ?_
   refine vV (pX g 34) ?_
   refine sC (arrCells {d with iN:=(s.sq+1) % 4294967296,wnd:=s.wn,wsq:=s.sq,wak:=s.ak,st:=3,una:=((d.iss+1) % 4294967296),owe:=true,agn:=0,trs:=0} s now (.slice (some ⟨gs,0,none⟩) 0 0)) qB17 34 (.int .i64 0) (arr_size _ _ _ _) ?_
   intro qw18 qt19 qB20
   clear qB17
   replace L:=L.touch qt19 (by omega)
   replace P:=P.touch qt19 (by omega)
   replace G:=G.touch qt19 (by omega)
   have qt19_s:=qt19.size
   refine vE #[pX g 0,U,pX g 0,pX g 0,pX g 0,pX g 0,pX g 0,pX g 0,pX g 0,pX g 37,.agg (sgCells s),.tuple #[],pX g 0,bT,bF,U,U,U,U,U,U,U,U,U,U,U,U,U,U,U,U,pX g 0,pX g 0,pX g 0,pX g 0,pX g 0,pX g 0,pX g 0,pX g 1,uJ d.iss,uJ ((d.iss+1) % 4294967296),pX g 0,pX g 0,pX g 0,pX g 2,pX g 0,pX g 36,pX g 0,pX g 31,pX g 0,pX g 34,U,U,U,U,U,U] ?_
   have e5:{d with iN:=(s.sq+1) % 4294967296,wnd:=s.wn,wsq:=s.sq,wak:=s.ak,st:=3,una:=((d.iss+1) % 4294967296),owe:=true,agn:=0,trs:=0}=opnC d s:=rfl
   rw [e5] at qB20
   clear e5
   go_upto_region 6 with (fail)
   refine vR ?_
   refine vV (pX g 0) ?_
   refine vV (pX g 0) ?_
   refine vV (pX g 28) ?_
   refine vD (bT) ((qB20.cell 28).trans (by show some (.bool (opnC d s).tmg:Value)=some (bT:Value);rw [htm.out])) ?_
   refine vE #[pX g 0,U,pX g 0,pX g 0,pX g 0,pX g 0,pX g 0,pX g 0,pX g 0,pX g 37,.agg (sgCells s),.tuple #[],pX g 0,bT,bF,U,U,U,U,U,U,U,U,U,U,U,U,U,U,U,U,pX g 0,pX g 0,pX g 0,pX g 0,pX g 0,pX g 0,pX g 0,pX g 1,uJ d.iss,uJ ((d.iss+1) % 4294967296),pX g 0,pX g 0,pX g 0,pX g 2,pX g 0,pX g 36,pX g 0,pX g 31,pX g 0,pX g 34,pX g 0,pX g 0,pX g 28,bT,U,U] ?_
   go_upto_region 7 with (fail)
   refine vR ?_
   refine vV (pX g 0) ?_
   refine vC (implTimedA g (opnC d s) s now _ h0 h1 h2 h3 _ qB20) ?_
   rintro _ qw21 ⟨rfl,qt22,qB23⟩
   refine ⟨_,rfl,?_⟩
   clear qB20
   replace L:=L.touch qt22 (by omega)
   replace P:=P.touch qt22 (by omega)
   replace G:=G.touch qt22 (by omega)
   have qt22_s:=qt22.size
   refine vE #[pX g 0,U,pX g 0,pX g 0,pX g 0,pX g 0,pX g 0,pX g 0,pX g 0,pX g 37,.agg (sgCells s),.tuple #[],pX g 0,bT,bF,U,U,U,U,U,U,U,U,U,U,U,U,U,U,U,U,pX g 0,pX g 0,pX g 0,pX g 0,pX g 0,pX g 0,pX g 0,pX g 1,uJ d.iss,uJ ((d.iss+1) % 4294967296),pX g 0,pX g 0,pX g 0,pX g 2,pX g 0,pX g 36,pX g 0,pX g 31,pX g 0,pX g 34,pX g 0,pX g 0,pX g 28,bT,pX g 0,.tuple #[]] ?_
   have hfin:Hid (cX=timedC (opnC d s) now):=hX.out
   have hfx:Hid (xX=[]):=hXx.out
   go_wp2_with (fail)
   refine bodyPost_end (v:=.tuple #[]) (results_none rfl _ _ _) rfl ⟨rfl,G,gs,0,0,?_,?_,P,by omega,by omega⟩
   ·rw [hfin.out]
    exact qB23
   ·rw [hfx.out]
    exact L
def answI (c:Cn) (s:Sg) (now:Int):Cn:=
 if hasF s.fl 16 && (s.ak != (c.iss+1) % 4294967296) then c else if hasF s.fl 4 then (if hasF s.fl 16 then endC c 2 else c) else if hasF s.fl 2 then metX c s now else c
def answS (c:Cn) (s:Sg):List Sg:=
 if hasF s.fl 16 && (s.ak != (c.iss+1) % 4294967296) then (if hasF s.fl 4 then [] else [rstSg s.ak]) else if hasF s.fl 4 then [] else if hasF s.fl 2 then metS c s else []
def answI_ (g:Nat) (d:Cn) (s:Sg) (now:Int) (gs:Nat) (sy:Sg) (N:World) (f:Nat→Bool) (vals:Nat→Value) (x:World):Prop:=
 ChainE (α:=Nat×Nat) g N 12 15 [4,9] (arrCells d s now (.slice (some ⟨gs,0,none⟩) 0 0)) (fun a=>arrCells d s now (.slice (some ⟨a.1,0,none⟩) 1 a.2)) (fun a x=>Held shG x N.heap.size a.1 1 a.2 [sy]) (fun i a v=>match i with
  | 0=>v=.pointer (some ⟨g,0,none⟩)
  | 1=>v=.pointer (some ⟨g,0,none⟩)
  | 2=>v=.pointer (some ⟨g,0,none⟩)
  | 3=>v=.pointer (some ⟨g,46,none⟩)
  | 4=>v=.slice (some ⟨gs,0,none⟩) 0 0
  | 5=>v=.pointer (some ⟨g,0,none⟩)
  | 6=>v=.pointer (some ⟨g,0,none⟩)
  | 7=>v=.pointer (some ⟨g,37,none⟩)
  | 8=>v=.pointer (some ⟨g,40,none⟩)
  | 9=>v=.int .u32 s.ak
  | 10=>v=.agg (sgCells (rstSg s.ak))
  | 13=>v=.pointer (some ⟨g,0,none⟩)
  | 14=>v=.pointer (some ⟨g,46,none⟩)
  | 11=>∃ hb,v=.slice (some ⟨hb,0,none⟩) 1 1
  | 12=>v=.slice (some ⟨a.1,0,none⟩) 1 a.2
  | _=>True) f vals x∧RowI N 11 sy f vals x
theorem implAnswered (g:Nat) (d:Cn) (s:Sg) (now:Int) (B pg gs:Nat) (ps:List (Int×ByteArray)) (h0:0≤now) (h1:now≤1000000000) (h2:0≤d.tat) (h3:d.tat≤2000000000) (hf:IsInt s.fl) (w:World) (A:Blk g w (arrCells d s now (.slice (some ⟨gs,0,none⟩) 0 0))) (L:Held shG w B gs 0 0 []) (P:Held shP w B pg d.pn d.pc ps) (hgB:B≤g) (n1:g≠gs) (n2:g≠pg) (n3:gs≠pg) :
  Calls Tryz.prog 66 #[.pointer (some ⟨g,0,none⟩)] w fun e w'=>e=.returned (.tuple #[])∧Base B w w'∧∃ gs' n' c',Blk g w' (arrCells (answI d s now) s now (.slice (some ⟨gs',0,none⟩) n' c'))∧Held shG w' B gs' n' c' (answS d s)∧Held shP w' B pg d.pn d.pc ps∧g≠gs'∧gs'≠pg:=by
 have hh16:=fun {dd:Cn} {sv:Value} wx (Ax:Blk g wx (arrCells dd s now sv))=>implHasA g dd s now sv 16 hf (by simp [IsFlag]) wx Ax
 have hh4:=fun {dd:Cn} {sv:Value} wx (Ax:Blk g wx (arrCells dd s now sv))=>implHasA g dd s now sv 4 hf (by simp [IsFlag]) wx Ax
 have hh2:=fun {dd:Cn} {sv:Value} wx (Ax:Blk g wx (arrCells dd s now sv))=>implHasA g dd s now sv 2 hf (by simp [IsFlag]) wx Ax
 obtain ⟨f16,hf16⟩:∃ q,Hid (q=hasF s.fl 16):=⟨_,rfl⟩
 obtain ⟨f4,hf4⟩:∃ q,Hid (q=hasF s.fl 4):=⟨_,rfl⟩
 obtain ⟨f2,hf2⟩:∃ q,Hid (q=hasF s.fl 2):=⟨_,rfl⟩
 obtain ⟨ne,hne⟩:∃ q,Hid (q=(s.ak != (d.iss+1) % 4294967296)):=⟨_,rfl⟩
 rw [← hf16.out] at hh16
 rw [← hf4.out] at hh4
 rw [← hf2.out] at hh2
 have hX:Hid (answI d s now=if f16 && ne then d else if f4 then (if f16 then endC d 2 else d) else if f2 then metX d s now else d):=by
  show _=_
  rw [hf16.out,hf4.out,hf2.out,hne.out]
  rfl
 have hXx:Hid (answS d s=if f16 && ne then (if f4 then [] else [rstSg s.ak]) else if f4 then [] else if f2 then metS d s else []):=by
  show _=_
  rw [hf16.out,hf4.out,hf2.out,hne.out]
  rfl
 generalize answI d s now=cX at hX ⊢
 generalize answS d s=xX at hXx ⊢
 have hA:=A.lt
 have hL:=L.lt
 have hLo:=L.low'
 have hP:=P.lt
 have hPo:=P.low'
 have G:Base B w w:=Base.refl (by omega)
 go_enter Tryz.func66,Tryz.ntmps66
 go_upto_region 0 with (fail)
 cases f16
 case true=>
  cases ne
  case true=>
   cases f4
   case true=>
    refine wp_region_qs (wb:=w) (by kernel_rfl) (by kernel_rfl) (Since.refl _) ?_
    refine qV (pX g 0) ?_
    refine q_call (by kernel_rfl) 102 #[.pointer (some ⟨g,0,none⟩),.int .i64 16] (.bool true) (fun x=>by kernel_rfl) (fun x hx=>hh16 x (A.since hx)) ?_
    refine qV (bT) ?_
    refine qV (pX g 0) ?_
    refine qV (pX g 0) ?_
    refine qV (pX g 37) ?_
    refine qV (pX g 40) ?_
    refine qC ⟨g,40,none⟩ (uJ s.ak) (fun y hy=>(A.since hy).cell 40) ?_
    refine qV (pX g 0) ?_
    refine qV (pX g 0) ?_
    refine qV (pX g 0) ?_
    refine qV (pX g 1) ?_
    refine qC ⟨g,1,none⟩ (uJ d.iss) (fun y hy=>(A.since hy).cell 1) ?_
    refine qV (uJ ((d.iss+1) % 4294967296)) ?_
    refine q_val (by kernel_rfl) (.bool true) (fun x hx=>by rw [show true=(s.ak != (d.iss+1) % 4294967296) from hne.out];kernel_rfl) ?_
    refine qV (bT) ?_
    refine qV (bT) ?_
    refine q_frame (a':={tmps:=#[pX g 0,U,bT,pX g 0,bT,bT,pX g 0,pX g 0,pX g 37,pX g 40,uJ s.ak,pX g 0,pX g 0,pX g 0,pX g 1,uJ d.iss,uJ ((d.iss+1) % 4294967296),bT,bT,U,U,U,U,U,U,U,U,U,U,U,U,U,U,U,U,U,U,U,U,U,U,U,U,U,U,U,U,U,U,U,U],defers:=[]}) (by kernel_rfl) ?_
    refine q_nil ?_
    intro qw1 qh2
    replace A:=A.since qh2
    replace L:=L.since qh2
    replace P:=P.since qh2
    replace G:=G.trans qh2
    have qh2_s:=qh2.size
    go_upto_region 1 with (fail)
    refine vR ?_
    refine vV (pX g 0) ?_
    refine vK (hh4 _ A) ?_
    intro qw3 qg4
    replace A:=A.since qg4
    replace L:=L.since qg4
    replace P:=P.since qg4
    replace G:=G.trans qg4
    have qg4_s:=qg4.size
    refine vV (bF) ?_
    refine vE #[pX g 0,U,bT,pX g 0,bT,bT,pX g 0,pX g 0,pX g 37,pX g 40,uJ s.ak,pX g 0,pX g 0,pX g 0,pX g 1,uJ d.iss,uJ ((d.iss+1) % 4294967296),bT,bT,pX g 0,bT,bF,U,U,U,U,U,U,U,U,U,U,U,U,U,U,U,U,U,U,U,U,U,U,U,U,U,U,U,U,U] ?_
    have hfin:Hid (cX=d):=hX.out
    have hfx:Hid (xX=[]):=hXx.out
    go_wp2_with (fail)
    refine bodyPost_end (v:=.tuple #[]) (results_none rfl _ _ _) rfl ⟨rfl,G,gs,0,0,?_,?_,P,by omega,by omega⟩
    ·rw [hfin.out]
     exact A
    ·rw [hfx.out]
     exact L
   case false=>
    refine wp_region_qs (wb:=w) (by kernel_rfl) (by kernel_rfl) (Since.refl _) ?_
    refine qV (pX g 0) ?_
    refine q_call (by kernel_rfl) 102 #[.pointer (some ⟨g,0,none⟩),.int .i64 16] (.bool true) (fun x=>by kernel_rfl) (fun x hx=>hh16 x (A.since hx)) ?_
    refine qV (bT) ?_
    refine qV (pX g 0) ?_
    refine qV (pX g 0) ?_
    refine qV (pX g 37) ?_
    refine qV (pX g 40) ?_
    refine qC ⟨g,40,none⟩ (uJ s.ak) (fun y hy=>(A.since hy).cell 40) ?_
    refine qV (pX g 0) ?_
    refine qV (pX g 0) ?_
    refine qV (pX g 0) ?_
    refine qV (pX g 1) ?_
    refine qC ⟨g,1,none⟩ (uJ d.iss) (fun y hy=>(A.since hy).cell 1) ?_
    refine qV (uJ ((d.iss+1) % 4294967296)) ?_
    refine q_val (by kernel_rfl) (.bool true) (fun x hx=>by rw [show true=(s.ak != (d.iss+1) % 4294967296) from hne.out];kernel_rfl) ?_
    refine qV (bT) ?_
    refine qV (bT) ?_
    refine q_frame (a':={tmps:=#[pX g 0,U,bT,pX g 0,bT,bT,pX g 0,pX g 0,pX g 37,pX g 40,uJ s.ak,pX g 0,pX g 0,pX g 0,pX g 1,uJ d.iss,uJ ((d.iss+1) % 4294967296),bT,bT,U,U,U,U,U,U,U,U,U,U,U,U,U,U,U,U,U,U,U,U,U,U,U,U,U,U,U,U,U,U,U,U],defers:=[]}) (by kernel_rfl) ?_
    refine q_nil ?_
    intro qw1 qh2
    replace A:=A.since qh2
    replace L:=L.since qh2
    replace P:=P.since qh2
    replace G:=G.trans qh2
    have qh2_s:=qh2.size
    go_upto_region 1 with (fail)
    refine vR ?_
    refine vV (pX g 0) ?_
    refine vK (hh4 _ A) ?_
    intro qw3 qg4
    replace A:=A.since qg4
    replace L:=L.since qg4
    replace P:=P.since qg4
    replace G:=G.trans qg4
    have qg4_s:=qg4.size
    refine vV (bT) ?_
    refine vE #[pX g 0,U,bT,pX g 0,bT,bT,pX g 0,pX g 0,pX g 37,pX g 40,uJ s.ak,pX g 0,pX g 0,pX g 0,pX g 1,uJ d.iss,uJ ((d.iss+1) % 4294967296),bT,bT,pX g 0,bF,bT,U,U,U,U,U,U,U,U,U,U,U,U,U,U,U,U,U,U,U,U,U,U,U,U,U,U,U,U,U] ?_
    go_upto_region 2 with (fail)
    refine wp_region_doneV (answI_ g d s now gs (rstSg s.ak) qw3) (fun v=>{tmps:=#[pX g 0,U,.bool true,pX g 0,.bool true,.bool true,pX g 0,pX g 0,pX g 37,pX g 40,.int .u32 s.ak,pX g 0,pX g 0,pX g 0,pX g 1,.int .u32 d.iss,.int .u32 ((d.iss+1) % 4294967296),.bool true,.bool true,pX g 0,.bool false,.bool true,v 0,v 1,v 2,v 3,v 4,v 5,v 6,v 7,v 8,v 9,v 10,v 11,v 12,v 13,v 14,U,U,U,U,U,U,U,U,U,U,U,U,U,U],defers:=[]}) (by kernel_rfl) (by kernel_rfl) (fun f vals hf=>⟨ChainE.start A hf,fun e=>by rw [hf] at e;cases e⟩) (fun vals=>by kernel_rfl) ?_ ?_
    case refine_1=>
     repeat (first|exact eachDoneV_nil|refine eachDoneV_cons ?_ ?_)
     all_goals intro f vals x hf hr hI
     all_goals simp [Region.binds] at hr
     all_goals obtain ⟨hI,hR⟩:=hI
     ·have qk:f 12=true:=by simp [hr]
      obtain ⟨a,Ha,Ea,Ba⟩:=ChainE.ex hI qk
      have ek:vals 12=.slice (some ⟨a.1,0,none⟩) 1 a.2:=Ea 12 (by simp [hr])
      have ep:vals 14=.pointer (some ⟨g,46,none⟩):=Ea 14 (by simp [hr])
      have q1:∀ j,([4,9]:List Nat).contains j=true→f j=true:=by
       intro j hj
       simp at hj
       rcases hj with rfl|rfl<;>simp [hr]
      have B0:=ChainE.old hI hf
      have hag:g<a.1:=by have:=Held.low' Ha;omega
      refine does_cell_store (cs':=arrCells d s now (.slice (some ⟨a.1,0,none⟩) 1 a.2)) B0 _ _ _ rfl 46 ep (.slice (some ⟨a.1,0,none⟩) 1 a.2) ek rfl (by kernel_rfl) (by rw [arr_size];decide) rfl ?_
      intro z tz Bz
      exact ⟨ChainE.put hI (by decide) qk q1 a Ea tz Bz (Held.touch Ha tz (by omega)) _ trivial,(hR.touch tz (by omega)).step 15 (by decide) _⟩
     ·have e13:vals 13=.pointer (some ⟨g,0,none⟩):=ChainE.val hI (j:=13) (by simp [hr]) (fun _ _ h=>h)
      simp [does,doesUpon,go_sem,e13]
      exact ⟨ChainE.step hI 14 (by decide) (by decide) _ (fun _=>rfl),hR.step 14 (by decide) _⟩
     ·have e0:vals 0=.pointer (some ⟨g,0,none⟩):=ChainE.val hI (j:=0) (by simp [hr]) (fun _ _ h=>h)
      simp [does,doesUpon,go_sem,e0]
      exact ⟨ChainE.step hI 13 (by decide) (by decide) _ (fun _=>rfl),hR.step 13 (by decide) _⟩
     ·have e4:vals 4=.slice (some ⟨gs,0,none⟩) 0 0:=ChainE.val hI (j:=4) (by simp [hr]) (fun _ _ h=>h)
      obtain ⟨hb,eb,Hb⟩:=hR (by simp [hr])
      have Lx:=L.touch (ChainE.touch hI) (by omega)
      have hsz:=(ChainE.touch hI).size
      refine does_app_e laidG _ _ rfl e4 Lx eb Hb.reads (by decide) (by omega) (by omega) ?_
      intro g' c' z T' s' hg'
      exact ⟨ChainE.call hI (by decide) hf _ (g',c') s' (T'.raise (by omega)) rfl,(hR.since s').step 12 (by decide) _⟩
     ·have e10:vals 10=.agg (sgCells (rstSg s.ak)):=ChainE.val hI (j:=10) (by simp [hr]) (fun _ _ h=>h)
      have h1:=(Since.refl x).alloc (.cells (sgCells (rstSg s.ak)) 41)
      refine does_build1 (rstSg s.ak) _ rfl e10 ?_
      exact ⟨ChainE.step (ChainE.since hI h1 (fun a h=>Held.since h h1)) 11 (by decide) (by decide) _ (fun _=>⟨_,rfl⟩),RowI.made (ChainE.touch hI).size⟩
     ·have e9:vals 9=.int .u32 s.ak:=ChainE.val hI (j:=9) (by simp [hr]) (fun _ _ h=>h)
      simp [does,doesUpon,go_sem,e9]
      exact ⟨ChainE.step hI 10 (by decide) (by decide) _ (fun _=>rfl),hR.step 10 (by decide) _⟩
     ·have e8:vals 8=.pointer (some ⟨g,40,none⟩):=ChainE.val hI (j:=8) (by simp [hr]) (fun _ _ h=>h)
      have B0:=ChainE.old hI (ChainE.no_b hI hf (by decide))
      have fl:x.cell? ⟨g,40,none⟩=some (.int .u32 s.ak):=B0.cell 40
      simp [does,doesUpon,go_sem,e8,fl]
      exact ⟨ChainE.step hI 9 (by decide) (by decide) _ (fun _=>rfl),hR.step 9 (by decide) _⟩
     ·have e7:vals 7=.pointer (some ⟨g,37,none⟩):=ChainE.val hI (j:=7) (by simp [hr]) (fun _ _ h=>h)
      simp [does,doesUpon,go_sem,e7]
      exact ⟨ChainE.step hI 8 (by decide) (by decide) _ (fun _=>rfl),hR.step 8 (by decide) _⟩
     ·have e6:vals 6=.pointer (some ⟨g,0,none⟩):=ChainE.val hI (j:=6) (by simp [hr]) (fun _ _ h=>h)
      simp [does,doesUpon,go_sem,e6]
      exact ⟨ChainE.step hI 7 (by decide) (by decide) _ (fun _=>rfl),hR.step 7 (by decide) _⟩
     ·have e5:vals 5=.pointer (some ⟨g,0,none⟩):=ChainE.val hI (j:=5) (by simp [hr]) (fun _ _ h=>h)
      simp [does,doesUpon,go_sem,e5]
      exact ⟨ChainE.step hI 6 (by decide) (by decide) _ (fun _=>rfl),hR.step 6 (by decide) _⟩
     ·simp [does,doesUpon,go_sem]
      exact ⟨ChainE.step hI 5 (by decide) (by decide) _ (fun _=>rfl),hR.step 5 (by decide) _⟩
     ·have e3:vals 3=.pointer (some ⟨g,46,none⟩):=ChainE.val hI (j:=3) (by simp [hr]) (fun _ _ h=>h)
      have B0:=ChainE.old hI (ChainE.no_b hI hf (by decide))
      have fl:x.cell? ⟨g,46,none⟩=some (.slice (some ⟨gs,0,none⟩) 0 0):=B0.cell 46
      simp [does,doesUpon,go_sem,e3,fl]
      exact ⟨ChainE.step hI 4 (by decide) (by decide) _ (fun _=>rfl),hR.step 4 (by decide) _⟩
     ·have e2:vals 2=.pointer (some ⟨g,0,none⟩):=ChainE.val hI (j:=2) (by simp [hr]) (fun _ _ h=>h)
      simp [does,doesUpon,go_sem,e2]
      exact ⟨ChainE.step hI 3 (by decide) (by decide) _ (fun _=>rfl),hR.step 3 (by decide) _⟩
     ·have e1:vals 1=.pointer (some ⟨g,0,none⟩):=ChainE.val hI (j:=1) (by simp [hr]) (fun _ _ h=>h)
      simp [does,doesUpon,go_sem,e1]
      exact ⟨ChainE.step hI 2 (by decide) (by decide) _ (fun _=>rfl),hR.step 2 (by decide) _⟩
     ·simp [does,doesUpon,go_sem]
      exact ⟨ChainE.step hI 1 (by decide) (by decide) _ (fun _=>rfl),hR.step 1 (by decide) _⟩
     ·simp [does,doesUpon,go_sem]
      exact ⟨ChainE.step hI 0 (by decide) (by decide) _ (fun _=>rfl),hR.step 0 (by decide) _⟩
    case refine_2=>
     intro f qv6 qw5 hI hf
     obtain ⟨hI,-⟩:=hI
     obtain ⟨⟨gn,cn⟩,Hn,Ea,Ba⟩:=ChainE.ex hI (hf 12 (by decide))
     have Bn:=Ba (hf 15 (by decide))
     have hT:=ChainE.touch hI
     clear hI Ba
     have hv0:qv6 0=.pointer (some ⟨g,0,none⟩):=Ea 0 (hf 0 (by decide))
     have hv1:qv6 1=.pointer (some ⟨g,0,none⟩):=Ea 1 (hf 1 (by decide))
     have hv2:qv6 2=.pointer (some ⟨g,0,none⟩):=Ea 2 (hf 2 (by decide))
     have hv3:qv6 3=.pointer (some ⟨g,46,none⟩):=Ea 3 (hf 3 (by decide))
     have hv4:qv6 4=.slice (some ⟨gs,0,none⟩) 0 0:=Ea 4 (hf 4 (by decide))
     have hv5:qv6 5=.pointer (some ⟨g,0,none⟩):=Ea 5 (hf 5 (by decide))
     have hv6:qv6 6=.pointer (some ⟨g,0,none⟩):=Ea 6 (hf 6 (by decide))
     have hv7:qv6 7=.pointer (some ⟨g,37,none⟩):=Ea 7 (hf 7 (by decide))
     have hv8:qv6 8=.pointer (some ⟨g,40,none⟩):=Ea 8 (hf 8 (by decide))
     have hv9:qv6 9=.int .u32 s.ak:=Ea 9 (hf 9 (by decide))
     have hv10:qv6 10=.agg (sgCells (rstSg s.ak)):=Ea 10 (hf 10 (by decide))
     have hv13:qv6 13=.pointer (some ⟨g,0,none⟩):=Ea 13 (hf 13 (by decide))
     have hv14:qv6 14=.pointer (some ⟨g,46,none⟩):=Ea 14 (hf 14 (by decide))
     have hv12:qv6 12=.slice (some ⟨gn,0,none⟩) 1 cn:=Ea 12 (hf 12 (by decide))
     obtain ⟨hb,hv11⟩:∃ hb,qv6 11=.slice (some ⟨hb,0,none⟩) 1 1:=Ea 11 (hf 11 (by decide))
     clear Ea hf
     simp only [hv0,hv1,hv2,hv3,hv4,hv5,hv6,hv7,hv8,hv9,hv10,hv11,hv12,hv13,hv14]
     clear hv0 hv1 hv2 hv3 hv4 hv5 hv6 hv7 hv8 hv9 hv10 hv11 hv12 hv13 hv14
     clear A L
     replace Bn:Blk g qw5 (arrCells d s now (.slice (some ⟨gn,0,none⟩) 1 cn)):=Bn
     replace Hn:Held shG qw5 qw3.heap.size gn 1 cn [(rstSg s.ak)]:=Hn
     have hlo:=Hn.low'
     have Hn_l:=Hn.lt
     replace Hn:=Hn.raise (show B≤gn by omega)
     replace P:=P.touch hT (by omega)
     replace G:=G.touch hT (by omega)
     have hT_s:=hT.size
     clear hT
     first|(simp only [Exit.then];rename_i hK;refine hK _ _ ?_;clear hK)|skip
     have hfin:Hid (cX=d):=hX.out
     have hfx:Hid (xX=[rstSg s.ak]):=hXx.out
     go_wp2_with (fail)
     refine bodyPost_end (v:=.tuple #[]) (results_none rfl _ _ _) rfl ⟨rfl,G,gn,1,cn,?_,?_,P,by omega,by omega⟩
     ·rw [hfin.out]
      exact Bn
     ·rw [hfx.out]
      exact Hn
  case false=>
   cases f4
   case true=>
    refine wp_region_qs (wb:=w) (by kernel_rfl) (by kernel_rfl) (Since.refl _) ?_
    refine qV (pX g 0) ?_
    refine q_call (by kernel_rfl) 102 #[.pointer (some ⟨g,0,none⟩),.int .i64 16] (.bool true) (fun x=>by kernel_rfl) (fun x hx=>hh16 x (A.since hx)) ?_
    refine qV (bT) ?_
    refine qV (pX g 0) ?_
    refine qV (pX g 0) ?_
    refine qV (pX g 37) ?_
    refine qV (pX g 40) ?_
    refine qC ⟨g,40,none⟩ (uJ s.ak) (fun y hy=>(A.since hy).cell 40) ?_
    refine qV (pX g 0) ?_
    refine qV (pX g 0) ?_
    refine qV (pX g 0) ?_
    refine qV (pX g 1) ?_
    refine qC ⟨g,1,none⟩ (uJ d.iss) (fun y hy=>(A.since hy).cell 1) ?_
    refine qV (uJ ((d.iss+1) % 4294967296)) ?_
    refine q_val (by kernel_rfl) (.bool false) (fun x hx=>by rw [show false=(s.ak != (d.iss+1) % 4294967296) from hne.out];kernel_rfl) ?_
    refine qV (bF) ?_
    refine qV (bF) ?_
    refine q_frame (a':={tmps:=#[pX g 0,U,bF,pX g 0,bT,bT,pX g 0,pX g 0,pX g 37,pX g 40,uJ s.ak,pX g 0,pX g 0,pX g 0,pX g 1,uJ d.iss,uJ ((d.iss+1) % 4294967296),bF,bF,U,U,U,U,U,U,U,U,U,U,U,U,U,U,U,U,U,U,U,U,U,U,U,U,U,U,U,U,U,U,U,U],defers:=[]}) (by kernel_rfl) ?_
    refine q_nil ?_
    intro qw1 qh2
    replace A:=A.since qh2
    replace L:=L.since qh2
    replace P:=P.since qh2
    replace G:=G.trans qh2
    have qh2_s:=qh2.size
    go_upto_region 3 with (fail)
    refine vR ?_
    refine vV (pX g 0) ?_
    refine vK (hh4 _ A) ?_
    intro qw3 qg4
    replace A:=A.since qg4
    replace L:=L.since qg4
    replace P:=P.since qg4
    replace G:=G.trans qg4
    have qg4_s:=qg4.size
    refine vV (bT) ?_
    refine vE #[pX g 0,U,bF,pX g 0,bT,bT,pX g 0,pX g 0,pX g 37,pX g 40,uJ s.ak,pX g 0,pX g 0,pX g 0,pX g 1,uJ d.iss,uJ ((d.iss+1) % 4294967296),bF,bF,U,U,U,U,U,U,U,U,U,U,U,U,U,U,U,U,U,U,bT,pX g 0,bT,U,U,U,U,U,U,U,U,U,U,U] ?_
    go_upto_region 4 with (fail)
    refine vR ?_
    refine vV (pX g 0) ?_
    refine vK (hh16 _ A) ?_
    intro qw5 qg6
    replace A:=A.since qg6
    replace L:=L.since qg6
    replace P:=P.since qg6
    replace G:=G.trans qg6
    have qg6_s:=qg6.size
    refine vE #[pX g 0,U,bF,pX g 0,bT,bT,pX g 0,pX g 0,pX g 37,pX g 40,uJ s.ak,pX g 0,pX g 0,pX g 0,pX g 1,uJ d.iss,uJ ((d.iss+1) % 4294967296),bF,bF,U,U,U,U,U,U,U,U,U,U,U,U,U,U,U,U,U,U,bT,pX g 0,bT,pX g 0,bT,U,U,U,U,U,U,U,U,U] ?_
    go_upto_region 5 with (fail)
    refine vR ?_
    refine vV (pX g 0) ?_
    refine vV (pX g 0) ?_
    refine vV (pX g 0) ?_
    refine vC (implFinishA g _ s now _ 2 _ A) ?_
    rintro _ qw7 ⟨rfl,qt8,qB9⟩
    refine ⟨_,rfl,?_⟩
    clear A
    replace L:=L.touch qt8 (by omega)
    replace P:=P.touch qt8 (by omega)
    replace G:=G.touch qt8 (by omega)
    have qt8_s:=qt8.size
    refine vE #[pX g 0,U,bF,pX g 0,bT,bT,pX g 0,pX g 0,pX g 37,pX g 40,uJ s.ak,pX g 0,pX g 0,pX g 0,pX g 1,uJ d.iss,uJ ((d.iss+1) % 4294967296),bF,bF,U,U,U,U,U,U,U,U,U,U,U,U,U,U,U,U,U,U,bT,pX g 0,bT,pX g 0,bT,pX g 0,pX g 0,pX g 0,.tuple #[],U,U,U,U,U] ?_
    have hfin:Hid (cX=endC d 2):=hX.out
    have hfx:Hid (xX=[]):=hXx.out
    go_wp2_with (fail)
    refine bodyPost_end (v:=.tuple #[]) (results_none rfl _ _ _) rfl ⟨rfl,G,gs,0,0,?_,?_,P,by omega,by omega⟩
    ·rw [hfin.out]
     exact qB9
    ·rw [hfx.out]
     exact L
   case false=>
    cases f2
    case true=>
     refine wp_region_qs (wb:=w) (by kernel_rfl) (by kernel_rfl) (Since.refl _) ?_
     refine qV (pX g 0) ?_
     refine q_call (by kernel_rfl) 102 #[.pointer (some ⟨g,0,none⟩),.int .i64 16] (.bool true) (fun x=>by kernel_rfl) (fun x hx=>hh16 x (A.since hx)) ?_
     refine qV (bT) ?_
     refine qV (pX g 0) ?_
     refine qV (pX g 0) ?_
     refine qV (pX g 37) ?_
     refine qV (pX g 40) ?_
     refine qC ⟨g,40,none⟩ (uJ s.ak) (fun y hy=>(A.since hy).cell 40) ?_
     refine qV (pX g 0) ?_
     refine qV (pX g 0) ?_
     refine qV (pX g 0) ?_
     refine qV (pX g 1) ?_
     refine qC ⟨g,1,none⟩ (uJ d.iss) (fun y hy=>(A.since hy).cell 1) ?_
     refine qV (uJ ((d.iss+1) % 4294967296)) ?_
     refine q_val (by kernel_rfl) (.bool false) (fun x hx=>by rw [show false=(s.ak != (d.iss+1) % 4294967296) from hne.out];kernel_rfl) ?_
     refine qV (bF) ?_
     refine qV (bF) ?_
     refine q_frame (a':={tmps:=#[pX g 0,U,bF,pX g 0,bT,bT,pX g 0,pX g 0,pX g 37,pX g 40,uJ s.ak,pX g 0,pX g 0,pX g 0,pX g 1,uJ d.iss,uJ ((d.iss+1) % 4294967296),bF,bF,U,U,U,U,U,U,U,U,U,U,U,U,U,U,U,U,U,U,U,U,U,U,U,U,U,U,U,U,U,U,U,U],defers:=[]}) (by kernel_rfl) ?_
     refine q_nil ?_
     intro qw1 qh2
     replace A:=A.since qh2
     replace L:=L.since qh2
     replace P:=P.since qh2
     replace G:=G.trans qh2
     have qh2_s:=qh2.size
     go_upto_region 3 with (fail)
     refine vR ?_
     refine vV (pX g 0) ?_
     refine vK (hh4 _ A) ?_
     intro qw3 qg4
     replace A:=A.since qg4
     replace L:=L.since qg4
     replace P:=P.since qg4
     replace G:=G.trans qg4
     have qg4_s:=qg4.size
     refine vV (bF) ?_
     refine vE #[pX g 0,U,bF,pX g 0,bT,bT,pX g 0,pX g 0,pX g 37,pX g 40,uJ s.ak,pX g 0,pX g 0,pX g 0,pX g 1,uJ d.iss,uJ ((d.iss+1) % 4294967296),bF,bF,U,U,U,U,U,U,U,U,U,U,U,U,U,U,U,U,U,U,bF,pX g 0,bF,U,U,U,U,U,U,U,U,U,U,U] ?_
     go_upto_region 6 with (fail)
     refine vR ?_
     refine vV (pX g 0) ?_
     refine vK (hh2 _ A) ?_
     intro qw5 qg6
     replace A:=A.since qg6
     replace L:=L.since qg6
     replace P:=P.since qg6
     replace G:=G.trans qg6
     have qg6_s:=qg6.size
     refine vV (bT) ?_
     refine vE #[pX g 0,U,bF,pX g 0,bT,bT,pX g 0,pX g 0,pX g 37,pX g 40,uJ s.ak,pX g 0,pX g 0,pX g 0,pX g 1,uJ d.iss,uJ ((d.iss+1) % 4294967296),bF,bF,U,U,U,U,U,U,U,U,U,U,U,U,U,U,U,U,U,U,bF,pX g 0,bF,U,U,U,U,U,U,bT,pX g 0,bT,U,U] ?_
     go_upto_region 7 with (fail)
     refine vR ?_
     refine vV (pX g 0) ?_
     refine vC (implMet g d s now B pg gs ps h0 h1 h2 h3 hf _ A L P hgB n1 n2 n3) ?_
     rintro _ wz ⟨rfl,bz,gz,nz,cz,Az,Lz,Pz,i1,i2⟩
     refine ⟨_,rfl,?_⟩
     replace G:=G.base bz
     refine vE #[pX g 0,U,bF,pX g 0,bT,bT,pX g 0,pX g 0,pX g 37,pX g 40,uJ s.ak,pX g 0,pX g 0,pX g 0,pX g 1,uJ d.iss,uJ ((d.iss+1) % 4294967296),bF,bF,U,U,U,U,U,U,U,U,U,U,U,U,U,U,U,U,U,U,bF,pX g 0,bF,U,U,U,U,U,U,bT,pX g 0,bT,pX g 0,.tuple #[]] ?_
     have hfin:Hid (cX=metX d s now):=hX.out
     have hfx:Hid (xX=metS d s):=hXx.out
     go_wp2_with (fail)
     refine bodyPost_end (v:=.tuple #[]) (results_none rfl _ _ _) rfl ⟨rfl,G,gz,nz,cz,?_,?_,Pz,i1,i2⟩
     ·rw [hfin.out]
      exact Az
     ·rw [hfx.out]
      exact Lz
    case false=>
     refine wp_region_qs (wb:=w) (by kernel_rfl) (by kernel_rfl) (Since.refl _) ?_
     refine qV (pX g 0) ?_
     refine q_call (by kernel_rfl) 102 #[.pointer (some ⟨g,0,none⟩),.int .i64 16] (.bool true) (fun x=>by kernel_rfl) (fun x hx=>hh16 x (A.since hx)) ?_
     refine qV (bT) ?_
     refine qV (pX g 0) ?_
     refine qV (pX g 0) ?_
     refine qV (pX g 37) ?_
     refine qV (pX g 40) ?_
     refine qC ⟨g,40,none⟩ (uJ s.ak) (fun y hy=>(A.since hy).cell 40) ?_
     refine qV (pX g 0) ?_
     refine qV (pX g 0) ?_
     refine qV (pX g 0) ?_
     refine qV (pX g 1) ?_
     refine qC ⟨g,1,none⟩ (uJ d.iss) (fun y hy=>(A.since hy).cell 1) ?_
     refine qV (uJ ((d.iss+1) % 4294967296)) ?_
     refine q_val (by kernel_rfl) (.bool false) (fun x hx=>by rw [show false=(s.ak != (d.iss+1) % 4294967296) from hne.out];kernel_rfl) ?_
     refine qV (bF) ?_
     refine qV (bF) ?_
     refine q_frame (a':={tmps:=#[pX g 0,U,bF,pX g 0,bT,bT,pX g 0,pX g 0,pX g 37,pX g 40,uJ s.ak,pX g 0,pX g 0,pX g 0,pX g 1,uJ d.iss,uJ ((d.iss+1) % 4294967296),bF,bF,U,U,U,U,U,U,U,U,U,U,U,U,U,U,U,U,U,U,U,U,U,U,U,U,U,U,U,U,U,U,U,U],defers:=[]}) (by kernel_rfl) ?_
     refine q_nil ?_
     intro qw1 qh2
     replace A:=A.since qh2
     replace L:=L.since qh2
     replace P:=P.since qh2
     replace G:=G.trans qh2
     have qh2_s:=qh2.size
     go_upto_region 3 with (fail)
     refine vR ?_
     refine vV (pX g 0) ?_
     refine vK (hh4 _ A) ?_
     intro qw3 qg4
     replace A:=A.since qg4
     replace L:=L.since qg4
     replace P:=P.since qg4
     replace G:=G.trans qg4
     have qg4_s:=qg4.size
     refine vV (bF) ?_
     refine vE #[pX g 0,U,bF,pX g 0,bT,bT,pX g 0,pX g 0,pX g 37,pX g 40,uJ s.ak,pX g 0,pX g 0,pX g 0,pX g 1,uJ d.iss,uJ ((d.iss+1) % 4294967296),bF,bF,U,U,U,U,U,U,U,U,U,U,U,U,U,U,U,U,U,U,bF,pX g 0,bF,U,U,U,U,U,U,U,U,U,U,U] ?_
     go_upto_region 6 with (fail)
     refine vR ?_
     refine vV (pX g 0) ?_
     refine vK (hh2 _ A) ?_
     intro qw5 qg6
     replace A:=A.since qg6
     replace L:=L.since qg6
     replace P:=P.since qg6
     replace G:=G.trans qg6
     have qg6_s:=qg6.size
     refine vV (bF) ?_
     refine vE #[pX g 0,U,bF,pX g 0,bT,bT,pX g 0,pX g 0,pX g 37,pX g 40,uJ s.ak,pX g 0,pX g 0,pX g 0,pX g 1,uJ d.iss,uJ ((d.iss+1) % 4294967296),bF,bF,U,U,U,U,U,U,U,U,U,U,U,U,U,U,U,U,U,U,bF,pX g 0,bF,U,U,U,U,U,U,bF,pX g 0,bF,U,U] ?_
     have hfin:Hid (cX=d):=hX.out
     have hfx:Hid (xX=[]):=hXx.out
     go_wp2_with (fail)
     refine bodyPost_end (v:=.tuple #[]) (results_none rfl _ _ _) rfl ⟨rfl,G,gs,0,0,?_,?_,P,by omega,by omega⟩
     ·rw [hfin.out]
      exact A
     ·rw [hfx.out]
      exact L
 case false=>
  cases f4
  case true=>
   refine wp_region_qs (wb:=w) (by kernel_rfl) (by kernel_rfl) (Since.refl _) ?_
   refine qV (pX g 0) ?_
   refine q_call (by kernel_rfl) 102 #[.pointer (some ⟨g,0,none⟩),.int .i64 16] (.bool false) (fun x=>by kernel_rfl) (fun x hx=>hh16 x (A.since hx)) ?_
   refine qV (bF) ?_
   refine qS ?_
   refine qS ?_
   refine qS ?_
   refine qS ?_
   refine qS ?_
   refine qS ?_
   refine qS ?_
   refine qS ?_
   refine qS ?_
   refine qS ?_
   refine qS ?_
   refine qS ?_
   refine qV (bF) ?_
   refine qV (bF) ?_
   refine q_frame (a':={tmps:=#[pX g 0,U,bF,pX g 0,bF,bF,U,U,U,U,U,U,U,U,U,U,U,U,bF,U,U,U,U,U,U,U,U,U,U,U,U,U,U,U,U,U,U,U,U,U,U,U,U,U,U,U,U,U,U,U,U],defers:=[]}) (by kernel_rfl) ?_
   refine q_nil ?_
   intro qw1 qh2
   replace A:=A.since qh2
   replace L:=L.since qh2
   replace P:=P.since qh2
   replace G:=G.trans qh2
   have qh2_s:=qh2.size
   go_upto_region 3 with (fail)
   refine vR ?_
   refine vV (pX g 0) ?_
   refine vK (hh4 _ A) ?_
   intro qw3 qg4
   replace A:=A.since qg4
   replace L:=L.since qg4
   replace P:=P.since qg4
   replace G:=G.trans qg4
   have qg4_s:=qg4.size
   refine vV (bT) ?_
   refine vE #[pX g 0,U,bF,pX g 0,bF,bF,U,U,U,U,U,U,U,U,U,U,U,U,bF,U,U,U,U,U,U,U,U,U,U,U,U,U,U,U,U,U,U,bT,pX g 0,bT,U,U,U,U,U,U,U,U,U,U,U] ?_
   go_upto_region 4 with (fail)
   refine vR ?_
   refine vV (pX g 0) ?_
   refine vK (hh16 _ A) ?_
   intro qw5 qg6
   replace A:=A.since qg6
   replace L:=L.since qg6
   replace P:=P.since qg6
   replace G:=G.trans qg6
   have qg6_s:=qg6.size
   refine vE #[pX g 0,U,bF,pX g 0,bF,bF,U,U,U,U,U,U,U,U,U,U,U,U,bF,U,U,U,U,U,U,U,U,U,U,U,U,U,U,U,U,U,U,bT,pX g 0,bT,pX g 0,bF,U,U,U,U,U,U,U,U,U] ?_
   have hfin:Hid (cX=d):=hX.out
   have hfx:Hid (xX=[]):=hXx.out
   go_wp2_with (fail)
   refine bodyPost_end (v:=.tuple #[]) (results_none rfl _ _ _) rfl ⟨rfl,G,gs,0,0,?_,?_,P,by omega,by omega⟩
   ·rw [hfin.out]
    exact A
   ·rw [hfx.out]
    exact L
  case false=>
   cases f2
   case true=>
    refine wp_region_qs (wb:=w) (by kernel_rfl) (by kernel_rfl) (Since.refl _) ?_
    refine qV (pX g 0) ?_
    refine q_call (by kernel_rfl) 102 #[.pointer (some ⟨g,0,none⟩),.int .i64 16] (.bool false) (fun x=>by kernel_rfl) (fun x hx=>hh16 x (A.since hx)) ?_
    refine qV (bF) ?_
    refine qS ?_
    refine qS ?_
    refine qS ?_
    refine qS ?_
    refine qS ?_
    refine qS ?_
    refine qS ?_
    refine qS ?_
    refine qS ?_
    refine qS ?_
    refine qS ?_
    refine qS ?_
    refine qV (bF) ?_
    refine qV (bF) ?_
    refine q_frame (a':={tmps:=#[pX g 0,U,bF,pX g 0,bF,bF,U,U,U,U,U,U,U,U,U,U,U,U,bF,U,U,U,U,U,U,U,U,U,U,U,U,U,U,U,U,U,U,U,U,U,U,U,U,U,U,U,U,U,U,U,U],defers:=[]}) (by kernel_rfl) ?_
    refine q_nil ?_
    intro qw1 qh2
    replace A:=A.since qh2
    replace L:=L.since qh2
    replace P:=P.since qh2
    replace G:=G.trans qh2
    have qh2_s:=qh2.size
    go_upto_region 3 with (fail)
    refine vR ?_
    refine vV (pX g 0) ?_
    refine vK (hh4 _ A) ?_
    intro qw3 qg4
    replace A:=A.since qg4
    replace L:=L.since qg4
    replace P:=P.since qg4
    replace G:=G.trans qg4
    have qg4_s:=qg4.size
    refine vV (bF) ?_
    refine vE #[pX g 0,U,bF,pX g 0,bF,bF,U,U,U,U,U,U,U,U,U,U,U,U,bF,U,U,U,U,U,U,U,U,U,U,U,U,U,U,U,U,U,U,bF,pX g 0,bF,U,U,U,U,U,U,U,U,U,U,U] ?_
    go_upto_region 6 with (fail)
    refine vR ?_
    refine vV (pX g 0) ?_
    refine vK (hh2 _ A) ?_
    intro qw5 qg6
    replace A:=A.since qg6
    replace L:=L.since qg6
    replace P:=P.since qg6
    replace G:=G.trans qg6
    have qg6_s:=qg6.size
    refine vV (bT) ?_
    refine vE #[pX g 0,U,bF,pX g 0,bF,bF,U,U,U,U,U,U,U,U,U,U,U,U,bF,U,U,U,U,U,U,U,U,U,U,U,U,U,U,U,U,U,U,bF,pX g 0,bF,U,U,U,U,U,U,bT,pX g 0,bT,U,U] ?_
    go_upto_region 7 with (fail)
    refine vR ?_
    refine vV (pX g 0) ?_
    refine vC (implMet g d s now B pg gs ps h0 h1 h2 h3 hf _ A L P hgB n1 n2 n3) ?_
    rintro _ wz ⟨rfl,bz,gz,nz,cz,Az,Lz,Pz,i1,i2⟩
    refine ⟨_,rfl,?_⟩
    replace G:=G.base bz
    refine vE #[pX g 0,U,bF,pX g 0,bF,bF,U,U,U,U,U,U,U,U,U,U,U,U,bF,U,U,U,U,U,U,U,U,U,U,U,U,U,U,U,U,U,U,bF,pX g 0,bF,U,U,U,U,U,U,bT,pX g 0,bT,pX g 0,.tuple #[]] ?_
    have hfin:Hid (cX=metX d s now):=hX.out
    have hfx:Hid (xX=metS d s):=hXx.out
    go_wp2_with (fail)
    refine bodyPost_end (v:=.tuple #[]) (results_none rfl _ _ _) rfl ⟨rfl,G,gz,nz,cz,?_,?_,Pz,i1,i2⟩
    ·rw [hfin.out]
     exact Az
    ·rw [hfx.out]
     exact Lz
   case false=>
    refine wp_region_qs (wb:=w) (by kernel_rfl) (by kernel_rfl) (Since.refl _) ?_
    refine qV (pX g 0) ?_
    refine q_call (by kernel_rfl) 102 #[.pointer (some ⟨g,0,none⟩),.int .i64 16] (.bool false) (fun x=>by kernel_rfl) (fun x hx=>hh16 x (A.since hx)) ?_
    refine qV (bF) ?_
    refine qS ?_
    refine qS ?_
    refine qS ?_
    refine qS ?_
    refine qS ?_
    refine qS ?_
    refine qS ?_
    refine qS ?_
    refine qS ?_
    refine qS ?_
    refine qS ?_
    refine qS ?_
    refine qV (bF) ?_
    refine qV (bF) ?_
    refine q_frame (a':={tmps:=#[pX g 0,U,bF,pX g 0,bF,bF,U,U,U,U,U,U,U,U,U,U,U,U,bF,U,U,U,U,U,U,U,U,U,U,U,U,U,U,U,U,U,U,U,U,U,U,U,U,U,U,U,U,U,U,U,U],defers:=[]}) (by kernel_rfl) ?_
    refine q_nil ?_
    intro qw1 qh2
    replace A:=A.since qh2
    replace L:=L.since qh2
    replace P:=P.since qh2
    replace G:=G.trans qh2
    have qh2_s:=qh2.size
    go_upto_region 3 with (fail)
    refine vR ?_
    refine vV (pX g 0) ?_
    refine vK (hh4 _ A) ?_
    intro qw3 qg4
    replace A:=A.since qg4
    replace L:=L.since qg4
    replace P:=P.since qg4
    replace G:=G.trans qg4
    have qg4_s:=qg4.size
    refine vV (bF) ?_
    refine vE #[pX g 0,U,bF,pX g 0,bF,bF,U,U,U,U,U,U,U,U,U,U,U,U,bF,U,U,U,U,U,U,U,U,U,U,U,U,U,U,U,U,U,U,bF,pX g 0,bF,U,U,U,U,U,U,U,U,U,U,U] ?_
    go_upto_region 6 with (fail)
    refine vR ?_
    refine vV (pX g 0) ?_
    refine vK (hh2 _ A) ?_
    intro qw5 qg6
    replace A:=A.since qg6
    replace L:=L.since qg6
    replace P:=P.since qg6
    replace G:=G.trans qg6
    have qg6_s:=qg6.size
    refine vV (bF) ?_
    refine vE #[pX g 0,U,bF,pX g 0,bF,bF,U,U,U,U,U,U,U,U,U,U,U,U,bF,U,U,U,U,U,U,U,U,U,U,U,U,U,U,U,U,U,U,bF,pX g 0,bF,U,U,U,U,U,U,bF,pX g 0,bF,U,U] ?_
    have hfin:Hid (cX=d):=hX.out
    have hfx:Hid (xX=[]):=hXx.out
    go_wp2_with (fail)
    refine bodyPost_end (v:=.tuple #[]) (results_none rfl _ _ _) rfl ⟨rfl,G,gs,0,0,?_,?_,P,by omega,by omega⟩
    ·rw [hfin.out]
     exact A
    ·rw [hfx.out]
     exact L
end Go.Proofs.YtmigalhmlofbkaaGreatDoor
