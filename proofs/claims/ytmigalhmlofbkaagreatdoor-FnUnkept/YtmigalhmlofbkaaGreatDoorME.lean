/- A part of the proof. -/
import Derived.Test.YtmigalhmlofbkaaGreatDoorArrD
import Derived.Test.YtmigalhmlofbkaaGreatDoorInPutI
set_option linter.unusedVariables false
set_option maxRecDepth 20000
set_option maxHeartbeats 16000000
namespace Go.Proofs.YtmigalhmlofbkaaGreatDoor
open Go.ChangeShapes Go.WideShapes Go.ChangeAt Go.RowKit Go.Deep
def listB (c:Cn):Bool:=(c.st == 3) || ((c.st == 4) || (c.st == 5))
theorem implListens (c:Cn) (w:World) :
  Calls Tryz.prog 111 #[.agg (cnCells c)] w fun e w'=>e=.returned (.bool (listB c))∧Since w w':=by
 obtain ⟨s3,h3⟩:∃ q,Hid (q=(c.st == 3)):=⟨_,rfl⟩
 obtain ⟨s4,h4⟩:∃ q,Hid (q=(c.st == 4)):=⟨_,rfl⟩
 obtain ⟨s5,h5⟩:∃ q,Hid (q=(c.st == 5)):=⟨_,rfl⟩
 obtain ⟨v,hv0⟩:∃ q,Hid (q=listB c):=⟨_,rfl⟩
 rw [← hv0.out]
 have hv:Hid (v=(s3 || (s4 || s5))):=by
  show v=_
  rw [hv0.out,h3.out,h4.out,h5.out]
  rfl
 have G:=(Since.refl w).alloc (.cells (cnCells c) 39)
 have A:=Blk.new w (cnCells c) 39
 go_enter Tryz.func111,Tryz.ntmps111
 go_upto_region 1 with (fail)
 generalize w.alloc (.cells (cnCells c) 39)=x0 at A G ⊢
 cases s3
 case true=>
  refine vR ?_
  refine vV (pX w.heap.size 0) ?_
  refine vD (iJ c.st) (A.cell 0) ?_
  refine vV (.bool true) ?_ (hrun:=by rw [show true=(c.st == 3) from h3.out];kernel_rfl)
  refine vV (bT) ?_
  refine vS ?_
  refine vS ?_
  refine vS ?_
  refine vV (bT) ?_
  refine vV (bT) ?_
  refine vS ?_
  refine vS ?_
  refine vS ?_
  refine vV (bT) ?_
  refine vV (bT) ?_
  refine vE #[.agg (cnCells c),pX w.heap.size 0,bT,pX w.heap.size 0,iJ c.st,bT,bT,U,U,U,bT,bT,U,U,U,bT] ?_
  go_wp2_with (fail)
  go_ret
  exact ⟨by rw [show v=true from hv.out];rfl,G⟩
 case false=>
  cases s4
  case true=>
   refine vR ?_
   refine vV (pX w.heap.size 0) ?_
   refine vD (iJ c.st) (A.cell 0) ?_
   refine vV (.bool false) ?_ (hrun:=by rw [show false=(c.st == 3) from h3.out];kernel_rfl)
   refine vV (bF) ?_
   refine vV (pX w.heap.size 0) ?_
   refine vD (iJ c.st) (A.cell 0) ?_
   refine vV (.bool true) ?_ (hrun:=by rw [show true=(c.st == 4) from h4.out];kernel_rfl)
   refine vV (bT) ?_
   refine vV (bT) ?_
   refine vS ?_
   refine vS ?_
   refine vS ?_
   refine vV (bT) ?_
   refine vV (bT) ?_
   refine vE #[.agg (cnCells c),pX w.heap.size 0,bT,pX w.heap.size 0,iJ c.st,bF,bF,pX w.heap.size 0,iJ c.st,bT,bT,bT,U,U,U,bT] ?_
   go_wp2_with (fail)
   go_ret
   exact ⟨by rw [show v=true from hv.out];rfl,G⟩
  case false=>
   cases s5
   case true=>
    refine vR ?_
    refine vV (pX w.heap.size 0) ?_
    refine vD (iJ c.st) (A.cell 0) ?_
    refine vV (.bool false) ?_ (hrun:=by rw [show false=(c.st == 3) from h3.out];kernel_rfl)
    refine vV (bF) ?_
    refine vV (pX w.heap.size 0) ?_
    refine vD (iJ c.st) (A.cell 0) ?_
    refine vV (.bool false) ?_ (hrun:=by rw [show false=(c.st == 4) from h4.out];kernel_rfl)
    refine vV (bF) ?_
    refine vV (bF) ?_
    refine vV (pX w.heap.size 0) ?_
    refine vD (iJ c.st) (A.cell 0) ?_
    refine vV (.bool true) ?_ (hrun:=by rw [show true=(c.st == 5) from h5.out];kernel_rfl)
    refine vV (bT) ?_
    refine vV (bT) ?_
    refine vE #[.agg (cnCells c),pX w.heap.size 0,bT,pX w.heap.size 0,iJ c.st,bF,bF,pX w.heap.size 0,iJ c.st,bF,bF,bF,pX w.heap.size 0,iJ c.st,bT,bT] ?_
    go_wp2_with (fail)
    go_ret
    exact ⟨by rw [show v=true from hv.out];rfl,G⟩
   case false=>
    refine vR ?_
    refine vV (pX w.heap.size 0) ?_
    refine vD (iJ c.st) (A.cell 0) ?_
    refine vV (.bool false) ?_ (hrun:=by rw [show false=(c.st == 3) from h3.out];kernel_rfl)
    refine vV (bF) ?_
    refine vV (pX w.heap.size 0) ?_
    refine vD (iJ c.st) (A.cell 0) ?_
    refine vV (.bool false) ?_ (hrun:=by rw [show false=(c.st == 4) from h4.out];kernel_rfl)
    refine vV (bF) ?_
    refine vV (bF) ?_
    refine vV (pX w.heap.size 0) ?_
    refine vD (iJ c.st) (A.cell 0) ?_
    refine vV (.bool false) ?_ (hrun:=by rw [show false=(c.st == 5) from h5.out];kernel_rfl)
    refine vV (bF) ?_
    refine vV (bF) ?_
    refine vE #[.agg (cnCells c),pX w.heap.size 0,bF,pX w.heap.size 0,iJ c.st,bF,bF,pX w.heap.size 0,iJ c.st,bF,bF,bF,pX w.heap.size 0,iJ c.st,bF,bF] ?_
    go_wp2_with (fail)
    go_ret
    exact ⟨by rw [show v=false from hv.out];rfl,G⟩
def takesB (d:Cn) (s:Sg):Bool:=!decide (s.d=ByteArray.empty) && listB d
def takenC (d:Cn) (s:Sg) (ps:List (Int×ByteArray)):Cn:=if takesB d s then {d with iN:=pQ d.iN d.iD d.iR ps (distI d.iN s.sq) s.d,iD:=pD d.iN d.iD d.iR ps (distI d.iN s.sq) s.d,owe:=true} else d
def takenP (d:Cn) (s:Sg) (ps:List (Int×ByteArray)):List (Int×ByteArray):=if takesB d s then pL d.iN d.iD d.iR ps (distI d.iN s.sq) s.d else ps
def laidC (c:Cn) (g n cp:Nat):Cn:={c with pa:=some ⟨g,0,none⟩,pn:=n,pc:=cp}
def takenI (g:Nat) (d:Cn) (s:Sg) (now:Int) (sv:Value) (q2:Int) (d2:ByteArray) (m2:Int) (p2:List (Int×ByteArray)) (N:World) (f:Nat→Bool) (vals:Nat→Value) (x:World):Prop:=
 ChainE (α:=Nat×Nat×Nat) g N 15 21 [4,9,14] (arrCells d s now sv) (fun a=>arrCells {d with iN:=q2,iD:=d2,pa:=some ⟨a.1,0,none⟩,pn:=a.2.1,pc:=a.2.2} s now sv) (fun a x=>Held shP x N.heap.size a.1 a.2.1 a.2.2 p2) (fun i a v=>match i with
  | 0=>v=.pointer (some ⟨g,0,none⟩)
  | 1=>v=.pointer (some ⟨g,0,none⟩)
  | 2=>v=.pointer (some ⟨g,0,none⟩)
  | 3=>v=.pointer (some ⟨g,11,none⟩)
  | 4=>v=.agg #[.int .u32 d.iN,.string d.iD,.slice d.pa d.pn d.pc,.int .i64 d.iR]
  | 5=>v=.pointer (some ⟨g,0,none⟩)
  | 6=>v=.pointer (some ⟨g,0,none⟩)
  | 7=>v=.pointer (some ⟨g,37,none⟩)
  | 8=>v=.pointer (some ⟨g,39,none⟩)
  | 9=>v=.int .u32 s.sq
  | 10=>v=.pointer (some ⟨g,0,none⟩)
  | 11=>v=.pointer (some ⟨g,0,none⟩)
  | 12=>v=.pointer (some ⟨g,37,none⟩)
  | 13=>v=.pointer (some ⟨g,44,none⟩)
  | 14=>v=.string s.d
  | 15=>v=.tuple #[.agg #[.int .u32 q2,.string d2,.slice (some ⟨a.1,0,none⟩) a.2.1 a.2.2,.int .i64 d.iR],.int .i64 m2]
  | 16=>v=.tuple #[.agg #[.int .u32 q2,.string d2,.slice (some ⟨a.1,0,none⟩) a.2.1 a.2.2,.int .i64 d.iR],.int .i64 m2]
  | 17=>v=.agg #[.int .u32 q2,.string d2,.slice (some ⟨a.1,0,none⟩) a.2.1 a.2.2,.int .i64 d.iR]
  | 18=>v=.int .i64 m2
  | 19=>v=.pointer (some ⟨g,0,none⟩)
  | 20=>v=.pointer (some ⟨g,11,none⟩)
  | _=>True) f vals x
theorem implTaken (g:Nat) (d:Cn) (s:Sg) (now:Int) (sv:Value) (B pg:Nat) (ps:List (Int×ByteArray)) (gd:Good d.iN d.iD d.iR d.pn ps) (hsq:IsWord s.sq) (hds:s.d.size≤1048576) (w:World) (A:Blk g w (arrCells d s now sv)) (P:Held shP w B pg d.pn d.pc ps) (pa:Hid (d.pa=some ⟨pg,0,none⟩)) (hne:g≠pg) (hgB:B≤g) :
  Calls Tryz.prog 75 #[.pointer (some ⟨g,0,none⟩)] w fun e w'=>e=.returned (.tuple #[])∧Touch g w w'∧∃ gp m cp,Blk g w' (arrCells (laidC (takenC d s ps) gp m cp) s now sv)∧Held shP w' B gp m cp (takenP d s ps)∧(gp=pg∨w.heap.size≤gp):=by
 have hli:=fun wx=>implListens d wx
 have hip:=fun wx hb Rx=>implInPut d.iN d.iD d.iR d.pa d.pn d.pc ps s.sq s.d _ gd hsq (distI_is _ _) hds wx hb Rx
 obtain ⟨q2,hq2⟩:∃ q,Hid (q=pQ d.iN d.iD d.iR ps (distI d.iN s.sq) s.d):=⟨_,rfl⟩
 obtain ⟨d2,hd2⟩:∃ q,Hid (q=pD d.iN d.iD d.iR ps (distI d.iN s.sq) s.d):=⟨_,rfl⟩
 obtain ⟨p2,hp2⟩:∃ q,Hid (q=pL d.iN d.iD d.iR ps (distI d.iN s.sq) s.d):=⟨_,rfl⟩
 obtain ⟨m2,hm2⟩:∃ q,Hid (q=pM d.iN d.iD d.iR ps (distI d.iN s.sq) s.d):=⟨_,rfl⟩
 rw [← hq2.out,← hd2.out,← hp2.out,← hm2.out] at hip
 unfold inVal at hip
 obtain ⟨lb,hlb⟩:∃ q,Hid (q=listB d):=⟨_,rfl⟩
 rw [← hlb.out] at hli
 have hX:Hid (takenC d s ps=if !decide (s.d=ByteArray.empty) && lb then {d with iN:=q2,iD:=d2,owe:=true} else d):=by
  show _=_
  rw [hlb.out,hq2.out,hd2.out]
  rfl
 have hXp:Hid (takenP d s ps=if !decide (s.d=ByteArray.empty) && lb then p2 else ps):=by
  show _=_
  rw [hlb.out,hp2.out]
  rfl
 have hlaid:laidC d pg d.pn d.pc=d:=by
  unfold laidC
  rw [← pa.out]
 replace hlaid:Hid _:=hlaid
 generalize takenC d s ps=cX at hX ⊢
 generalize takenP d s ps=pX' at hXp ⊢
 clear gd hsq hds
 have hPl:=P.lt
 have hPo:=P.low'
 have hA:=A.lt
 have G:=Touch.refl g w
 go_enter Tryz.func75,Tryz.ntmps75
 go_upto_region 0 with (fail)
 refine vR ?_
 refine vV (pX g 0) ?_
 refine vV (pX g 0) ?_
 refine vV (pX g 0) ?_
 refine vV (pX g 0) ?_
 refine vE #[pX g 0,U,pX g 0,pX g 0,pX g 0,pX g 0,U,U,U,U,U,U,U,U,U,U,U,U,U,U,U,U,U,U,U,U,U,U,U,U,U,U,U,U,U,U,U,U,U,U,U,U,U] ?_
 go_upto_region 1 with (fail)
 by_cases he:s.d=ByteArray.empty
 case pos=>
  have e0:(s.d.toList == [])=true:=by rw [he,ByteArray.toList_eq];rfl
  rw [decide_eq_true he] at hX hXp
  replace hX:Hid _:=hX
  replace hXp:Hid _:=hXp
  refine vR ?_
  refine vV (pX g 0) ?_
  refine vV (pX g 0) ?_
  refine vV (pX g 37) ?_
  refine vV (pX g 44) ?_
  refine vD (.string s.d) (A.cell 44) ?_
  refine vV (.bool true) ?_ (hrun:=by simp [execOp,go_sem,e0])
  refine vV (bT) ?_
  refine vS ?_
  refine vS ?_
  refine vS ?_
  refine vS ?_
  refine vS ?_
  refine vV (bT) ?_
  refine vE #[pX g 0,U,pX g 0,pX g 0,pX g 0,pX g 0,pX g 0,pX g 0,pX g 37,pX g 44,.string s.d,bT,bT,U,U,U,U,U,bT,U,U,U,U,U,U,U,U,U,U,U,U,U,U,U,U,U,U,U,U,U,U,U,U] ?_
  have hfin:Hid (cX=d):=hX.out
  have hfp:Hid (pX'=ps):=hXp.out
  go_wp2_with (fail)
  refine bodyPost_ret (v:=.tuple #[]) (results_none rfl _ _ _) rfl ⟨rfl,G,pg,d.pn,d.pc,?_,?_,?_⟩
  ·rw [hfin.out,hlaid.out]
   exact A
  ·rw [hfp.out]
   exact P
  ·omega
 case neg=>
  have e0:=noTextA he
  rw [decide_eq_false he] at hX hXp
  replace hX:Hid _:=hX
  replace hXp:Hid _:=hXp
  cases lb
  case false=>
   refine vR ?_
   refine vV (pX g 0) ?_
   refine vV (pX g 0) ?_
   refine vV (pX g 37) ?_
   refine vV (pX g 44) ?_
   refine vD (.string s.d) (A.cell 44) ?_
   refine vV (.bool false) ?_ (hrun:=by simp [execOp,go_sem,e0])
   refine vV (bF) ?_
   refine vV (pX g 0) ?_
   refine vV (pX g 0) ?_
   refine vAE A ?_
   refine vK (hli _) ?_
   intro qw1 qg2
   replace A:=A.since qg2
   replace P:=P.since qg2
   replace G:=touch_since G qg2
   have qg2_s:=qg2.size
   refine vV (bT) ?_
   refine vV (bT) ?_
   refine vE #[pX g 0,U,pX g 0,pX g 0,pX g 0,pX g 0,pX g 0,pX g 0,pX g 37,pX g 44,.string s.d,bF,bF,pX g 0,pX g 0,.agg (cnCells d),bF,bT,bT,U,U,U,U,U,U,U,U,U,U,U,U,U,U,U,U,U,U,U,U,U,U,U,U] ?_
   have hfin:Hid (cX=d):=hX.out
   have hfp:Hid (pX'=ps):=hXp.out
   go_wp2_with (fail)
   refine bodyPost_ret (v:=.tuple #[]) (results_none rfl _ _ _) rfl ⟨rfl,G,pg,d.pn,d.pc,?_,?_,?_⟩
   ·rw [hfin.out,hlaid.out]
    exact A
   ·rw [hfp.out]
    exact P
   ·omega
  case true=>
   refine vR ?_
   refine vV (pX g 0) ?_
   refine vV (pX g 0) ?_
   refine vV (pX g 37) ?_
   refine vV (pX g 44) ?_
   refine vD (.string s.d) (A.cell 44) ?_
   refine vV (.bool false) ?_ (hrun:=by simp [execOp,go_sem,e0])
   refine vV (bF) ?_
   refine vV (pX g 0) ?_
   refine vV (pX g 0) ?_
   refine vAE A ?_
   refine vK (hli _) ?_
   intro qw1 qg2
   replace A:=A.since qg2
   replace P:=P.since qg2
   replace G:=touch_since G qg2
   have qg2_s:=qg2.size
   refine vV (bF) ?_
   refine vV (bF) ?_
   refine vE #[pX g 0,U,pX g 0,pX g 0,pX g 0,pX g 0,pX g 0,pX g 0,pX g 37,pX g 44,.string s.d,bF,bF,pX g 0,pX g 0,.agg (cnCells d),bT,bF,bF,U,U,U,U,U,U,U,U,U,U,U,U,U,U,U,U,U,U,U,U,U,U,U,U] ?_
   go_upto_region 2 with (fail)
   refine wp_region_doneV (takenI g d s now sv q2 d2 m2 p2 qw1) (fun v=>{tmps:=#[pX g 0,U,pX g 0,pX g 0,pX g 0,pX g 0,pX g 0,pX g 0,pX g 37,pX g 44,.string s.d,bF,bF,pX g 0,pX g 0,.agg (cnCells d),bT,bF,bF,v 16,v 0,v 1,v 2,v 3,v 4,v 5,v 6,v 7,v 8,v 9,v 10,v 11,v 12,v 13,v 14,v 15,v 17,v 18,v 19,v 20,U,U,U],defers:=[]}) (by kernel_rfl) (by kernel_rfl) (fun f vals hf=>ChainE.start A hf) (fun vals=>by kernel_rfl) ?_ ?_
   case refine_1=>
    repeat (first|exact eachDoneV_nil|refine eachDoneV_cons ?_ ?_)
    all_goals intro f vals x hf hr hI
    all_goals simp [Region.binds] at hr
    ·have q15:f 15=true:=by simp [hr]
     obtain ⟨a,Ha,Ea,Ba⟩:=ChainE.ex hI q15
     have e17:vals 17=.agg #[.int .u32 q2,.string d2,.slice (some ⟨a.1,0,none⟩) a.2.1 a.2.2,.int .i64 d.iR]:=Ea 17 (by simp [hr])
     have e20:vals 20=.pointer (some ⟨g,11,none⟩):=Ea 20 (by simp [hr])
     have q1:∀ j,([4,9,14]:List Nat).contains j=true→f j=true:=by
      intro j hj
      simp at hj
      rcases hj with rfl|rfl|rfl<;>simp [hr]
     have B0:=ChainE.old hI hf
     have hag:g<a.1:=by have:=Ha.low';omega
     refine does_part_store (cs':=arrCells {d with iN:=q2,iD:=d2,pa:=some ⟨a.1,0,none⟩,pn:=a.2.1,pc:=a.2.2} s now sv) B0 pIn_big _ _ rfl 11 e20 #[.int .u32 q2,.string d2,.slice (some ⟨a.1,0,none⟩) a.2.1 a.2.2,.int .i64 d.iR] e17 rfl (by simp [Value.oneCell']) (by rw [arr_size];decide) rfl ?_
     intro z tz Bz
     exact ChainE.put hI (by decide) q15 q1 a Ea tz Bz (Ha.touch tz (by omega)) _ trivial
    ·have e19:vals 19=.pointer (some ⟨g,0,none⟩):=ChainE.val hI (j:=19) (by simp [hr]) (fun _ _ h=>h)
     simp [does,doesUpon,go_sem,e19]
     exact ChainE.step hI 20 (by decide) (by decide) _ (fun _=>rfl)
    ·have e0:vals 0=.pointer (some ⟨g,0,none⟩):=ChainE.val hI (j:=0) (by simp [hr]) (fun _ _ h=>h)
     simp [does,doesUpon,go_sem,e0]
     exact ChainE.step hI 19 (by decide) (by decide) _ (fun _=>rfl)
    ·have q15:f 15=true:=by
      cases e:f 15 with
      | true=>rfl
      | false=>
       have h1:vals 16=.tuple #[.agg #[.int .u32 q2,.string d2,.slice (some ⟨((0,0,0):Nat×Nat×Nat).1,0,none⟩) ((0,0,0):Nat×Nat×Nat).2.1 ((0,0,0):Nat×Nat×Nat).2.2,.int .i64 d.iR],.int .i64 m2]:=ChainE.const hI e 16 (by simp [hr]) (0,0,0)
       have h2:vals 16=.tuple #[.agg #[.int .u32 q2,.string d2,.slice (some ⟨((1,0,0):Nat×Nat×Nat).1,0,none⟩) ((1,0,0):Nat×Nat×Nat).2.1 ((1,0,0):Nat×Nat×Nat).2.2,.int .i64 d.iR],.int .i64 m2]:=ChainE.const hI e 16 (by simp [hr]) (1,0,0)
       rw [h1] at h2
       simp at h2
     obtain ⟨a,Ha,Ea,Ba⟩:=ChainE.ex hI q15
     have e16:vals 16=.tuple #[.agg #[.int .u32 q2,.string d2,.slice (some ⟨a.1,0,none⟩) a.2.1 a.2.2,.int .i64 d.iR],.int .i64 m2]:=Ea 16 (by simp [hr])
     simp [does,doesUpon,go_sem,e16]
     exact ChainE.dep hI 18 (by decide) (by decide) _ q15 a Ha Ea Ba rfl
    ·have q15:f 15=true:=by
      cases e:f 15 with
      | true=>rfl
      | false=>
       have h1:vals 16=.tuple #[.agg #[.int .u32 q2,.string d2,.slice (some ⟨((0,0,0):Nat×Nat×Nat).1,0,none⟩) ((0,0,0):Nat×Nat×Nat).2.1 ((0,0,0):Nat×Nat×Nat).2.2,.int .i64 d.iR],.int .i64 m2]:=ChainE.const hI e 16 (by simp [hr]) (0,0,0)
       have h2:vals 16=.tuple #[.agg #[.int .u32 q2,.string d2,.slice (some ⟨((1,0,0):Nat×Nat×Nat).1,0,none⟩) ((1,0,0):Nat×Nat×Nat).2.1 ((1,0,0):Nat×Nat×Nat).2.2,.int .i64 d.iR],.int .i64 m2]:=ChainE.const hI e 16 (by simp [hr]) (1,0,0)
       rw [h1] at h2
       simp at h2
     obtain ⟨a,Ha,Ea,Ba⟩:=ChainE.ex hI q15
     have e16:vals 16=.tuple #[.agg #[.int .u32 q2,.string d2,.slice (some ⟨a.1,0,none⟩) a.2.1 a.2.2,.int .i64 d.iR],.int .i64 m2]:=Ea 16 (by simp [hr])
     simp [does,doesUpon,go_sem,e16]
     exact ChainE.dep hI 17 (by decide) (by decide) _ q15 a Ha Ea Ba rfl
    ·have q15:f 15=true:=by simp [hr]
     obtain ⟨a,Ha,Ea,Ba⟩:=ChainE.ex hI q15
     have e15:vals 15=.tuple #[.agg #[.int .u32 q2,.string d2,.slice (some ⟨a.1,0,none⟩) a.2.1 a.2.2,.int .i64 d.iR],.int .i64 m2]:=Ea 15 (by simp [hr])
     simp [does,doesUpon,go_sem,e15]
     exact ChainE.dep hI 16 (by decide) (by decide) _ q15 a Ha Ea Ba rfl
    ·have e4:vals 4=.agg #[.int .u32 d.iN,.string d.iD,.slice d.pa d.pn d.pc,.int .i64 d.iR]:=ChainE.val hI (j:=4) (by simp [hr]) (fun _ _ h=>h)
     have e9:vals 9=.int .u32 s.sq:=ChainE.val hI (j:=9) (by simp [hr]) (fun _ _ h=>h)
     have e14:vals 14=.string s.d:=ChainE.val hI (j:=14) (by simp [hr]) (fun _ _ h=>h)
     have Px:=P.touch (ChainE.touch hI) (by omega)
     simp [does,doesUpon,go_sem,e4,e9,e14]
     refine (hip x (by have:=Px.lt;rw [pa.out];intro y hy;cases hy;exact this) (by rw [pa.out];exact Px.reads)).mono ?_
     rintro _ x' ⟨gp,m,cp,rfl,Hn,h1⟩
     simp
     exact ChainE.call hI (by decide) hf _ (gp,m,cp) h1 (Hn.raise (by have:=(ChainE.touch hI).size;have:=Hn.low';omega)) rfl
    ·have e13:vals 13=.pointer (some ⟨g,44,none⟩):=ChainE.val hI (j:=13) (by simp [hr]) (fun _ _ h=>h)
     have B0:=ChainE.old hI (ChainE.no_b hI hf (by decide))
     have fl:x.cell? ⟨g,44,none⟩=some (.string s.d):=B0.cell 44
     simp [does,doesUpon,go_sem,e13,fl]
     exact ChainE.step hI 14 (by decide) (by decide) _ (fun _=>rfl)
    ·have e12:vals 12=.pointer (some ⟨g,37,none⟩):=ChainE.val hI (j:=12) (by simp [hr]) (fun _ _ h=>h)
     simp [does,doesUpon,go_sem,e12]
     exact ChainE.step hI 13 (by decide) (by decide) _ (fun _=>rfl)
    ·have e11:vals 11=.pointer (some ⟨g,0,none⟩):=ChainE.val hI (j:=11) (by simp [hr]) (fun _ _ h=>h)
     simp [does,doesUpon,go_sem,e11]
     exact ChainE.step hI 12 (by decide) (by decide) _ (fun _=>rfl)
    ·have e10:vals 10=.pointer (some ⟨g,0,none⟩):=ChainE.val hI (j:=10) (by simp [hr]) (fun _ _ h=>h)
     simp [does,doesUpon,go_sem,e10]
     exact ChainE.step hI 11 (by decide) (by decide) _ (fun _=>rfl)
    ·simp [does,doesUpon,go_sem]
     exact ChainE.step hI 10 (by decide) (by decide) _ (fun _=>rfl)
    ·have e8:vals 8=.pointer (some ⟨g,39,none⟩):=ChainE.val hI (j:=8) (by simp [hr]) (fun _ _ h=>h)
     have B0:=ChainE.old hI (ChainE.no_b hI hf (by decide))
     have fl:x.cell? ⟨g,39,none⟩=some (.int .u32 s.sq):=B0.cell 39
     simp [does,doesUpon,go_sem,e8,fl]
     exact ChainE.step hI 9 (by decide) (by decide) _ (fun _=>rfl)
    ·have e7:vals 7=.pointer (some ⟨g,37,none⟩):=ChainE.val hI (j:=7) (by simp [hr]) (fun _ _ h=>h)
     simp [does,doesUpon,go_sem,e7]
     exact ChainE.step hI 8 (by decide) (by decide) _ (fun _=>rfl)
    ·have e6:vals 6=.pointer (some ⟨g,0,none⟩):=ChainE.val hI (j:=6) (by simp [hr]) (fun _ _ h=>h)
     simp [does,doesUpon,go_sem,e6]
     exact ChainE.step hI 7 (by decide) (by decide) _ (fun _=>rfl)
    ·have e5:vals 5=.pointer (some ⟨g,0,none⟩):=ChainE.val hI (j:=5) (by simp [hr]) (fun _ _ h=>h)
     simp [does,doesUpon,go_sem,e5]
     exact ChainE.step hI 6 (by decide) (by decide) _ (fun _=>rfl)
    ·simp [does,doesUpon,go_sem]
     exact ChainE.step hI 5 (by decide) (by decide) _ (fun _=>rfl)
    ·have e3:vals 3=.pointer (some ⟨g,11,none⟩):=ChainE.val hI (j:=3) (by simp [hr]) (fun _ _ h=>h)
     have B0:=ChainE.old hI (ChainE.no_b hI hf (by decide))
     exact does_part_load B0 pIn_big _ rfl 11 e3 [.int .u32 d.iN,.string d.iD,.slice d.pa d.pn d.pc,.int .i64 d.iR] rfl (fun j v hj=>by match j,hj with|0,h=>exact h|1,h=>exact h|2,h=>exact h|3,h=>exact h|n+4,h=>exact absurd h (by simp)) (ChainE.step hI 4 (by decide) (by decide) _ (fun _=>rfl))
    ·have e2:vals 2=.pointer (some ⟨g,0,none⟩):=ChainE.val hI (j:=2) (by simp [hr]) (fun _ _ h=>h)
     simp [does,doesUpon,go_sem,e2]
     exact ChainE.step hI 3 (by decide) (by decide) _ (fun _=>rfl)
    ·have e1:vals 1=.pointer (some ⟨g,0,none⟩):=ChainE.val hI (j:=1) (by simp [hr]) (fun _ _ h=>h)
     simp [does,doesUpon,go_sem,e1]
     exact ChainE.step hI 2 (by decide) (by decide) _ (fun _=>rfl)
    ·simp [does,doesUpon,go_sem]
     exact ChainE.step hI 1 (by decide) (by decide) _ (fun _=>rfl)
    ·simp [does,doesUpon,go_sem]
     exact ChainE.step hI 0 (by decide) (by decide) _ (fun _=>rfl)
   case refine_2=>
    intro f qv4 qw3 hI hf
    obtain ⟨⟨gp,m,cp⟩,Hn,Ea,Ba⟩:=ChainE.ex hI (hf 15 (by decide))
    have Bn:=Ba (hf 21 (by decide))
    have hT:=ChainE.touch hI
    clear hI Ba
    have hv0:qv4 0=.pointer (some ⟨g,0,none⟩):=Ea 0 (hf 0 (by decide))
    have hv1:qv4 1=.pointer (some ⟨g,0,none⟩):=Ea 1 (hf 1 (by decide))
    have hv2:qv4 2=.pointer (some ⟨g,0,none⟩):=Ea 2 (hf 2 (by decide))
    have hv3:qv4 3=.pointer (some ⟨g,11,none⟩):=Ea 3 (hf 3 (by decide))
    have hv4:qv4 4=.agg #[.int .u32 d.iN,.string d.iD,.slice d.pa d.pn d.pc,.int .i64 d.iR]:=Ea 4 (hf 4 (by decide))
    have hv5:qv4 5=.pointer (some ⟨g,0,none⟩):=Ea 5 (hf 5 (by decide))
    have hv6:qv4 6=.pointer (some ⟨g,0,none⟩):=Ea 6 (hf 6 (by decide))
    have hv7:qv4 7=.pointer (some ⟨g,37,none⟩):=Ea 7 (hf 7 (by decide))
    have hv8:qv4 8=.pointer (some ⟨g,39,none⟩):=Ea 8 (hf 8 (by decide))
    have hv9:qv4 9=.int .u32 s.sq:=Ea 9 (hf 9 (by decide))
    have hv10:qv4 10=.pointer (some ⟨g,0,none⟩):=Ea 10 (hf 10 (by decide))
    have hv11:qv4 11=.pointer (some ⟨g,0,none⟩):=Ea 11 (hf 11 (by decide))
    have hv12:qv4 12=.pointer (some ⟨g,37,none⟩):=Ea 12 (hf 12 (by decide))
    have hv13:qv4 13=.pointer (some ⟨g,44,none⟩):=Ea 13 (hf 13 (by decide))
    have hv14:qv4 14=.string s.d:=Ea 14 (hf 14 (by decide))
    have hv15:qv4 15=.tuple #[.agg #[.int .u32 q2,.string d2,.slice (some ⟨gp,0,none⟩) m cp,.int .i64 d.iR],.int .i64 m2]:=Ea 15 (hf 15 (by decide))
    have hv16:qv4 16=.tuple #[.agg #[.int .u32 q2,.string d2,.slice (some ⟨gp,0,none⟩) m cp,.int .i64 d.iR],.int .i64 m2]:=Ea 16 (hf 16 (by decide))
    have hv17:qv4 17=.agg #[.int .u32 q2,.string d2,.slice (some ⟨gp,0,none⟩) m cp,.int .i64 d.iR]:=Ea 17 (hf 17 (by decide))
    have hv18:qv4 18=.int .i64 m2:=Ea 18 (hf 18 (by decide))
    have hv19:qv4 19=.pointer (some ⟨g,0,none⟩):=Ea 19 (hf 19 (by decide))
    have hv20:qv4 20=.pointer (some ⟨g,11,none⟩):=Ea 20 (hf 20 (by decide))
    clear Ea hf
    simp only [hv0,hv1,hv2,hv3,hv4,hv5,hv6,hv7,hv8,hv9,hv10,hv11,hv12,hv13,hv14,hv15,hv16,hv17,hv18,hv19,hv20]
    clear hv0 hv1 hv2 hv3 hv4 hv5 hv6 hv7 hv8 hv9 hv10 hv11 hv12 hv13 hv14 hv15 hv16 hv17 hv18 hv19 hv20
    clear A
    have hlo:=Hn.low'
    replace Bn:Blk g qw3 (arrCells {d with iN:=q2,iD:=d2,pa:=some ⟨gp,0,none⟩,pn:=m,pc:=cp} s now sv):=Bn
    replace Hn:Held shP qw3 qw1.heap.size gp m cp p2:=Hn
    have Hn_l:=Hn.lt
    replace G:=touch_new G hT (by omega)
    have hT_s:=hT.size
    clear hT
    simp only [Exit.then]
    rename_i hK
    refine hK _ _ ?_
    clear hK
    go_upto_region 3 with (fail)
    refine vR ?_
    refine vV (pX g 0) ?_
    refine vV (pX g 0) ?_
    refine vV (pX g 36) ?_
    refine sC (arrCells {d with iN:=q2,iD:=d2,pa:=some ⟨gp,0,none⟩,pn:=m,pc:=cp,owe:=true} s now (sv)) Bn 36 (.bool true) (arr_size _ _ _ _) ?_
    intro qw5 qt6 qB7
    clear Bn
    replace Hn:=Hn.touch qt6 (by omega)
    replace G:=touch_new G qt6 (by omega)
    have qt6_s:=qt6.size
    refine vE #[pX g 0,U,pX g 0,pX g 0,pX g 0,pX g 0,pX g 0,pX g 0,pX g 37,pX g 44,.string s.d,bF,bF,pX g 0,pX g 0,.agg (cnCells d),bT,bF,bF,.tuple #[.agg #[uJ q2,.string d2,.slice (some ⟨gp,0,none⟩) m cp,iJ d.iR],iJ m2],pX g 0,pX g 0,pX g 0,pX g 11,.agg #[uJ d.iN,.string d.iD,.slice d.pa d.pn d.pc,iJ d.iR],pX g 0,pX g 0,pX g 37,pX g 39,uJ s.sq,pX g 0,pX g 0,pX g 37,pX g 44,.string s.d,.tuple #[.agg #[uJ q2,.string d2,.slice (some ⟨gp,0,none⟩) m cp,iJ d.iR],iJ m2],.agg #[uJ q2,.string d2,.slice (some ⟨gp,0,none⟩) m cp,iJ d.iR],iJ m2,pX g 0,pX g 11,pX g 0,pX g 0,pX g 36] ?_
    generalize (.tuple #[.agg #[.int .u32 q2,.string d2,.slice (some ⟨gp,0,none⟩) m cp,.int .i64 d.iR],.int .i64 m2]:Value)=qz8
    generalize (.agg #[.int .u32 d.iN,.string d.iD,.slice d.pa d.pn d.pc,.int .i64 d.iR]:Value)=qz9
    generalize (.agg #[.int .u32 q2,.string d2,.slice (some ⟨gp,0,none⟩) m cp,.int .i64 d.iR]:Value)=qz10
    have hfin:Hid (cX={d with iN:=q2,iD:=d2,owe:=true}):=hX.out
    have hfp:Hid (pX'=p2):=hXp.out
    go_wp2_with (fail)
    refine bodyPost_end (v:=.tuple #[]) (results_none rfl _ _ _) rfl ⟨rfl,G,gp,m,cp,?_,?_,?_⟩
    ·rw [hfin.out]
     exact qB7
    ·rw [hfp.out]
     exact (Hn.raise (by omega))
    ·omega
def finInB (d:Cn) (s:Sg):Bool:=hasF s.fl 1 && (((s.sq+(s.d.size:Int) % 4294967296) % 4294967296 == d.iN) && (listB d && ((d.pn:Int) == 0)))
theorem implIsFin (g:Nat) (d:Cn) (s:Sg) (now:Int) (sv:Value) (hf:IsInt s.fl) (w:World) (A:Blk g w (arrCells d s now sv)) :
  Calls Tryz.prog 113 #[.pointer (some ⟨g,0,none⟩)] w fun e w'=>e=.returned (.bool (finInB d s))∧Since w w':=by
 have hh:=fun wx Ax=>implHasA g d s now sv 1 hf (by simp [IsFlag]) wx Ax
 have hli:=fun wx=>implListens d wx
 have hwd:=fun wx=>implWord (s.d.size:Int) ((s.d.size:Int) % 4294967296) (by unfold IsWordOf;omega) wx
 obtain ⟨v,hv0⟩:∃ q,Hid (q=finInB d s):=⟨_,rfl⟩
 rw [← hv0.out]
 obtain ⟨bh,hbh0⟩:∃ q,Hid (q=(s.sq+(s.d.size:Int) % 4294967296) % 4294967296):=⟨_,rfl⟩
 have hbh:Hid (IntKind.u32.wrap (s.sq+(s.d.size:Int) % 4294967296)=bh):=hbh0.out.symm
 obtain ⟨f1,hf1⟩:∃ q,Hid (q=hasF s.fl 1):=⟨_,rfl⟩
 rw [← hf1.out] at hh
 obtain ⟨lb,hlb⟩:∃ q,Hid (q=listB d):=⟨_,rfl⟩
 rw [← hlb.out] at hli
 obtain ⟨be,hbe⟩:∃ q,Hid (q=(bh == d.iN)):=⟨_,rfl⟩
 obtain ⟨b0,hb0⟩:∃ q,Hid (q=((d.pn:Int) == 0)):=⟨_,rfl⟩
 have hv:Hid (v=(f1 && (be && (lb && b0)))):=by
  show v=_
  rw [hv0.out,hf1.out,hbe.out,hlb.out,hb0.out,hbh0.out]
  rfl
 have hA:=A.lt
 have G:=Since.refl w
 go_enter Tryz.func113,Tryz.ntmps113
 go_upto_region 0 with (fail)
 refine vR ?_
 refine vV (bF) ?_
 refine vE #[pX g 0,U,bF,U,U,U,U,U,U,U,U,U,U,U,U,U,U,U,U,U,U,U,U,U,U,U,U,U,U,U,U,U,U,U,U,U,U,U,U,U,U,U] ?_
 go_upto_region 1 with (fail)
 refine wp_region_store (wb:=w) 18 (fun i x v=>match i with
   | 0=>v=.pointer (some ⟨g,0,none⟩)
   | 1=>v=.pointer (some ⟨g,0,none⟩)
   | 2=>v=.pointer (some ⟨g,0,none⟩)
   | 3=>v=.agg (cnCells d)
   | 4=>v=.pointer (some ⟨g,0,none⟩)
   | 5=>v=.pointer (some ⟨g,0,none⟩)
   | 6=>v=.pointer (some ⟨g,37,none⟩)
   | 7=>v=.pointer (some ⟨g,39,none⟩)
   | 8=>v=.int .u32 s.sq
   | 9=>v=.pointer (some ⟨g,0,none⟩)
   | 10=>v=.pointer (some ⟨g,0,none⟩)
   | 11=>v=.pointer (some ⟨g,37,none⟩)
   | 12=>v=.pointer (some ⟨g,44,none⟩)
   | 13=>v=.string s.d
   | 14=>v=.int .i64 (s.d.size:Int)
   | 15=>v=.int .u32 ((s.d.size:Int) % 4294967296)
   | 16=>v=.int .u32 bh
   | 17=>BoxB w.heap.size 37 x v
   | 18=>True
   | 19=>v=.int .u32 bh
   | _=>True) (fun vals x=>∃ b cs,vals 17=pX b 0∧vals 3=.agg cs∧w.heap.size≤b∧Blk b x cs) (fun v=>{tmps:=#[pX g 0,U,bF,v 17,v 19,v 0,v 1,v 2,v 3,v 4,v 5,v 6,v 7,v 8,v 9,v 10,v 11,v 12,v 13,v 14,v 15,v 16,U,U,U,U,U,U,U,U,U,U,U,U,U,U,U,U,U,U,U,U],defers:=[]}) (by kernel_rfl) (by decide) (by kernel_rfl) (Since.refl _) (fun vals=>by kernel_rfl) ?_ ?_ ?_ ?_ ?_ ?_ ?_
 case refine_1=>
  intro i x x' v h1 h2
  match i,h2 with
  | 17,h2=>exact h2.since h1
  | 0,h2|1,h2|2,h2|3,h2|4,h2|5,h2|6,h2|7,h2|8,h2|9,h2|10,h2|11,h2|12,h2|13,h2|14,h2|15,h2|16,h2|18,h2|19,h2=>exact h2
  | n+20,_=>trivial
 case refine_2=>exact fun _ _=>trivial
 case refine_3=>exact fun _ _ _ h1 ⟨b,cs,e1,e2,l,B⟩=>⟨b,cs,e1,e2,l,B.since h1⟩
 case refine_4=>
  intro vals vals' x h
  rintro ⟨b,cs,e1,e2,l,B⟩
  exact ⟨b,cs,by rw [← h _ rfl ⟨17,.data⟩ (by simp) rfl];exact e1,by rw [← h _ rfl ⟨3,.data⟩ (by simp) rfl];exact e2,l,B⟩
 case refine_5=>
  repeat (first|exact eachBut_nil|refine eachBut_skip ?_|refine eachBut_cons ?_ ?_)
  all_goals intro vals x hx hv
  all_goals simp [Region.binds] at hv
  ·have hb:=by first|exact hv|exact hv.1|exact hv.2|exact hv.2.1
   simp [does,doesUpon,go_sem,hb,Since.refl]
  ·simp [does,doesUpon,go_sem]
   exact ⟨(Since.refl _).alloc _,BoxB.new _ _ _ hx.size rfl⟩
  ·simp [does,doesUpon,go_sem,hv,Since.refl,hbh.out]
  ·simp [does,doesUpon,go_sem,hv]
   refine (hwd _).mono ?_
   rintro _ x' ⟨rfl,rfl⟩
   simp [Since.refl]
  ·simp [does,doesUpon,go_sem,hv,Since.refl]
  ·have fl:x.cell? ⟨g,44,none⟩=some (.string s.d):=(A.since hx).cell 44
   simp [does,doesUpon,go_sem,hv,fl,Since.refl]
  ·simp [does,doesUpon,go_sem,hv,Since.refl]
  ·simp [does,doesUpon,go_sem,hv,Since.refl]
  ·simp [does,doesUpon,go_sem,hv,Since.refl]
  ·simp [does,doesUpon,go_sem,Since.refl]
  ·have fl:x.cell? ⟨g,39,none⟩=some (.int .u32 s.sq):=(A.since hx).cell 39
   simp [does,doesUpon,go_sem,hv,fl,Since.refl]
  ·simp [does,doesUpon,go_sem,hv,Since.refl]
  ·simp [does,doesUpon,go_sem,hv,Since.refl]
  ·simp [does,doesUpon,go_sem,hv,Since.refl]
  ·simp [does,doesUpon,go_sem,Since.refl]
  ·exact does_aend (A.since hx) _ rfl hv ⟨Since.refl _,rfl⟩
  ·simp [does,doesUpon,go_sem,hv,Since.refl]
  ·simp [does,doesUpon,go_sem,hv,Since.refl]
  ·simp [does,doesUpon,go_sem,Since.refl]
 case refine_6=>
  intro op ho vals x hx hv
  obtain rfl:=Option.some.inj ho
  obtain ⟨b,eb,lb,hraw⟩:=hv ⟨17,.data⟩ (by simp) rfl
  have ev:vals 3=.agg (cnCells d):=hv ⟨3,.data⟩ (by simp) rfl
  obtain ⟨c0,z0,B0⟩:=hraw
  refine does_store cn_big (cn_size _) ⟨c0,z0,B0⟩ (cn_one _) _ _ rfl eb ev ?_
  intro z t B
  refine ⟨since_touch hx t lb,?_,b,_,eb,ev,lb,B⟩
  intro j u hu
  match j,hu with
  | 17,hu=>exact hu.stored t B (cn_size _)
  | 0,hu|1,hu|2,hu|3,hu|4,hu|5,hu|6,hu|7,hu|8,hu|9,hu|10,hu|11,hu|12,hu|13,hu|14,hu|15,hu|16,hu|18,hu|19,hu=>exact hu
  | n+20,_=>trivial
 case refine_7=>
  intro qv3 qw1 qh2 hv hS
  obtain ⟨bx,cs,eb,ec,lbx,hC⟩:=hS
  have hv0:qv3 0=_:=hv 0 (by decide)
  have hv1:qv3 1=_:=hv 1 (by decide)
  have hv2:qv3 2=_:=hv 2 (by decide)
  have hv3:qv3 3=_:=hv 3 (by decide)
  have hv4:qv3 4=_:=hv 4 (by decide)
  have hv5:qv3 5=_:=hv 5 (by decide)
  have hv6:qv3 6=_:=hv 6 (by decide)
  have hv7:qv3 7=_:=hv 7 (by decide)
  have hv8:qv3 8=_:=hv 8 (by decide)
  have hv9:qv3 9=_:=hv 9 (by decide)
  have hv10:qv3 10=_:=hv 10 (by decide)
  have hv11:qv3 11=_:=hv 11 (by decide)
  have hv12:qv3 12=_:=hv 12 (by decide)
  have hv13:qv3 13=_:=hv 13 (by decide)
  have hv14:qv3 14=_:=hv 14 (by decide)
  have hv15:qv3 15=_:=hv 15 (by decide)
  have hv16:qv3 16=_:=hv 16 (by decide)
  have hv19:qv3 19=_:=hv 19 (by decide)
  clear hv
  rw [hv3] at ec
  obtain rfl:=Value.agg.inj ec
  clear ec
  simp only [hv0,hv1,hv2,hv3,hv4,hv5,hv6,hv7,hv8,hv9,hv10,hv11,hv12,hv13,hv14,hv15,hv16,hv19,eb]
  clear hv0 hv1 hv2 hv3 hv4 hv5 hv6 hv7 hv8 hv9 hv10 hv11 hv12 hv13 hv14 hv15 hv16 hv19 eb
  replace A:=A.since qh2
  replace G:=G.trans qh2
  have qh2_s:=qh2.size
  have hC_l:=hC.lt
  simp only [Exit.then]
  rename_i hK
  refine hK _ _ ?_
  clear hK
  go_upto_region 2 with (fail)
  cases f1
  case false=>
   refine vR ?_
   refine vV (pX g 0) ?_
   refine vK (hh _ A) ?_
   intro qw4 qg5
   replace A:=A.since qg5
   replace hC:=hC.since qg5
   replace G:=G.trans qg5
   have qg5_s:=qg5.size
   refine vV (bF) ?_
   refine vS ?_
   refine vS ?_
   refine vS ?_
   refine vS ?_
   refine vS ?_
   refine vV (bF) ?_
   refine vV (bF) ?_
   refine vS ?_
   refine vS ?_
   refine vV (bF) ?_
   refine vV (bF) ?_
   refine vS ?_
   refine vS ?_
   refine vS ?_
   refine vS ?_
   refine vS ?_
   refine vV (bF) ?_
   refine vV (bF) ?_
   refine vE #[pX g 0,U,bF,pX bx 0,uJ bh,pX g 0,pX g 0,pX g 0,.agg (cnCells d),pX g 0,pX g 0,pX g 37,pX g 39,uJ s.sq,pX g 0,pX g 0,pX g 37,pX g 44,.string s.d,iJ (s.d.size:Int),uJ ((s.d.size:Int) % 4294967296),uJ bh,pX g 0,bF,bF,U,U,U,U,U,bF,bF,U,U,bF,bF,U,U,U,U,U,bF] ?_
   go_wp2_with (fail)
   go_ret
   exact ⟨by rw [show v=false from hv.out];rfl,G⟩
  case true=>
   cases be
   case false=>
    refine vR ?_
    refine vV (pX g 0) ?_
    refine vK (hh _ A) ?_
    intro qw4 qg5
    replace A:=A.since qg5
    replace hC:=hC.since qg5
    replace G:=G.trans qg5
    have qg5_s:=qg5.size
    refine vV (bT) ?_
    refine vV (uJ bh) ?_
    refine vV (pX bx 11) ?_
    refine vV (pX bx 11) ?_
    refine vD (uJ d.iN) (hC.cell 11) ?_
    refine vV (.bool false) ?_ (hrun:=by rw [show false=(bh == d.iN) from hbe.out];kernel_rfl)
    refine vV (bF) ?_
    refine vV (bF) ?_
    refine vS ?_
    refine vS ?_
    refine vV (bF) ?_
    refine vV (bF) ?_
    refine vS ?_
    refine vS ?_
    refine vS ?_
    refine vS ?_
    refine vS ?_
    refine vV (bF) ?_
    refine vV (bF) ?_
    refine vE #[pX g 0,U,bF,pX bx 0,uJ bh,pX g 0,pX g 0,pX g 0,.agg (cnCells d),pX g 0,pX g 0,pX g 37,pX g 39,uJ s.sq,pX g 0,pX g 0,pX g 37,pX g 44,.string s.d,iJ (s.d.size:Int),uJ ((s.d.size:Int) % 4294967296),uJ bh,pX g 0,bT,bT,uJ bh,pX bx 11,pX bx 11,uJ d.iN,bF,bF,bF,U,U,bF,bF,U,U,U,U,U,bF] ?_
    go_wp2_with (fail)
    go_ret
    exact ⟨by rw [show v=false from hv.out];rfl,G⟩
   case true=>
    cases lb
    case false=>
     refine vR ?_
     refine vV (pX g 0) ?_
     refine vK (hh _ A) ?_
     intro qw4 qg5
     replace A:=A.since qg5
     replace hC:=hC.since qg5
     replace G:=G.trans qg5
     have qg5_s:=qg5.size
     refine vV (bT) ?_
     refine vV (uJ bh) ?_
     refine vV (pX bx 11) ?_
     refine vV (pX bx 11) ?_
     refine vD (uJ d.iN) (hC.cell 11) ?_
     refine vV (.bool true) ?_ (hrun:=by rw [show true=(bh == d.iN) from hbe.out];kernel_rfl)
     refine vV (bT) ?_
     refine vV (bT) ?_
     refine vB cn_big hC (cn_size _) ?_
     refine vK (hli _) ?_
     intro qw6 qg7
     replace A:=A.since qg7
     replace hC:=hC.since qg7
     replace G:=G.trans qg7
     have qg7_s:=qg7.size
     refine vV (bF) ?_
     refine vV (bF) ?_
     refine vS ?_
     refine vS ?_
     refine vS ?_
     refine vS ?_
     refine vS ?_
     refine vV (bF) ?_
     refine vV (bF) ?_
     refine vE #[pX g 0,U,bF,pX bx 0,uJ bh,pX g 0,pX g 0,pX g 0,.agg (cnCells d),pX g 0,pX g 0,pX g 37,pX g 39,uJ s.sq,pX g 0,pX g 0,pX g 37,pX g 44,.string s.d,iJ (s.d.size:Int),uJ ((s.d.size:Int) % 4294967296),uJ bh,pX g 0,bT,bT,uJ bh,pX bx 11,pX bx 11,uJ d.iN,bT,bT,bT,.agg (cnCells d),bF,bF,bF,U,U,U,U,U,bF] ?_
     go_wp2_with (fail)
     go_ret
     exact ⟨by rw [show v=false from hv.out];rfl,G⟩
    case true=>
     cases b0
     case false=>
      refine vR ?_
      refine vV (pX g 0) ?_
      refine vK (hh _ A) ?_
      intro qw4 qg5
      replace A:=A.since qg5
      replace hC:=hC.since qg5
      replace G:=G.trans qg5
      have qg5_s:=qg5.size
      refine vV (bT) ?_
      refine vV (uJ bh) ?_
      refine vV (pX bx 11) ?_
      refine vV (pX bx 11) ?_
      refine vD (uJ d.iN) (hC.cell 11) ?_
      refine vV (.bool true) ?_ (hrun:=by rw [show true=(bh == d.iN) from hbe.out];kernel_rfl)
      refine vV (bT) ?_
      refine vV (bT) ?_
      refine vB cn_big hC (cn_size _) ?_
      refine vK (hli _) ?_
      intro qw6 qg7
      replace A:=A.since qg7
      replace hC:=hC.since qg7
      replace G:=G.trans qg7
      have qg7_s:=qg7.size
      refine vV (bT) ?_
      refine vV (bT) ?_
      refine vV (pX bx 11) ?_
      refine vV (pX bx 13) ?_
      refine vD (.slice d.pa d.pn d.pc) (hC.cell 13) ?_
      refine vV (iJ (d.pn:Int)) ?_
      refine vV (.bool false) ?_ (hrun:=by rw [show false=((d.pn:Int) == 0) from hb0.out];kernel_rfl)
      refine vV (bF) ?_
      refine vV (bF) ?_
      refine vE #[pX g 0,U,bF,pX bx 0,uJ bh,pX g 0,pX g 0,pX g 0,.agg (cnCells d),pX g 0,pX g 0,pX g 37,pX g 39,uJ s.sq,pX g 0,pX g 0,pX g 37,pX g 44,.string s.d,iJ (s.d.size:Int),uJ ((s.d.size:Int) % 4294967296),uJ bh,pX g 0,bT,bT,uJ bh,pX bx 11,pX bx 11,uJ d.iN,bT,bT,bT,.agg (cnCells d),bT,bT,bT,pX bx 11,pX bx 13,.slice d.pa d.pn d.pc,iJ (d.pn:Int),bF,bF] ?_
      go_wp2_with (fail)
      go_ret
      exact ⟨by rw [show v=false from hv.out];rfl,G⟩
     case true=>
      refine vR ?_
      refine vV (pX g 0) ?_
      refine vK (hh _ A) ?_
      intro qw4 qg5
      replace A:=A.since qg5
      replace hC:=hC.since qg5
      replace G:=G.trans qg5
      have qg5_s:=qg5.size
      refine vV (bT) ?_
      refine vV (uJ bh) ?_
      refine vV (pX bx 11) ?_
      refine vV (pX bx 11) ?_
      refine vD (uJ d.iN) (hC.cell 11) ?_
      refine vV (.bool true) ?_ (hrun:=by rw [show true=(bh == d.iN) from hbe.out];kernel_rfl)
      refine vV (bT) ?_
      refine vV (bT) ?_
      refine vB cn_big hC (cn_size _) ?_
      refine vK (hli _) ?_
      intro qw6 qg7
      replace A:=A.since qg7
      replace hC:=hC.since qg7
      replace G:=G.trans qg7
      have qg7_s:=qg7.size
      refine vV (bT) ?_
      refine vV (bT) ?_
      refine vV (pX bx 11) ?_
      refine vV (pX bx 13) ?_
      refine vD (.slice d.pa d.pn d.pc) (hC.cell 13) ?_
      refine vV (iJ (d.pn:Int)) ?_
      refine vV (.bool true) ?_ (hrun:=by rw [show true=((d.pn:Int) == 0) from hb0.out];kernel_rfl)
      refine vV (bT) ?_
      refine vV (bT) ?_
      refine vE #[pX g 0,U,bT,pX bx 0,uJ bh,pX g 0,pX g 0,pX g 0,.agg (cnCells d),pX g 0,pX g 0,pX g 37,pX g 39,uJ s.sq,pX g 0,pX g 0,pX g 37,pX g 44,.string s.d,iJ (s.d.size:Int),uJ ((s.d.size:Int) % 4294967296),uJ bh,pX g 0,bT,bT,uJ bh,pX bx 11,pX bx 11,uJ d.iN,bT,bT,bT,.agg (cnCells d),bT,bT,bT,pX bx 11,pX bx 13,.slice d.pa d.pn d.pc,iJ (d.pn:Int),bT,bT] ?_
      go_wp2_with (fail)
      go_ret
      exact ⟨by rw [show v=true from hv.out];rfl,G⟩
def heardC (d:Cn):Cn:={d with iN:=(d.iN+1) % 4294967296,gfn:=true,owe:=true}
def endX (d:Cn) (s:Sg) (now:Int):Cn:=
 if finInB d s then (if d.st == 3 then {heardC d with st:=6} else if d.st == 4 then {heardC d with st:=7} else if d.st == 5 then {restC (heardC d) now with agn:=0} else heardC d) else d
theorem implEnded (g:Nat) (d:Cn) (s:Sg) (now:Int) (sv:Value) (h0:0≤now) (h1:now≤1000000000) (hf:IsInt s.fl) (w:World) (A:Blk g w (arrCells d s now sv)) :
  Calls Tryz.prog 76 #[.pointer (some ⟨g,0,none⟩)] w fun e w'=>e=.returned (.tuple #[])∧Touch g w w'∧Blk g w' (arrCells (endX d s now) s now sv):=by
 have hfi:=fun wx Ax=>implIsFin g d s now sv hf wx Ax
 obtain ⟨f,hfe⟩:∃ q,Hid (q=finInB d s):=⟨_,rfl⟩
 rw [← hfe.out] at hfi
 obtain ⟨s3,hs3⟩:∃ q,Hid (q=(d.st == 3)):=⟨_,rfl⟩
 obtain ⟨s4,hs4⟩:∃ q,Hid (q=(d.st == 4)):=⟨_,rfl⟩
 obtain ⟨s5,hs5⟩:∃ q,Hid (q=(d.st == 5)):=⟨_,rfl⟩
 have hX:Hid (endX d s now=if f then (if s3 then {heardC d with st:=6} else if s4 then {heardC d with st:=7} else if s5 then {restC (heardC d) now with agn:=0} else heardC d) else d):=by
  show _=_
  rw [hfe.out,hs3.out,hs4.out,hs5.out]
  rfl
 generalize endX d s now=cX at hX ⊢
 have hA:=A.lt
 have G:=Touch.refl g w
 go_enter Tryz.func76,Tryz.ntmps76
 go_upto_region 0 with (fail)
 refine vR ?_
 refine vV (pX g 0) ?_
 refine vV (pX g 0) ?_
 refine vV (pX g 0) ?_
 refine vV (pX g 0) ?_
 refine vE #[pX g 0,U,pX g 0,pX g 0,pX g 0,pX g 0,U,U,U,U,U,U,U,U,U,U,U,U,U,U,U,U,U,U,U,U,U,U,U,U,U,U,U,U,U,U,U,U,U,U,U,U,U,U,U,U,U,U,U] ?_
 go_upto_region 1 with (fail)
 cases f
 case false=>
  refine vR ?_
  refine vV (pX g 0) ?_
  refine vK (hfi _ A) ?_
  intro qw1 qg2
  replace A:=A.since qg2
  replace G:=touch_since G qg2
  have qg2_s:=qg2.size
  refine vV (bT) ?_
  refine vE #[pX g 0,U,pX g 0,pX g 0,pX g 0,pX g 0,pX g 0,bF,bT,U,U,U,U,U,U,U,U,U,U,U,U,U,U,U,U,U,U,U,U,U,U,U,U,U,U,U,U,U,U,U,U,U,U,U,U,U,U,U,U] ?_
  have hfin:Hid (cX=d):=hX.out
  go_wp2_with (fail)
  refine bodyPost_ret (v:=.tuple #[]) (results_none rfl _ _ _) rfl ⟨rfl,G,?_⟩
  rw [hfin.out]
  exact A
 case true=>
  cases s3
  case true=>
   refine vR ?_
   refine vV (pX g 0) ?_
   refine vK (hfi _ A) ?_
   intro qw1 qg2
   replace A:=A.since qg2
   replace G:=touch_since G qg2
   have qg2_s:=qg2.size
   refine vV (bF) ?_
   refine vE #[pX g 0,U,pX g 0,pX g 0,pX g 0,pX g 0,pX g 0,bT,bF,U,U,U,U,U,U,U,U,U,U,U,U,U,U,U,U,U,U,U,U,U,U,U,U,U,U,U,U,U,U,U,U,U,U,U,U,U,U,U,U] ?_
   go_upto_region 2 with (fail)
   refine vR ?_
   refine vV (pX g 0) ?_
   refine vV (pX g 0) ?_
   refine vV (pX g 11) ?_
   refine vV (pX g 11) ?_
   refine vD (uJ d.iN) (A.cell 11) ?_
   refine vV (uJ ((d.iN+1) % 4294967296)) ?_
   refine vV (pX g 0) ?_
   refine vV (pX g 11) ?_
   refine vV (pX g 11) ?_
   refine sC (arrCells {d with iN:=((d.iN+1) % 4294967296)} s now (sv)) A 11 (.int .u32 ((d.iN+1) % 4294967296)) (arr_size _ _ _ _) ?_
   intro qw3 qt4 qB5
   clear A
   replace G:=touch_new G qt4 (by omega)
   have qt4_s:=qt4.size
   refine vE #[pX g 0,U,pX g 0,pX g 0,pX g 0,pX g 0,pX g 0,bT,bF,pX g 0,pX g 0,pX g 11,pX g 11,uJ d.iN,uJ ((d.iN+1) % 4294967296),pX g 0,pX g 11,pX g 11,U,U,U,U,U,U,U,U,U,U,U,U,U,U,U,U,U,U,U,U,U,U,U,U,U,U,U,U,U,U,U] ?_
   go_upto_region 3 with (fail)
   refine vR ?_
   refine vV (pX g 0) ?_
   refine vV (pX g 0) ?_
   refine vV (pX g 0) ?_
   refine vV (pX g 18) ?_
   refine sC (arrCells {d with iN:=((d.iN+1) % 4294967296),gfn:=true} s now (sv)) qB5 18 (.bool true) (arr_size _ _ _ _) ?_
   intro qw6 qt7 qB8
   clear qB5
   replace G:=touch_new G qt7 (by omega)
   have qt7_s:=qt7.size
   refine vV (pX g 0) ?_
   refine vV (pX g 36) ?_
   refine sC (arrCells {d with iN:=((d.iN+1) % 4294967296),gfn:=true,owe:=true} s now (sv)) qB8 36 (.bool true) (arr_size _ _ _ _) ?_
   intro qw9 qt10 qB11
   clear qB8
   replace G:=touch_new G qt10 (by omega)
   have qt10_s:=qt10.size
   refine vE #[pX g 0,U,pX g 0,pX g 0,pX g 0,pX g 0,pX g 0,bT,bF,pX g 0,pX g 0,pX g 11,pX g 11,uJ d.iN,uJ ((d.iN+1) % 4294967296),pX g 0,pX g 11,pX g 11,pX g 0,pX g 0,pX g 0,pX g 18,pX g 0,pX g 36,U,U,U,U,U,U,U,U,U,U,U,U,U,U,U,U,U,U,U,U,U,U,U,U,U] ?_
   go_upto_region 4 with (fail)
   refine vR ?_
   refine vV (pX g 0) ?_
   refine vV (pX g 0) ?_
   refine vV (pX g 0) ?_
   refine vD (iJ d.st) (qB11.cell 0) ?_
   refine vE #[pX g 0,U,pX g 0,pX g 0,pX g 0,pX g 0,pX g 0,bT,bF,pX g 0,pX g 0,pX g 11,pX g 11,uJ d.iN,uJ ((d.iN+1) % 4294967296),pX g 0,pX g 11,pX g 11,pX g 0,pX g 0,pX g 0,pX g 18,pX g 0,pX g 36,pX g 0,pX g 0,pX g 0,iJ d.st,U,U,U,U,U,U,U,U,U,U,U,U,U,U,U,U,U,U,U,U,U] ?_
   go_upto_region 5 with (fail)
   refine vR ?_
   refine vV (.bool true) ?_ (hrun:=by rw [show true=(d.st == 3) from hs3.out];kernel_rfl)
   refine vV (bT) ?_
   refine vE #[pX g 0,U,pX g 0,pX g 0,pX g 0,pX g 0,pX g 0,bT,bF,pX g 0,pX g 0,pX g 11,pX g 11,uJ d.iN,uJ ((d.iN+1) % 4294967296),pX g 0,pX g 11,pX g 11,pX g 0,pX g 0,pX g 0,pX g 18,pX g 0,pX g 36,pX g 0,pX g 0,pX g 0,iJ d.st,bT,bT,U,U,U,U,U,U,U,U,U,U,U,U,U,U,U,U,U,U,U] ?_
   go_upto_region 6 with (fail)
   refine vR ?_
   refine vV (pX g 0) ?_
   refine vV (pX g 0) ?_
   refine vV (pX g 0) ?_
   refine sC (arrCells {d with iN:=((d.iN+1) % 4294967296),gfn:=true,owe:=true,st:=6} s now (sv)) qB11 0 (.int .i64 6) (arr_size _ _ _ _) ?_
   intro qw12 qt13 qB14
   clear qB11
   replace G:=touch_new G qt13 (by omega)
   have qt13_s:=qt13.size
   refine vE #[pX g 0,U,pX g 0,pX g 0,pX g 0,pX g 0,pX g 0,bT,bF,pX g 0,pX g 0,pX g 11,pX g 11,uJ d.iN,uJ ((d.iN+1) % 4294967296),pX g 0,pX g 11,pX g 11,pX g 0,pX g 0,pX g 0,pX g 18,pX g 0,pX g 36,pX g 0,pX g 0,pX g 0,iJ d.st,bT,bT,pX g 0,pX g 0,pX g 0,U,U,U,U,U,U,U,U,U,U,U,U,U,U,U,U] ?_
   have hfin:Hid (cX={heardC d with st:=6}):=hX.out
   go_wp2_with (fail)
   refine bodyPost_end (v:=.tuple #[]) (results_none rfl _ _ _) rfl ⟨rfl,G,?_⟩
   rw [hfin.out]
   exact qB14
  case false=>
   cases s4
   case true=>
    refine vR ?_
    refine vV (pX g 0) ?_
    refine vK (hfi _ A) ?_
    intro qw1 qg2
    replace A:=A.since qg2
    replace G:=touch_since G qg2
    have qg2_s:=qg2.size
    refine vV (bF) ?_
    refine vE #[pX g 0,U,pX g 0,pX g 0,pX g 0,pX g 0,pX g 0,bT,bF,U,U,U,U,U,U,U,U,U,U,U,U,U,U,U,U,U,U,U,U,U,U,U,U,U,U,U,U,U,U,U,U,U,U,U,U,U,U,U,U] ?_
    go_upto_region 2 with (fail)
    refine vR ?_
    refine vV (pX g 0) ?_
    refine vV (pX g 0) ?_
    refine vV (pX g 11) ?_
    refine vV (pX g 11) ?_
    refine vD (uJ d.iN) (A.cell 11) ?_
    refine vV (uJ ((d.iN+1) % 4294967296)) ?_
    refine vV (pX g 0) ?_
    refine vV (pX g 11) ?_
    refine vV (pX g 11) ?_
    refine sC (arrCells {d with iN:=((d.iN+1) % 4294967296)} s now (sv)) A 11 (.int .u32 ((d.iN+1) % 4294967296)) (arr_size _ _ _ _) ?_
    intro qw3 qt4 qB5
    clear A
    replace G:=touch_new G qt4 (by omega)
    have qt4_s:=qt4.size
    refine vE #[pX g 0,U,pX g 0,pX g 0,pX g 0,pX g 0,pX g 0,bT,bF,pX g 0,pX g 0,pX g 11,pX g 11,uJ d.iN,uJ ((d.iN+1) % 4294967296),pX g 0,pX g 11,pX g 11,U,U,U,U,U,U,U,U,U,U,U,U,U,U,U,U,U,U,U,U,U,U,U,U,U,U,U,U,U,U,U] ?_
    go_upto_region 3 with (fail)
    refine vR ?_
    refine vV (pX g 0) ?_
    refine vV (pX g 0) ?_
    refine vV (pX g 0) ?_
    refine vV (pX g 18) ?_
    refine sC (arrCells {d with iN:=((d.iN+1) % 4294967296),gfn:=true} s now (sv)) qB5 18 (.bool true) (arr_size _ _ _ _) ?_
    intro qw6 qt7 qB8
    clear qB5
    replace G:=touch_new G qt7 (by omega)
    have qt7_s:=qt7.size
    refine vV (pX g 0) ?_
    refine vV (pX g 36) ?_
    refine sC (arrCells {d with iN:=((d.iN+1) % 4294967296),gfn:=true,owe:=true} s now (sv)) qB8 36 (.bool true) (arr_size _ _ _ _) ?_
    intro qw9 qt10 qB11
    clear qB8
    replace G:=touch_new G qt10 (by omega)
    have qt10_s:=qt10.size
    refine vE #[pX g 0,U,pX g 0,pX g 0,pX g 0,pX g 0,pX g 0,bT,bF,pX g 0,pX g 0,pX g 11,pX g 11,uJ d.iN,uJ ((d.iN+1) % 4294967296),pX g 0,pX g 11,pX g 11,pX g 0,pX g 0,pX g 0,pX g 18,pX g 0,pX g 36,U,U,U,U,U,U,U,U,U,U,U,U,U,U,U,U,U,U,U,U,U,U,U,U,U] ?_
    go_upto_region 4 with (fail)
    refine vR ?_
    refine vV (pX g 0) ?_
    refine vV (pX g 0) ?_
    refine vV (pX g 0) ?_
    refine vD (iJ d.st) (qB11.cell 0) ?_
    refine vE #[pX g 0,U,pX g 0,pX g 0,pX g 0,pX g 0,pX g 0,bT,bF,pX g 0,pX g 0,pX g 11,pX g 11,uJ d.iN,uJ ((d.iN+1) % 4294967296),pX g 0,pX g 11,pX g 11,pX g 0,pX g 0,pX g 0,pX g 18,pX g 0,pX g 36,pX g 0,pX g 0,pX g 0,iJ d.st,U,U,U,U,U,U,U,U,U,U,U,U,U,U,U,U,U,U,U,U,U] ?_
    go_upto_region 5 with (fail)
    refine vR ?_
    refine vV (.bool false) ?_ (hrun:=by rw [show false=(d.st == 3) from hs3.out];kernel_rfl)
    refine vV (bF) ?_
    refine vE #[pX g 0,U,pX g 0,pX g 0,pX g 0,pX g 0,pX g 0,bT,bF,pX g 0,pX g 0,pX g 11,pX g 11,uJ d.iN,uJ ((d.iN+1) % 4294967296),pX g 0,pX g 11,pX g 11,pX g 0,pX g 0,pX g 0,pX g 18,pX g 0,pX g 36,pX g 0,pX g 0,pX g 0,iJ d.st,bF,bF,U,U,U,U,U,U,U,U,U,U,U,U,U,U,U,U,U,U,U] ?_
    go_upto_region 7 with (fail)
    refine vR ?_
    refine vV (.bool true) ?_ (hrun:=by rw [show true=(d.st == 4) from hs4.out];kernel_rfl)
    refine vV (bT) ?_
    refine vE #[pX g 0,U,pX g 0,pX g 0,pX g 0,pX g 0,pX g 0,bT,bF,pX g 0,pX g 0,pX g 11,pX g 11,uJ d.iN,uJ ((d.iN+1) % 4294967296),pX g 0,pX g 11,pX g 11,pX g 0,pX g 0,pX g 0,pX g 18,pX g 0,pX g 36,pX g 0,pX g 0,pX g 0,iJ d.st,bF,bF,U,U,U,bT,bT,U,U,U,U,U,U,U,U,U,U,U,U,U,U] ?_
    go_upto_region 8 with (fail)
    refine vR ?_
    refine vV (pX g 0) ?_
    refine vV (pX g 0) ?_
    refine vV (pX g 0) ?_
    refine sC (arrCells {d with iN:=((d.iN+1) % 4294967296),gfn:=true,owe:=true,st:=7} s now (sv)) qB11 0 (.int .i64 7) (arr_size _ _ _ _) ?_
    intro qw12 qt13 qB14
    clear qB11
    replace G:=touch_new G qt13 (by omega)
    have qt13_s:=qt13.size
    refine vE #[pX g 0,U,pX g 0,pX g 0,pX g 0,pX g 0,pX g 0,bT,bF,pX g 0,pX g 0,pX g 11,pX g 11,uJ d.iN,uJ ((d.iN+1) % 4294967296),pX g 0,pX g 11,pX g 11,pX g 0,pX g 0,pX g 0,pX g 18,pX g 0,pX g 36,pX g 0,pX g 0,pX g 0,iJ d.st,bF,bF,U,U,U,bT,bT,pX g 0,pX g 0,pX g 0,U,U,U,U,U,U,U,U,U,U,U] ?_
    have hfin:Hid (cX={heardC d with st:=7}):=hX.out
    go_wp2_with (fail)
    refine bodyPost_end (v:=.tuple #[]) (results_none rfl _ _ _) rfl ⟨rfl,G,?_⟩
    rw [hfin.out]
    exact qB14
   case false=>
    cases s5
    case true=>
     refine vR ?_
     refine vV (pX g 0) ?_
     refine vK (hfi _ A) ?_
     intro qw1 qg2
     replace A:=A.since qg2
     replace G:=touch_since G qg2
     have qg2_s:=qg2.size
     refine vV (bF) ?_
     refine vE #[pX g 0,U,pX g 0,pX g 0,pX g 0,pX g 0,pX g 0,bT,bF,U,U,U,U,U,U,U,U,U,U,U,U,U,U,U,U,U,U,U,U,U,U,U,U,U,U,U,U,U,U,U,U,U,U,U,U,U,U,U,U] ?_
     go_upto_region 2 with (fail)
     refine vR ?_
     refine vV (pX g 0) ?_
     refine vV (pX g 0) ?_
     refine vV (pX g 11) ?_
     refine vV (pX g 11) ?_
     refine vD (uJ d.iN) (A.cell 11) ?_
     refine vV (uJ ((d.iN+1) % 4294967296)) ?_
     refine vV (pX g 0) ?_
     refine vV (pX g 11) ?_
     refine vV (pX g 11) ?_
     refine sC (arrCells {d with iN:=((d.iN+1) % 4294967296)} s now (sv)) A 11 (.int .u32 ((d.iN+1) % 4294967296)) (arr_size _ _ _ _) ?_
     intro qw3 qt4 qB5
     clear A
     replace G:=touch_new G qt4 (by omega)
     have qt4_s:=qt4.size
     refine vE #[pX g 0,U,pX g 0,pX g 0,pX g 0,pX g 0,pX g 0,bT,bF,pX g 0,pX g 0,pX g 11,pX g 11,uJ d.iN,uJ ((d.iN+1) % 4294967296),pX g 0,pX g 11,pX g 11,U,U,U,U,U,U,U,U,U,U,U,U,U,U,U,U,U,U,U,U,U,U,U,U,U,U,U,U,U,U,U] ?_
     go_upto_region 3 with (fail)
     refine vR ?_
     refine vV (pX g 0) ?_
     refine vV (pX g 0) ?_
     refine vV (pX g 0) ?_
     refine vV (pX g 18) ?_
     refine sC (arrCells {d with iN:=((d.iN+1) % 4294967296),gfn:=true} s now (sv)) qB5 18 (.bool true) (arr_size _ _ _ _) ?_
     intro qw6 qt7 qB8
     clear qB5
     replace G:=touch_new G qt7 (by omega)
     have qt7_s:=qt7.size
     refine vV (pX g 0) ?_
     refine vV (pX g 36) ?_
     refine sC (arrCells {d with iN:=((d.iN+1) % 4294967296),gfn:=true,owe:=true} s now (sv)) qB8 36 (.bool true) (arr_size _ _ _ _) ?_
     intro qw9 qt10 qB11
     clear qB8
     replace G:=touch_new G qt10 (by omega)
     have qt10_s:=qt10.size
     refine vE #[pX g 0,U,pX g 0,pX g 0,pX g 0,pX g 0,pX g 0,bT,bF,pX g 0,pX g 0,pX g 11,pX g 11,uJ d.iN,uJ ((d.iN+1) % 4294967296),pX g 0,pX g 11,pX g 11,pX g 0,pX g 0,pX g 0,pX g 18,pX g 0,pX g 36,U,U,U,U,U,U,U,U,U,U,U,U,U,U,U,U,U,U,U,U,U,U,U,U,U] ?_
     go_upto_region 4 with (fail)
     refine vR ?_
     refine vV (pX g 0) ?_
     refine vV (pX g 0) ?_
     refine vV (pX g 0) ?_
     refine vD (iJ d.st) (qB11.cell 0) ?_
     refine vE #[pX g 0,U,pX g 0,pX g 0,pX g 0,pX g 0,pX g 0,bT,bF,pX g 0,pX g 0,pX g 11,pX g 11,uJ d.iN,uJ ((d.iN+1) % 4294967296),pX g 0,pX g 11,pX g 11,pX g 0,pX g 0,pX g 0,pX g 18,pX g 0,pX g 36,pX g 0,pX g 0,pX g 0,iJ d.st,U,U,U,U,U,U,U,U,U,U,U,U,U,U,U,U,U,U,U,U,U] ?_
     go_upto_region 5 with (fail)
     refine vR ?_
     refine vV (.bool false) ?_ (hrun:=by rw [show false=(d.st == 3) from hs3.out];kernel_rfl)
     refine vV (bF) ?_
     refine vE #[pX g 0,U,pX g 0,pX g 0,pX g 0,pX g 0,pX g 0,bT,bF,pX g 0,pX g 0,pX g 11,pX g 11,uJ d.iN,uJ ((d.iN+1) % 4294967296),pX g 0,pX g 11,pX g 11,pX g 0,pX g 0,pX g 0,pX g 18,pX g 0,pX g 36,pX g 0,pX g 0,pX g 0,iJ d.st,bF,bF,U,U,U,U,U,U,U,U,U,U,U,U,U,U,U,U,U,U,U] ?_
     go_upto_region 7 with (fail)
     refine vR ?_
     refine vV (.bool false) ?_ (hrun:=by rw [show false=(d.st == 4) from hs4.out];kernel_rfl)
     refine vV (bF) ?_
     refine vE #[pX g 0,U,pX g 0,pX g 0,pX g 0,pX g 0,pX g 0,bT,bF,pX g 0,pX g 0,pX g 11,pX g 11,uJ d.iN,uJ ((d.iN+1) % 4294967296),pX g 0,pX g 11,pX g 11,pX g 0,pX g 0,pX g 0,pX g 18,pX g 0,pX g 36,pX g 0,pX g 0,pX g 0,iJ d.st,bF,bF,U,U,U,bF,bF,U,U,U,U,U,U,U,U,U,U,U,U,U,U] ?_
     go_upto_region 9 with (fail)
     refine vR ?_
     refine vV (.bool true) ?_ (hrun:=by rw [show true=(d.st == 5) from hs5.out];kernel_rfl)
     refine vV (bT) ?_
     refine vE #[pX g 0,U,pX g 0,pX g 0,pX g 0,pX g 0,pX g 0,bT,bF,pX g 0,pX g 0,pX g 11,pX g 11,uJ d.iN,uJ ((d.iN+1) % 4294967296),pX g 0,pX g 11,pX g 11,pX g 0,pX g 0,pX g 0,pX g 18,pX g 0,pX g 36,pX g 0,pX g 0,pX g 0,iJ d.st,bF,bF,U,U,U,bF,bF,U,U,U,bT,bT,U,U,U,U,U,U,U,U,U] ?_
     go_upto_region 10 with (fail)
     refine vR ?_
     refine vV (pX g 0) ?_
     refine vV (pX g 0) ?_
     refine vV (pX g 0) ?_
     refine vV (pX g 45) ?_
     refine vD (iJ now) (qB11.cell 45) ?_
     refine vC (implRestA g _ s now sv now h0 h1 _ qB11) ?_
     rintro _ qw12 ⟨rfl,qt13,qB14⟩
     refine ⟨_,rfl,?_⟩
     clear qB11
     replace G:=touch_new G qt13 (by omega)
     have qt13_s:=qt13.size
     refine vE #[pX g 0,U,pX g 0,pX g 0,pX g 0,pX g 0,pX g 0,bT,bF,pX g 0,pX g 0,pX g 11,pX g 11,uJ d.iN,uJ ((d.iN+1) % 4294967296),pX g 0,pX g 11,pX g 11,pX g 0,pX g 0,pX g 0,pX g 18,pX g 0,pX g 36,pX g 0,pX g 0,pX g 0,iJ d.st,bF,bF,U,U,U,bF,bF,U,U,U,bT,bT,pX g 0,pX g 0,pX g 0,pX g 45,iJ now,.tuple #[],U,U,U] ?_
     go_upto_region 11 with (fail)
     refine vR ?_
     refine vV (pX g 0) ?_
     refine vV (pX g 0) ?_
     refine vV (pX g 31) ?_
     refine sC (arrCells {d with iN:=((d.iN+1) % 4294967296),gfn:=true,owe:=true,st:=9,rst:=(now+60),agn:=0} s now (sv)) qB14 31 (.int .i64 0) (arr_size _ _ _ _) ?_
     intro qw15 qt16 qB17
     clear qB14
     replace G:=touch_new G qt16 (by omega)
     have qt16_s:=qt16.size
     refine vE #[pX g 0,U,pX g 0,pX g 0,pX g 0,pX g 0,pX g 0,bT,bF,pX g 0,pX g 0,pX g 11,pX g 11,uJ d.iN,uJ ((d.iN+1) % 4294967296),pX g 0,pX g 11,pX g 11,pX g 0,pX g 0,pX g 0,pX g 18,pX g 0,pX g 36,pX g 0,pX g 0,pX g 0,iJ d.st,bF,bF,U,U,U,bF,bF,U,U,U,bT,bT,pX g 0,pX g 0,pX g 0,pX g 45,iJ now,.tuple #[],pX g 0,pX g 0,pX g 31] ?_
     have hfin:Hid (cX={restC (heardC d) now with agn:=0}):=hX.out
     go_wp2_with (fail)
     refine bodyPost_end (v:=.tuple #[]) (results_none rfl _ _ _) rfl ⟨rfl,G,?_⟩
     rw [hfin.out]
     exact qB17
    case false=>
     refine vR ?_
     refine vV (pX g 0) ?_
     refine vK (hfi _ A) ?_
     intro qw1 qg2
     replace A:=A.since qg2
     replace G:=touch_since G qg2
     have qg2_s:=qg2.size
     refine vV (bF) ?_
     refine vE #[pX g 0,U,pX g 0,pX g 0,pX g 0,pX g 0,pX g 0,bT,bF,U,U,U,U,U,U,U,U,U,U,U,U,U,U,U,U,U,U,U,U,U,U,U,U,U,U,U,U,U,U,U,U,U,U,U,U,U,U,U,U] ?_
     go_upto_region 2 with (fail)
     refine vR ?_
     refine vV (pX g 0) ?_
     refine vV (pX g 0) ?_
     refine vV (pX g 11) ?_
     refine vV (pX g 11) ?_
     refine vD (uJ d.iN) (A.cell 11) ?_
     refine vV (uJ ((d.iN+1) % 4294967296)) ?_
     refine vV (pX g 0) ?_
     refine vV (pX g 11) ?_
     refine vV (pX g 11) ?_
     refine sC (arrCells {d with iN:=((d.iN+1) % 4294967296)} s now (sv)) A 11 (.int .u32 ((d.iN+1) % 4294967296)) (arr_size _ _ _ _) ?_
     intro qw3 qt4 qB5
     clear A
     replace G:=touch_new G qt4 (by omega)
     have qt4_s:=qt4.size
     refine vE #[pX g 0,U,pX g 0,pX g 0,pX g 0,pX g 0,pX g 0,bT,bF,pX g 0,pX g 0,pX g 11,pX g 11,uJ d.iN,uJ ((d.iN+1) % 4294967296),pX g 0,pX g 11,pX g 11,U,U,U,U,U,U,U,U,U,U,U,U,U,U,U,U,U,U,U,U,U,U,U,U,U,U,U,U,U,U,U] ?_
     go_upto_region 3 with (fail)
     refine vR ?_
     refine vV (pX g 0) ?_
     refine vV (pX g 0) ?_
     refine vV (pX g 0) ?_
     refine vV (pX g 18) ?_
     refine sC (arrCells {d with iN:=((d.iN+1) % 4294967296),gfn:=true} s now (sv)) qB5 18 (.bool true) (arr_size _ _ _ _) ?_
     intro qw6 qt7 qB8
     clear qB5
     replace G:=touch_new G qt7 (by omega)
     have qt7_s:=qt7.size
     refine vV (pX g 0) ?_
     refine vV (pX g 36) ?_
     refine sC (arrCells {d with iN:=((d.iN+1) % 4294967296),gfn:=true,owe:=true} s now (sv)) qB8 36 (.bool true) (arr_size _ _ _ _) ?_
     intro qw9 qt10 qB11
     clear qB8
     replace G:=touch_new G qt10 (by omega)
     have qt10_s:=qt10.size
     refine vE #[pX g 0,U,pX g 0,pX g 0,pX g 0,pX g 0,pX g 0,bT,bF,pX g 0,pX g 0,pX g 11,pX g 11,uJ d.iN,uJ ((d.iN+1) % 4294967296),pX g 0,pX g 11,pX g 11,pX g 0,pX g 0,pX g 0,pX g 18,pX g 0,pX g 36,U,U,U,U,U,U,U,U,U,U,U,U,U,U,U,U,U,U,U,U,U,U,U,U,U] ?_
     go_upto_region 4 with (fail)
     refine vR ?_
     refine vV (pX g 0) ?_
     refine vV (pX g 0) ?_
     refine vV (pX g 0) ?_
     refine vD (iJ d.st) (qB11.cell 0) ?_
     refine vE #[pX g 0,U,pX g 0,pX g 0,pX g 0,pX g 0,pX g 0,bT,bF,pX g 0,pX g 0,pX g 11,pX g 11,uJ d.iN,uJ ((d.iN+1) % 4294967296),pX g 0,pX g 11,pX g 11,pX g 0,pX g 0,pX g 0,pX g 18,pX g 0,pX g 36,pX g 0,pX g 0,pX g 0,iJ d.st,U,U,U,U,U,U,U,U,U,U,U,U,U,U,U,U,U,U,U,U,U] ?_
     go_upto_region 5 with (fail)
     refine vR ?_
     refine vV (.bool false) ?_ (hrun:=by rw [show false=(d.st == 3) from hs3.out];kernel_rfl)
     refine vV (bF) ?_
     refine vE #[pX g 0,U,pX g 0,pX g 0,pX g 0,pX g 0,pX g 0,bT,bF,pX g 0,pX g 0,pX g 11,pX g 11,uJ d.iN,uJ ((d.iN+1) % 4294967296),pX g 0,pX g 11,pX g 11,pX g 0,pX g 0,pX g 0,pX g 18,pX g 0,pX g 36,pX g 0,pX g 0,pX g 0,iJ d.st,bF,bF,U,U,U,U,U,U,U,U,U,U,U,U,U,U,U,U,U,U,U] ?_
     go_upto_region 7 with (fail)
     refine vR ?_
     refine vV (.bool false) ?_ (hrun:=by rw [show false=(d.st == 4) from hs4.out];kernel_rfl)
     refine vV (bF) ?_
     refine vE #[pX g 0,U,pX g 0,pX g 0,pX g 0,pX g 0,pX g 0,bT,bF,pX g 0,pX g 0,pX g 11,pX g 11,uJ d.iN,uJ ((d.iN+1) % 4294967296),pX g 0,pX g 11,pX g 11,pX g 0,pX g 0,pX g 0,pX g 18,pX g 0,pX g 36,pX g 0,pX g 0,pX g 0,iJ d.st,bF,bF,U,U,U,bF,bF,U,U,U,U,U,U,U,U,U,U,U,U,U,U] ?_
     go_upto_region 9 with (fail)
     refine vR ?_
     refine vV (.bool false) ?_ (hrun:=by rw [show false=(d.st == 5) from hs5.out];kernel_rfl)
     refine vV (bF) ?_
     refine vE #[pX g 0,U,pX g 0,pX g 0,pX g 0,pX g 0,pX g 0,bT,bF,pX g 0,pX g 0,pX g 11,pX g 11,uJ d.iN,uJ ((d.iN+1) % 4294967296),pX g 0,pX g 11,pX g 11,pX g 0,pX g 0,pX g 0,pX g 18,pX g 0,pX g 36,pX g 0,pX g 0,pX g 0,iJ d.st,bF,bF,U,U,U,bF,bF,U,U,U,bF,bF,U,U,U,U,U,U,U,U,U] ?_
     have hfin:Hid (cX=heardC d):=hX.out
     go_wp2_with (fail)
     refine bodyPost_end (v:=.tuple #[]) (results_none rfl _ _ _) rfl ⟨rfl,G,?_⟩
     rw [hfin.out]
     exact qB11
end Go.Proofs.YtmigalhmlofbkaaGreatDoor
