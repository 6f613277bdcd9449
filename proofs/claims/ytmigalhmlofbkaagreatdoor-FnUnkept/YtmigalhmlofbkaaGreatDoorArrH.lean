/- A part of the proof. -/
import Derived.Test.YtmigalhmlofbkaaGreatDoorM35
set_option linter.unusedVariables false
set_option maxRecDepth 20000
set_option maxHeartbeats 8000000
namespace Go.Proofs.YtmigalhmlofbkaaGreatDoor
open Go.ChangeShapes Go.WideShapes Go.ChangeAt Go.RowKit Go.Deep
structure TakeF (B g pg gs tb:Nat) (s:Sg) (now:Int) (ps:List (Int×ByteArray)) (w:World) (e:Cn) (x:World):Prop where
 blk:Blk g x (arrCells e s now (.slice (some ⟨gs,0,none⟩) 0 0))
 list:Held shG x B gs 0 0 []
 parts:Held shP x B pg e.pn e.pc ps
 pa:e.pa=some ⟨pg,0,none⟩
 base:Base B w x
 laid:Laid0 x
 mf:∃ cs,cs.size=4∧Blk tb x cs
 wd:Wd e
 gd:Good e.iN e.iD e.iR e.pn ps
structure TakeT (e:Cn):Prop where
 t2:0≤e.tat
 t3:e.tat≤2000000000
 hp:0≤distI e.una e.mx
def TakeZ (B g:Nat) (s:Sg) (now:Int) (X:Came) (w:World) (x:World):Prop:=
 Base B w x∧∃ gs' n' c' gp m cp,Blk g x (arrCells (laidC X.1 gp m cp) s now (.slice (some ⟨gs',0,none⟩) n' c'))∧Held shG x B gs' n' c' X.2.2∧Held shP x B gp m cp X.2.1∧g≠gs'∧gp≠g∧gs'≠gp
def takeK (B g pg gs tb:Nat) (s:Sg) (now:Int) (ps:List (Int×ByteArray)) (X:Came) (w:World) (l:Nat) (x:World):Prop:=
 match l with
 | 0=>∃ e,TakeF B g pg gs tb s now ps w e x∧TakeT e∧X=cameI e s now ps
 | 1=>∃ e,TakeF B g pg gs tb s now ps w e x∧TakeT e∧X=fromW e s now ps
 | 2=>TakeZ B g s now X w x
 | 3=>∃ e,TakeF B g pg gs tb s now ps w e x∧TakeT e∧X=fromL e s now ps
 | 4=>∃ e,TakeF B g pg gs tb s now ps w e x∧TakeT e∧X=fromC e s now ps
 | 5=>∃ e,TakeF B g pg gs tb s now ps w e x∧X=fromF e s now ps
 | 6=>∃ e,TakeF B g pg gs tb s now ps w e x∧X=fromF (toldX e s) s now ps
 | 7=>∃ e,TakeF B g pg gs tb s now ps w e x∧X=fromD e s now ps
 | 8=>∃ e gp m cp,Blk g x (arrCells (laidC (takenC e s ps) gp m cp) s now (.slice (some ⟨gs,0,none⟩) 0 0))∧Held shG x B gs 0 0 []∧Held shP x B gp m cp (takenP e s ps)∧gp≠g∧gs≠gp∧Base B w x∧X=fromD e s now ps
 | _=>False
def takeJ (B g pg gs tb:Nat) (s:Sg) (now:Int) (ps:List (Int×ByteArray)) (X:Came) (w:World) (l:Nat) (a:Act) (x:World):Prop:=(∃ v3 v4 v5 v6 v7 v8 v9 v10 v11 v12 v13 v14 v15 v16 v17 v18 v19 v20 v21 v22 v23 v24 v25 v26 v27 v28 v29 v30 v31 v32 v33 v34 v35 v36 v37 v38 v39 v40 v41 v42 v43 v44 v45 v46 v47 v48:Value,a={tmps:=#[pX g 0,U,pX tb 0,v3,v4,v5,v6,v7,v8,v9,v10,v11,v12,v13,v14,v15,v16,v17,v18,v19,v20,v21,v22,v23,v24,v25,v26,v27,v28,v29,v30,v31,v32,v33,v34,v35,v36,v37,v38,v39,v40,v41,v42,v43,v44,v45,v46,v47,v48],defers:=[]})∧takeK B g pg gs tb s now ps X w l x
def takeRk (l:Nat):Nat:=match l with|0=>8|1=>7|3=>6|4=>5|6=>4|5=>3|7=>2|8=>1|_=>0
theorem jump_in {J:Nat→Act→World→Prop} {Q:Exit→Act→World→Prop} {l l':Nat} {a:Act} {x:World} (h:J l' a x) (hr:takeRk l'<takeRk l):jumpsTo (fun l' a' w'=>J l' a' w'∧takeRk l'<takeRk l) Q (.goto l') a x:=⟨h,hr⟩
theorem isAt {X:Came} {e:Cn} {ps:List (Int×ByteArray)} {xs:List Sg} {B g gs n c pg:Nat} {s:Sg} {now:Int} {w x:World} (hX:X=(e,ps,xs)) (G:Base B w x) (A:Blk g x (arrCells e s now (.slice (some ⟨gs,0,none⟩) n c))) (L:Held shG x B gs n c xs) (P:Held shP x B pg e.pn e.pc ps) (pa:e.pa=some ⟨pg,0,none⟩) (h1:g≠gs) (h2:pg≠g) (h3:gs≠pg):TakeZ B g s now X w x:=by
 subst hX
 exact ⟨G,gs,n,c,pg,e.pn,e.pc,by rw [laid_id pa rfl rfl];exact A,L,P,h1,h2,h3⟩
def scopeOf:Option Code→Code
 | some (.scope c)=>c
 | _=>.skip
theorem take1 (B g pg gs tb:Nat) (s:Sg) (now:Int) (ps:List (Int×ByteArray)) (X:Came) (w:World) (Q:Exit→Act→World→Prop) (h0:0≤now) (h1:now≤1000000000) (hf:IsInt s.fl) (hds:s.d.size≤1048576) (w_sq:IsWord s.sq) (w_ak:IsWord s.ak) (hB0:1<B) (hgB:B≤g) (htB:B≤tb) (n1:g≠gs) (n2:g≠pg) (n3:gs≠pg) (n4:g≠tb) (n5:gs≠tb) (n6:pg≠tb)
  (Qe:∀ a x,takeJ B g pg gs tb s now ps X w 2 a x→Q .normal a x) (a:Act) (x:World) :
  takeJ B g pg gs tb s now ps X w 1 a x→((findLabel (scopeOf Tryz.f32.body) 1).getD .skip).wp Tryz.prog (jumpsTo (fun l' a' w'=>takeJ B g pg gs tb s now ps X w l' a' w'∧takeRk l'<takeRk 1) Q) a x:=by
 rintro ⟨⟨v3,v4,v5,v6,v7,v8,v9,v10,v11,v12,v13,v14,v15,v16,v17,v18,v19,v20,v21,v22,v23,v24,v25,v26,v27,v28,v29,v30,v31,v32,v33,v34,v35,v36,v37,v38,v39,v40,v41,v42,v43,v44,v45,v46,v47,v48,rfl⟩,HH⟩
 obtain ⟨e,⟨A,L,P,pa,G,La,⟨mc,hmc,M⟩,wd,gd⟩,tt,hX⟩:=HH
 have hA:=A.lt
 have hL:=L.lt
 have hLo:=L.low'
 have hP:=P.lt
 have hPo:=P.low'
 have hM:=M.lt
 have hGs:=G.size
 have hpl:=fun wx Ax Rx=>implPlaced g e s now (.slice (some ⟨gs,0,none⟩) 0 0) ps hf hds w_sq wd.w_iN gd wx Ax Rx
 unfold fromW at hX
 generalize winB e s ps=wv at hpl hX
 generalize hasF s.fl 4=f4 at hpl hX
 replace hX:Hid _:=hX
 change Code.wp _ (Code.seq _ _) _ _ _
 go_upto_region 3 with (fail)
 cases wv
 case true=>
  refine vR ?_
  refine vV (pX g 0) ?_
  refine vC (hpl _ A (by rw [pa];exact P.reads)) ?_
  rintro _ qw1 ⟨⟨vm,rfl,hm⟩,qg2⟩
  refine ⟨_,rfl,?_⟩
  replace A:=A.since qg2
  replace M:=M.since qg2
  replace L:=L.since qg2
  replace P:=P.since qg2
  replace La:=La.since qg2
  replace G:=G.trans qg2
  have qg2_s:=qg2.size
  refine vV (.iface 81 (pX tb 0)) ?_
  refine vC (as_mis true _ _ _ vm hm tb mc hmc _ La.at0 M) ?_
  rintro _ qw3 ⟨rfl,qt4,nc,hnc,qB5,hq⟩
  refine ⟨_,rfl,?_⟩
  clear M
  replace A:=A.touch qt4 (by omega)
  replace L:=L.touch qt4 (by omega)
  replace P:=P.touch qt4 (by omega)
  replace La:=La.touch qt4 (by omega)
  replace G:=G.touch qt4 (by omega)
  have qt4_s:=qt4.size
  refine vE #[pX g 0,U,pX tb 0,v3,v4,v5,v6,v7,v8,v9,v10,pX g 0,vm,.iface 81 (pX tb 0),bF,v15,v16,v17,v18,v19,v20,v21,v22,v23,v24,v25,v26,v27,v28,v29,v30,v31,v32,v33,v34,v35,v36,v37,v38,v39,v40,v41,v42,v43,v44,v45,v46,v47,v48] ?_
  go_wp2_with (fail)
  refine wp_goto ?_
  try simp only [Exit.then]
  refine jump_in ⟨⟨_,_,_,_,_,_,_,_,_,_,_,_,_,_,_,_,_,_,_,_,_,_,_,_,_,_,_,_,_,_,_,_,_,_,_,_,_,_,_,_,_,_,_,_,_,_,rfl⟩,?_⟩ (by decide)
  exact ⟨e,⟨A,L,P,pa,G,La,⟨_,hnc,qB5⟩,wd,gd⟩,tt,hX.out⟩
 case false=>
  refine vR ?_
  refine vV (pX g 0) ?_
  refine vC (hpl _ A (by rw [pa];exact P.reads)) ?_
  rintro _ qw1 ⟨⟨vm,rfl,hm⟩,qg2⟩
  refine ⟨_,rfl,?_⟩
  replace A:=A.since qg2
  replace M:=M.since qg2
  replace L:=L.since qg2
  replace P:=P.since qg2
  replace La:=La.since qg2
  replace G:=G.trans qg2
  have qg2_s:=qg2.size
  refine vV (.iface 81 (pX tb 0)) ?_
  refine vC (as_mis false _ _ _ vm hm tb mc hmc _ La.at0 M) ?_
  rintro _ qw3 ⟨rfl,qt4,nc,hnc,qB5,hq⟩
  refine ⟨_,rfl,?_⟩
  clear M
  replace A:=A.touch qt4 (by omega)
  replace L:=L.touch qt4 (by omega)
  replace P:=P.touch qt4 (by omega)
  replace La:=La.touch qt4 (by omega)
  replace G:=G.touch qt4 (by omega)
  have qt4_s:=qt4.size
  refine vE #[pX g 0,U,pX tb 0,v3,v4,v5,v6,v7,v8,v9,v10,pX g 0,vm,.iface 81 (pX tb 0),bT,v15,v16,v17,v18,v19,v20,v21,v22,v23,v24,v25,v26,v27,v28,v29,v30,v31,v32,v33,v34,v35,v36,v37,v38,v39,v40,v41,v42,v43,v44,v45,v46,v47,v48] ?_
  go_upto_region 4 with (fail)
  obtain ⟨tx,rfl⟩:=hq rfl
  refine vR ?_
  refine vV (pX g 0) ?_
  refine vB mf_big qB5 rfl ?_
  refine vC (implRefuse g e s now _ h0 h1 tx (!f4) (!f4 && decide (e.st=9)) false (fun h=>by simp at h;simpa using h.1) (fun h=>by cases h) _ A) ?_
  rintro _ qw6 ⟨rfl,qt7,qB8⟩
  refine ⟨_,rfl,?_⟩
  clear A
  replace qB5:=qB5.touch qt7 (by omega)
  replace L:=L.touch qt7 (by omega)
  replace P:=P.touch qt7 (by omega)
  replace La:=La.touch qt7 (by omega)
  replace G:=G.touch qt7 (by omega)
  have qt7_s:=qt7.size
  refine vE #[pX g 0,U,pX tb 0,v3,v4,v5,v6,v7,v8,v9,v10,pX g 0,vm,.iface 81 (pX tb 0),bT,pX g 0,.agg (mfCells tx (!f4) (!f4 && decide (e.st=9)) false),.tuple #[],v18,v19,v20,v21,v22,v23,v24,v25,v26,v27,v28,v29,v30,v31,v32,v33,v34,v35,v36,v37,v38,v39,v40,v41,v42,v43,v44,v45,v46,v47,v48] ?_
  go_wp2_with (fail)
  refine wp_goto ?_
  try simp only [Exit.then]
  refine jump_in ⟨⟨_,_,_,_,_,_,_,_,_,_,_,_,_,_,_,_,_,_,_,_,_,_,_,_,_,_,_,_,_,_,_,_,_,_,_,_,_,_,_,_,_,_,_,_,_,_,rfl⟩,?_⟩ (by decide)
  have sm:=same_ref e now (!f4) (!f4 && decide (e.st=9)) false
  exact isAt hX.out G qB8 L (by rw [sm.pn,sm.pc];exact P) (sm.pa.trans pa) (by omega) (by omega) (by omega)
theorem take0 (B g pg gs tb:Nat) (s:Sg) (now:Int) (ps:List (Int×ByteArray)) (X:Came) (w:World) (Q:Exit→Act→World→Prop) (h0:0≤now) (h1:now≤1000000000) (hf:IsInt s.fl) (hds:s.d.size≤1048576) (w_sq:IsWord s.sq) (w_ak:IsWord s.ak) (hB0:1<B) (hgB:B≤g) (htB:B≤tb) (n1:g≠gs) (n2:g≠pg) (n3:gs≠pg) (n4:g≠tb) (n5:gs≠tb) (n6:pg≠tb)
  (Qe:∀ a x,takeJ B g pg gs tb s now ps X w 2 a x→Q .normal a x) (a:Act) (x:World) :
  takeJ B g pg gs tb s now ps X w 0 a x→((findLabel (scopeOf Tryz.f32.body) 0).getD .skip).wp Tryz.prog (jumpsTo (fun l' a' w'=>takeJ B g pg gs tb s now ps X w l' a' w'∧takeRk l'<takeRk 0) Q) a x:=by
 rintro ⟨⟨v3,v4,v5,v6,v7,v8,v9,v10,v11,v12,v13,v14,v15,v16,v17,v18,v19,v20,v21,v22,v23,v24,v25,v26,v27,v28,v29,v30,v31,v32,v33,v34,v35,v36,v37,v38,v39,v40,v41,v42,v43,v44,v45,v46,v47,v48,rfl⟩,HH⟩
 obtain ⟨e,⟨A,L,P,pa,G,La,⟨mc,hmc,M⟩,wd,gd⟩,tt,hX⟩:=HH
 have hA:=A.lt
 have hL:=L.lt
 have hLo:=L.low'
 have hP:=P.lt
 have hPo:=P.low'
 have hM:=M.lt
 have hGs:=G.size
 obtain ⟨b,hb⟩:∃ q,Hid (q=(e.st == 1)):=⟨_,rfl⟩
 replace hX:Hid (X=if b then (answI e s now,ps,answS e s) else fromW e s now ps):=by
  show X=_
  rw [hX,hb.out]
  rfl
 change Code.wp _ (Code.seq _ _) _ _ _
 go_upto_region 1 with (fail)
 cases b
 case false=>
  have hn:Hid (true=(e.st != 1)):=by show _=_;rw [bne,← hb.out];rfl
  replace hX:Hid (X=fromW e s now ps):=hX.out
  refine vR ?_
  refine vV (pX g 0) ?_
  refine vV (pX g 0) ?_
  refine vV (pX g 0) ?_
  refine vV (pX g 0) ?_
  refine vD (iJ e.st) (A.cell 0) ?_
  refine vV (.bool true) ?_ (hrun:=by rw [show true=(e.st != 1) from hn.out];kernel_rfl)
  refine vE #[pX g 0,U,pX tb 0,pX g 0,pX g 0,pX g 0,pX g 0,iJ e.st,bT,v9,v10,v11,v12,v13,v14,v15,v16,v17,v18,v19,v20,v21,v22,v23,v24,v25,v26,v27,v28,v29,v30,v31,v32,v33,v34,v35,v36,v37,v38,v39,v40,v41,v42,v43,v44,v45,v46,v47,v48] ?_
  go_wp2_with (fail)
  refine wp_goto ?_
  try simp only [Exit.then]
  refine jump_in ⟨⟨_,_,_,_,_,_,_,_,_,_,_,_,_,_,_,_,_,_,_,_,_,_,_,_,_,_,_,_,_,_,_,_,_,_,_,_,_,_,_,_,_,_,_,_,_,_,rfl⟩,?_⟩ (by decide)
  exact ⟨e,⟨A,L,P,pa,G,La,⟨_,hmc,M⟩,wd,gd⟩,tt,hX.out⟩
 case true=>
  have hn:Hid (false=(e.st != 1)):=by show _=_;rw [bne,← hb.out];rfl
  replace hX:Hid (X=(answI e s now,ps,answS e s)):=hX.out
  refine vR ?_
  refine vV (pX g 0) ?_
  refine vV (pX g 0) ?_
  refine vV (pX g 0) ?_
  refine vV (pX g 0) ?_
  refine vD (iJ e.st) (A.cell 0) ?_
  refine vV (.bool false) ?_ (hrun:=by rw [show false=(e.st != 1) from hn.out];kernel_rfl)
  refine vE #[pX g 0,U,pX tb 0,pX g 0,pX g 0,pX g 0,pX g 0,iJ e.st,bF,v9,v10,v11,v12,v13,v14,v15,v16,v17,v18,v19,v20,v21,v22,v23,v24,v25,v26,v27,v28,v29,v30,v31,v32,v33,v34,v35,v36,v37,v38,v39,v40,v41,v42,v43,v44,v45,v46,v47,v48] ?_
  go_upto_region 2 with (fail)
  refine vR ?_
  refine vV (pX g 0) ?_
  refine vC (implAnswered g e s now B pg gs ps h0 h1 tt.t2 tt.t3 hf _ A L P hgB n1 n2 n3) ?_
  rintro _ wz ⟨rfl,bz,gz,nz,cz,Az,Lz,Pz,i1,i2⟩
  refine ⟨_,rfl,?_⟩
  replace G:=G.base bz
  refine vE #[pX g 0,U,pX tb 0,pX g 0,pX g 0,pX g 0,pX g 0,iJ e.st,bF,pX g 0,.tuple #[],v11,v12,v13,v14,v15,v16,v17,v18,v19,v20,v21,v22,v23,v24,v25,v26,v27,v28,v29,v30,v31,v32,v33,v34,v35,v36,v37,v38,v39,v40,v41,v42,v43,v44,v45,v46,v47,v48] ?_
  go_wp2_with (fail)
  refine wp_goto ?_
  try simp only [Exit.then]
  refine jump_in ⟨⟨_,_,_,_,_,_,_,_,_,_,_,_,_,_,_,_,_,_,_,_,_,_,_,_,_,_,_,_,_,_,_,_,_,_,_,_,_,_,_,_,_,_,_,_,_,_,rfl⟩,?_⟩ (by decide)
  have hp3:=answ_pa e s now
  have hXo:=hX.out
  subst hXo
  exact ⟨G,gz,nz,cz,pg,e.pn,e.pc,by show Blk g _ (arrCells (laidC (answI e s now) pg e.pn e.pc) s now _);rw [laid_id (hp3.1.trans pa) hp3.2.1 hp3.2.2];exact Az,Lz,Pz,i1,(by omega),i2⟩
theorem take3 (B g pg gs tb:Nat) (s:Sg) (now:Int) (ps:List (Int×ByteArray)) (X:Came) (w:World) (Q:Exit→Act→World→Prop) (h0:0≤now) (h1:now≤1000000000) (hf:IsInt s.fl) (hds:s.d.size≤1048576) (w_sq:IsWord s.sq) (w_ak:IsWord s.ak) (hB0:1<B) (hgB:B≤g) (htB:B≤tb) (n1:g≠gs) (n2:g≠pg) (n3:gs≠pg) (n4:g≠tb) (n5:gs≠tb) (n6:pg≠tb)
  (Qe:∀ a x,takeJ B g pg gs tb s now ps X w 2 a x→Q .normal a x) (a:Act) (x:World) :
  takeJ B g pg gs tb s now ps X w 3 a x→((findLabel (scopeOf Tryz.f32.body) 3).getD .skip).wp Tryz.prog (jumpsTo (fun l' a' w'=>takeJ B g pg gs tb s now ps X w l' a' w'∧takeRk l'<takeRk 3) Q) a x:=by
 rintro ⟨⟨v3,v4,v5,v6,v7,v8,v9,v10,v11,v12,v13,v14,v15,v16,v17,v18,v19,v20,v21,v22,v23,v24,v25,v26,v27,v28,v29,v30,v31,v32,v33,v34,v35,v36,v37,v38,v39,v40,v41,v42,v43,v44,v45,v46,v47,v48,rfl⟩,HH⟩
 obtain ⟨e,⟨A,L,P,pa,G,La,⟨mc,hmc,M⟩,wd,gd⟩,tt,hX⟩:=HH
 have hA:=A.lt
 have hL:=L.lt
 have hLo:=L.low'
 have hP:=P.lt
 have hPo:=P.low'
 have hM:=M.lt
 have hGs:=G.size
 have hol:=fun wx Ax=>implOfTheLine g e s now (.slice (some ⟨gs,0,none⟩) 0 0) hf wx Ax
 unfold fromL at hX
 have hoz:lineZ e s=true→lineO e s=false:=line_oz
 generalize lineB s=wv at hol hX
 generalize lineO e s=lo at hol hX hoz
 generalize lineZ e s=lz at hol hX hoz
 replace hX:Hid _:=hX
 change Code.wp _ (Code.seq _ _) _ _ _
 go_upto_region 5 with (fail)
 cases wv
 case true=>
  refine vR ?_
  refine vV (pX g 0) ?_
  refine vC (hol _ A) ?_
  rintro _ qw1 ⟨⟨vm,rfl,hm⟩,qg2⟩
  refine ⟨_,rfl,?_⟩
  replace A:=A.since qg2
  replace M:=M.since qg2
  replace L:=L.since qg2
  replace P:=P.since qg2
  replace La:=La.since qg2
  replace G:=G.trans qg2
  have qg2_s:=qg2.size
  refine vV (.iface 81 (pX tb 0)) ?_
  refine vC (as_mis true _ _ _ vm hm tb mc hmc _ La.at0 M) ?_
  rintro _ qw3 ⟨rfl,qt4,nc,hnc,qB5,hq⟩
  refine ⟨_,rfl,?_⟩
  clear M
  replace A:=A.touch qt4 (by omega)
  replace L:=L.touch qt4 (by omega)
  replace P:=P.touch qt4 (by omega)
  replace La:=La.touch qt4 (by omega)
  replace G:=G.touch qt4 (by omega)
  have qt4_s:=qt4.size
  refine vE #[pX g 0,U,pX tb 0,v3,v4,v5,v6,v7,v8,v9,v10,v11,v12,v13,v14,v15,v16,v17,pX g 0,vm,.iface 81 (pX tb 0),bF,v22,v23,v24,v25,v26,v27,v28,v29,v30,v31,v32,v33,v34,v35,v36,v37,v38,v39,v40,v41,v42,v43,v44,v45,v46,v47,v48] ?_
  go_wp2_with (fail)
  refine wp_goto ?_
  try simp only [Exit.then]
  refine jump_in ⟨⟨_,_,_,_,_,_,_,_,_,_,_,_,_,_,_,_,_,_,_,_,_,_,_,_,_,_,_,_,_,_,_,_,_,_,_,_,_,_,_,_,_,_,_,_,_,_,rfl⟩,?_⟩ (by decide)
  exact ⟨e,⟨A,L,P,pa,G,La,⟨_,hnc,qB5⟩,wd,gd⟩,tt,hX.out⟩
 case false=>
  refine vR ?_
  refine vV (pX g 0) ?_
  refine vC (hol _ A) ?_
  rintro _ qw1 ⟨⟨vm,rfl,hm⟩,qg2⟩
  refine ⟨_,rfl,?_⟩
  replace A:=A.since qg2
  replace M:=M.since qg2
  replace L:=L.since qg2
  replace P:=P.since qg2
  replace La:=La.since qg2
  replace G:=G.trans qg2
  have qg2_s:=qg2.size
  refine vV (.iface 81 (pX tb 0)) ?_
  refine vC (as_mis false _ _ _ vm hm tb mc hmc _ La.at0 M) ?_
  rintro _ qw3 ⟨rfl,qt4,nc,hnc,qB5,hq⟩
  refine ⟨_,rfl,?_⟩
  clear M
  replace A:=A.touch qt4 (by omega)
  replace L:=L.touch qt4 (by omega)
  replace P:=P.touch qt4 (by omega)
  replace La:=La.touch qt4 (by omega)
  replace G:=G.touch qt4 (by omega)
  have qt4_s:=qt4.size
  refine vE #[pX g 0,U,pX tb 0,v3,v4,v5,v6,v7,v8,v9,v10,v11,v12,v13,v14,v15,v16,v17,pX g 0,vm,.iface 81 (pX tb 0),bT,v22,v23,v24,v25,v26,v27,v28,v29,v30,v31,v32,v33,v34,v35,v36,v37,v38,v39,v40,v41,v42,v43,v44,v45,v46,v47,v48] ?_
  go_upto_region 6 with (fail)
  obtain ⟨tx,rfl⟩:=hq rfl
  refine vR ?_
  refine vV (pX g 0) ?_
  refine vB mf_big qB5 rfl ?_
  refine vC (implRefuse g e s now _ h0 h1 tx lo false lz (fun h=>by cases h) hoz _ A) ?_
  rintro _ qw6 ⟨rfl,qt7,qB8⟩
  refine ⟨_,rfl,?_⟩
  clear A
  replace qB5:=qB5.touch qt7 (by omega)
  replace L:=L.touch qt7 (by omega)
  replace P:=P.touch qt7 (by omega)
  replace La:=La.touch qt7 (by omega)
  replace G:=G.touch qt7 (by omega)
  have qt7_s:=qt7.size
  refine vE #[pX g 0,U,pX tb 0,v3,v4,v5,v6,v7,v8,v9,v10,v11,v12,v13,v14,v15,v16,v17,pX g 0,vm,.iface 81 (pX tb 0),bT,pX g 0,.agg (mfCells tx lo false lz),.tuple #[],v25,v26,v27,v28,v29,v30,v31,v32,v33,v34,v35,v36,v37,v38,v39,v40,v41,v42,v43,v44,v45,v46,v47,v48] ?_
  go_wp2_with (fail)
  refine wp_goto ?_
  try simp only [Exit.then]
  refine jump_in ⟨⟨_,_,_,_,_,_,_,_,_,_,_,_,_,_,_,_,_,_,_,_,_,_,_,_,_,_,_,_,_,_,_,_,_,_,_,_,_,_,_,_,_,_,_,_,_,_,rfl⟩,?_⟩ (by decide)
  have sm:=same_ref e now lo false lz
  exact isAt hX.out G qB8 L (by rw [sm.pn,sm.pc];exact P) (sm.pa.trans pa) (by omega) (by omega) (by omega)
theorem take4 (B g pg gs tb:Nat) (s:Sg) (now:Int) (ps:List (Int×ByteArray)) (X:Came) (w:World) (Q:Exit→Act→World→Prop) (h0:0≤now) (h1:now≤1000000000) (hf:IsInt s.fl) (hds:s.d.size≤1048576) (w_sq:IsWord s.sq) (w_ak:IsWord s.ak) (hB0:1<B) (hgB:B≤g) (htB:B≤tb) (n1:g≠gs) (n2:g≠pg) (n3:gs≠pg) (n4:g≠tb) (n5:gs≠tb) (n6:pg≠tb)
  (Qe:∀ a x,takeJ B g pg gs tb s now ps X w 2 a x→Q .normal a x) (a:Act) (x:World) :
  takeJ B g pg gs tb s now ps X w 4 a x→((findLabel (scopeOf Tryz.f32.body) 4).getD .skip).wp Tryz.prog (jumpsTo (fun l' a' w'=>takeJ B g pg gs tb s now ps X w l' a' w'∧takeRk l'<takeRk 4) Q) a x:=by
 rintro ⟨⟨v3,v4,v5,v6,v7,v8,v9,v10,v11,v12,v13,v14,v15,v16,v17,v18,v19,v20,v21,v22,v23,v24,v25,v26,v27,v28,v29,v30,v31,v32,v33,v34,v35,v36,v37,v38,v39,v40,v41,v42,v43,v44,v45,v46,v47,v48,rfl⟩,HH⟩
 obtain ⟨e,⟨A,L,P,pa,G,La,⟨mc,hmc,M⟩,wd,gd⟩,tt,hX⟩:=HH
 have hA:=A.lt
 have hL:=L.lt
 have hLo:=L.low'
 have hP:=P.lt
 have hPo:=P.low'
 have hM:=M.lt
 have hGs:=G.size
 have hio:=fun wx Ax=>implIsOld g e s now (.slice (some ⟨gs,0,none⟩) 0 0) wd.w_una w_ak wx Ax
 have hia:=fun wx Ax=>implIsAhead g e s now (.slice (some ⟨gs,0,none⟩) 0 0) wd.w_mx w_ak wx Ax
 unfold fromC at hX
 generalize decide (0≤distI e.una s.ak)=bo at hio hX
 generalize decide (0<distI e.mx s.ak)=ba at hia hX
 replace hX:Hid _:=hX
 change Code.wp _ (Code.seq _ _) _ _ _
 go_upto_region 7 with (fail)
 cases bo
 case false=>
  refine vR ?_
  refine vV (pX g 0) ?_
  refine vK (hio _ A) ?_
  intro qw1 qg2
  replace A:=A.since qg2
  replace M:=M.since qg2
  replace L:=L.since qg2
  replace P:=P.since qg2
  replace La:=La.since qg2
  replace G:=G.trans qg2
  have qg2_s:=qg2.size
  refine vE #[pX g 0,U,pX tb 0,v3,v4,v5,v6,v7,v8,v9,v10,v11,v12,v13,v14,v15,v16,v17,v18,v19,v20,v21,v22,v23,v24,pX g 0,bT,v27,v28,v29,v30,v31,v32,v33,v34,v35,v36,v37,v38,v39,v40,v41,v42,v43,v44,v45,v46,v47,v48] ?_
  go_wp2_with (fail)
  refine wp_goto ?_
  try simp only [Exit.then]
  refine jump_in ⟨⟨_,_,_,_,_,_,_,_,_,_,_,_,_,_,_,_,_,_,_,_,_,_,_,_,_,_,_,_,_,_,_,_,_,_,_,_,_,_,_,_,_,_,_,_,_,_,rfl⟩,?_⟩ (by decide)
  exact ⟨e,⟨A,L,P,pa,G,La,⟨_,hmc,M⟩,wd,gd⟩,hX.out⟩
 case true=>
  cases ba
  case true=>
   refine vR ?_
   refine vV (pX g 0) ?_
   refine vK (hio _ A) ?_
   intro qw1 qg2
   replace A:=A.since qg2
   replace M:=M.since qg2
   replace L:=L.since qg2
   replace P:=P.since qg2
   replace La:=La.since qg2
   replace G:=G.trans qg2
   have qg2_s:=qg2.size
   refine vE #[pX g 0,U,pX tb 0,v3,v4,v5,v6,v7,v8,v9,v10,v11,v12,v13,v14,v15,v16,v17,v18,v19,v20,v21,v22,v23,v24,pX g 0,bF,v27,v28,v29,v30,v31,v32,v33,v34,v35,v36,v37,v38,v39,v40,v41,v42,v43,v44,v45,v46,v47,v48] ?_
   go_upto_region 8 with (fail)
   refine vR ?_
   refine vV (pX g 0) ?_
   refine vK (hia _ A) ?_
   intro qw3 qg4
   replace A:=A.since qg4
   replace M:=M.since qg4
   replace L:=L.since qg4
   replace P:=P.since qg4
   replace La:=La.since qg4
   replace G:=G.trans qg4
   have qg4_s:=qg4.size
   refine vE #[pX g 0,U,pX tb 0,v3,v4,v5,v6,v7,v8,v9,v10,v11,v12,v13,v14,v15,v16,v17,v18,v19,v20,v21,v22,v23,v24,pX g 0,bF,pX g 0,bT,v29,v30,v31,v32,v33,v34,v35,v36,v37,v38,v39,v40,v41,v42,v43,v44,v45,v46,v47,v48] ?_
   go_upto_region 9 with (fail)
   refine vR ?_
   refine vV (pX g 0) ?_
   refine vV (pX g 0) ?_
   refine vV (pX g 0) ?_
   refine vV (pX g 36) ?_
   refine sC (arrCells {e with owe:=true} s now (.slice (some ⟨gs,0,none⟩) 0 0)) A 36 (.bool true) (arr_size _ _ _ _) ?_
   intro qw5 qt6 qB7
   clear A
   replace M:=M.touch qt6 (by omega)
   replace L:=L.touch qt6 (by omega)
   replace P:=P.touch qt6 (by omega)
   replace La:=La.touch qt6 (by omega)
   replace G:=G.touch qt6 (by omega)
   have qt6_s:=qt6.size
   refine vE #[pX g 0,U,pX tb 0,v3,v4,v5,v6,v7,v8,v9,v10,v11,v12,v13,v14,v15,v16,v17,v18,v19,v20,v21,v22,v23,v24,pX g 0,bF,pX g 0,bT,pX g 0,pX g 0,pX g 0,pX g 36,v33,v34,v35,v36,v37,v38,v39,v40,v41,v42,v43,v44,v45,v46,v47,v48] ?_
   go_wp2_with (fail)
   refine wp_goto ?_
   try simp only [Exit.then]
   refine jump_in ⟨⟨_,_,_,_,_,_,_,_,_,_,_,_,_,_,_,_,_,_,_,_,_,_,_,_,_,_,_,_,_,_,_,_,_,_,_,_,_,_,_,_,_,_,_,_,_,_,rfl⟩,?_⟩ (by decide)
   exact isAt hX.out G qB7 L P pa (by omega) (by omega) (by omega)
  case false=>
   refine vR ?_
   refine vV (pX g 0) ?_
   refine vK (hio _ A) ?_
   intro qw1 qg2
   replace A:=A.since qg2
   replace M:=M.since qg2
   replace L:=L.since qg2
   replace P:=P.since qg2
   replace La:=La.since qg2
   replace G:=G.trans qg2
   have qg2_s:=qg2.size
   refine vE #[pX g 0,U,pX tb 0,v3,v4,v5,v6,v7,v8,v9,v10,v11,v12,v13,v14,v15,v16,v17,v18,v19,v20,v21,v22,v23,v24,pX g 0,bF,v27,v28,v29,v30,v31,v32,v33,v34,v35,v36,v37,v38,v39,v40,v41,v42,v43,v44,v45,v46,v47,v48] ?_
   go_upto_region 8 with (fail)
   refine vR ?_
   refine vV (pX g 0) ?_
   refine vK (hia _ A) ?_
   intro qw3 qg4
   replace A:=A.since qg4
   replace M:=M.since qg4
   replace L:=L.since qg4
   replace P:=P.since qg4
   replace La:=La.since qg4
   replace G:=G.trans qg4
   have qg4_s:=qg4.size
   refine vE #[pX g 0,U,pX tb 0,v3,v4,v5,v6,v7,v8,v9,v10,v11,v12,v13,v14,v15,v16,v17,v18,v19,v20,v21,v22,v23,v24,pX g 0,bF,pX g 0,bF,v29,v30,v31,v32,v33,v34,v35,v36,v37,v38,v39,v40,v41,v42,v43,v44,v45,v46,v47,v48] ?_
   go_upto_region 10 with (fail)
   refine vR ?_
   refine vV (pX g 0) ?_
   refine vC (implConfirmedA g e s now _ h0 h1 tt.t2 tt.t3 wd w_ak tt.hp _ A) ?_
   rintro _ qw5 ⟨rfl,qt6,qB7⟩
   refine ⟨_,rfl,?_⟩
   clear A
   replace M:=M.touch qt6 (by omega)
   replace L:=L.touch qt6 (by omega)
   replace P:=P.touch qt6 (by omega)
   replace La:=La.touch qt6 (by omega)
   replace G:=G.touch qt6 (by omega)
   have qt6_s:=qt6.size
   refine vE #[pX g 0,U,pX tb 0,v3,v4,v5,v6,v7,v8,v9,v10,v11,v12,v13,v14,v15,v16,v17,v18,v19,v20,v21,v22,v23,v24,pX g 0,bF,pX g 0,bF,v29,v30,v31,v32,pX g 0,.tuple #[],v35,v36,v37,v38,v39,v40,v41,v42,v43,v44,v45,v46,v47,v48] ?_
   go_wp2_with (fail)
   refine wp_goto ?_
   try simp only [Exit.then]
   refine jump_in ⟨⟨_,_,_,_,_,_,_,_,_,_,_,_,_,_,_,_,_,_,_,_,_,_,_,_,_,_,_,_,_,_,_,_,_,_,_,_,_,_,_,_,_,_,_,_,_,_,rfl⟩,?_⟩ (by decide)
   have sm:=same_confirmed e s now
   exact ⟨_,⟨qB7,L,(by rw [sm.pn,sm.pc];exact P),sm.pa.trans pa,G,La,⟨_,hmc,M⟩,wd_confirmed wd w_ak,(by rw [sm.iN,sm.iD,sm.iR,sm.pn];exact gd)⟩,hX.out⟩
theorem take6 (B g pg gs tb:Nat) (s:Sg) (now:Int) (ps:List (Int×ByteArray)) (X:Came) (w:World) (Q:Exit→Act→World→Prop) (h0:0≤now) (h1:now≤1000000000) (hf:IsInt s.fl) (hds:s.d.size≤1048576) (w_sq:IsWord s.sq) (w_ak:IsWord s.ak) (hB0:1<B) (hgB:B≤g) (htB:B≤tb) (n1:g≠gs) (n2:g≠pg) (n3:gs≠pg) (n4:g≠tb) (n5:gs≠tb) (n6:pg≠tb)
  (Qe:∀ a x,takeJ B g pg gs tb s now ps X w 2 a x→Q .normal a x) (a:Act) (x:World) :
  takeJ B g pg gs tb s now ps X w 6 a x→((findLabel (scopeOf Tryz.f32.body) 6).getD .skip).wp Tryz.prog (jumpsTo (fun l' a' w'=>takeJ B g pg gs tb s now ps X w l' a' w'∧takeRk l'<takeRk 6) Q) a x:=by
 rintro ⟨⟨v3,v4,v5,v6,v7,v8,v9,v10,v11,v12,v13,v14,v15,v16,v17,v18,v19,v20,v21,v22,v23,v24,v25,v26,v27,v28,v29,v30,v31,v32,v33,v34,v35,v36,v37,v38,v39,v40,v41,v42,v43,v44,v45,v46,v47,v48,rfl⟩,HH⟩
 obtain ⟨e,⟨A,L,P,pa,G,La,⟨mc,hmc,M⟩,wd,gd⟩,hX⟩:=HH
 have hA:=A.lt
 have hL:=L.lt
 have hLo:=L.low'
 have hP:=P.lt
 have hPo:=P.low'
 have hM:=M.lt
 have hGs:=G.size
 replace hX:Hid _:=hX
 change Code.wp _ (Code.seq _ _) _ _ _
 go_upto_region 11 with (fail)
 refine vR ?_
 refine vV (pX g 0) ?_
 refine vC (implTold g e s now _ wd.w_wsq wd.w_wak w_sq w_ak _ A) ?_
 rintro _ qw1 ⟨rfl,qt2,qB3⟩
 refine ⟨_,rfl,?_⟩
 clear A
 replace M:=M.touch qt2 (by omega)
 replace L:=L.touch qt2 (by omega)
 replace P:=P.touch qt2 (by omega)
 replace La:=La.touch qt2 (by omega)
 replace G:=G.touch qt2 (by omega)
 have qt2_s:=qt2.size
 refine vE #[pX g 0,U,pX tb 0,v3,v4,v5,v6,v7,v8,v9,v10,v11,v12,v13,v14,v15,v16,v17,v18,v19,v20,v21,v22,v23,v24,v25,v26,v27,v28,v29,v30,v31,v32,v33,v34,pX g 0,.tuple #[],v37,v38,v39,v40,v41,v42,v43,v44,v45,v46,v47,v48] ?_
 go_wp2_with (fail)
 refine wp_goto ?_
 try simp only [Exit.then]
 refine jump_in ⟨⟨_,_,_,_,_,_,_,_,_,_,_,_,_,_,_,_,_,_,_,_,_,_,_,_,_,_,_,_,_,_,_,_,_,_,_,_,_,_,_,_,_,_,_,_,_,_,rfl⟩,?_⟩ (by decide)
 have sm:=same_told e s
 exact ⟨_,⟨qB3,L,(by rw [sm.pn,sm.pc];exact P),sm.pa.trans pa,G,La,⟨_,hmc,M⟩,wd_told wd w_ak w_sq,(by rw [sm.iN,sm.iD,sm.iR,sm.pn];exact gd)⟩,hX.out⟩
theorem take5 (B g pg gs tb:Nat) (s:Sg) (now:Int) (ps:List (Int×ByteArray)) (X:Came) (w:World) (Q:Exit→Act→World→Prop) (h0:0≤now) (h1:now≤1000000000) (hf:IsInt s.fl) (hds:s.d.size≤1048576) (w_sq:IsWord s.sq) (w_ak:IsWord s.ak) (hB0:1<B) (hgB:B≤g) (htB:B≤tb) (n1:g≠gs) (n2:g≠pg) (n3:gs≠pg) (n4:g≠tb) (n5:gs≠tb) (n6:pg≠tb)
  (Qe:∀ a x,takeJ B g pg gs tb s now ps X w 2 a x→Q .normal a x) (a:Act) (x:World) :
  takeJ B g pg gs tb s now ps X w 5 a x→((findLabel (scopeOf Tryz.f32.body) 5).getD .skip).wp Tryz.prog (jumpsTo (fun l' a' w'=>takeJ B g pg gs tb s now ps X w l' a' w'∧takeRk l'<takeRk 5) Q) a x:=by
 rintro ⟨⟨v3,v4,v5,v6,v7,v8,v9,v10,v11,v12,v13,v14,v15,v16,v17,v18,v19,v20,v21,v22,v23,v24,v25,v26,v27,v28,v29,v30,v31,v32,v33,v34,v35,v36,v37,v38,v39,v40,v41,v42,v43,v44,v45,v46,v47,v48,rfl⟩,HH⟩
 obtain ⟨e,⟨A,L,P,pa,G,La,⟨mc,hmc,M⟩,wd,gd⟩,hX⟩:=HH
 have hA:=A.lt
 have hL:=L.lt
 have hLo:=L.low'
 have hP:=P.lt
 have hPo:=P.low'
 have hM:=M.lt
 have hGs:=G.size
 have hfc:=fun wx Ax=>implFinConfirmed g e s now (.slice (some ⟨gs,0,none⟩) 0 0) h0 h1 wd.w_fsq wd.w_una wx Ax
 have sm:=same_fin e now
 have wd1:Wd (finDoneX e now):=wd_fin wd
 unfold fromF at hX
 generalize finDoneX e now=e1 at hfc hX sm wd1
 obtain ⟨bz,hbz⟩:∃ q,Hid (q=(e1.st == 0)):=⟨_,rfl⟩
 rw [← hbz.out] at hX
 replace hX:Hid _:=hX
 replace sm:Hid _:=sm
 change Code.wp _ (Code.seq _ _) _ _ _
 go_upto_region 12 with (fail)
 refine vR ?_
 refine vV (pX g 0) ?_
 refine vC (hfc _ A) ?_
 rintro _ qw1 ⟨rfl,qt2,qB3⟩
 refine ⟨_,rfl,?_⟩
 clear A
 replace M:=M.touch qt2 (by omega)
 replace L:=L.touch qt2 (by omega)
 replace P:=P.touch qt2 (by omega)
 replace La:=La.touch qt2 (by omega)
 replace G:=G.touch qt2 (by omega)
 have qt2_s:=qt2.size
 refine vE #[pX g 0,U,pX tb 0,v3,v4,v5,v6,v7,v8,v9,v10,v11,v12,v13,v14,v15,v16,v17,v18,v19,v20,v21,v22,v23,v24,v25,v26,v27,v28,v29,v30,v31,v32,v33,v34,v35,v36,pX g 0,.tuple #[],v39,v40,v41,v42,v43,v44,v45,v46,v47,v48] ?_
 go_upto_region 13 with (fail)
 cases bz
 case true=>
  refine vR ?_
  refine vV (pX g 0) ?_
  refine vV (pX g 0) ?_
  refine vV (pX g 0) ?_
  refine vV (pX g 0) ?_
  refine vD (iJ e1.st) (qB3.cell 0) ?_
  refine vV (.bool true) ?_ (hrun:=by rw [show true=(e1.st == 0) from hbz.out];kernel_rfl)
  refine vE #[pX g 0,U,pX tb 0,v3,v4,v5,v6,v7,v8,v9,v10,v11,v12,v13,v14,v15,v16,v17,v18,v19,v20,v21,v22,v23,v24,v25,v26,v27,v28,v29,v30,v31,v32,v33,v34,v35,v36,pX g 0,.tuple #[],pX g 0,pX g 0,pX g 0,pX g 0,iJ e1.st,bT,v45,v46,v47,v48] ?_
  go_wp2_with (fail)
  refine wp_goto ?_
  try simp only [Exit.then]
  refine jump_in ⟨⟨_,_,_,_,_,_,_,_,_,_,_,_,_,_,_,_,_,_,_,_,_,_,_,_,_,_,_,_,_,_,_,_,_,_,_,_,_,_,_,_,_,_,_,_,_,_,rfl⟩,?_⟩ (by decide)
  exact isAt hX.out G qB3 L (by rw [sm.out.pn,sm.out.pc];exact P) (sm.out.pa.trans pa) (by omega) (by omega) (by omega)
 case false=>
  refine vR ?_
  refine vV (pX g 0) ?_
  refine vV (pX g 0) ?_
  refine vV (pX g 0) ?_
  refine vV (pX g 0) ?_
  refine vD (iJ e1.st) (qB3.cell 0) ?_
  refine vV (.bool false) ?_ (hrun:=by rw [show false=(e1.st == 0) from hbz.out];kernel_rfl)
  refine vE #[pX g 0,U,pX tb 0,v3,v4,v5,v6,v7,v8,v9,v10,v11,v12,v13,v14,v15,v16,v17,v18,v19,v20,v21,v22,v23,v24,v25,v26,v27,v28,v29,v30,v31,v32,v33,v34,v35,v36,pX g 0,.tuple #[],pX g 0,pX g 0,pX g 0,pX g 0,iJ e1.st,bF,v45,v46,v47,v48] ?_
  go_wp2_with (fail)
  refine wp_goto ?_
  try simp only [Exit.then]
  refine jump_in ⟨⟨_,_,_,_,_,_,_,_,_,_,_,_,_,_,_,_,_,_,_,_,_,_,_,_,_,_,_,_,_,_,_,_,_,_,_,_,_,_,_,_,_,_,_,_,_,_,rfl⟩,?_⟩ (by decide)
  exact ⟨_,⟨qB3,L,(by rw [sm.out.pn,sm.out.pc];exact P),sm.out.pa.trans pa,G,La,⟨_,hmc,M⟩,wd1,(by rw [sm.out.iN,sm.out.iD,sm.out.iR,sm.out.pn];exact gd)⟩,hX.out⟩
theorem take7 (B g pg gs tb:Nat) (s:Sg) (now:Int) (ps:List (Int×ByteArray)) (X:Came) (w:World) (Q:Exit→Act→World→Prop) (h0:0≤now) (h1:now≤1000000000) (hf:IsInt s.fl) (hds:s.d.size≤1048576) (w_sq:IsWord s.sq) (w_ak:IsWord s.ak) (hB0:1<B) (hgB:B≤g) (htB:B≤tb) (n1:g≠gs) (n2:g≠pg) (n3:gs≠pg) (n4:g≠tb) (n5:gs≠tb) (n6:pg≠tb)
  (Qe:∀ a x,takeJ B g pg gs tb s now ps X w 2 a x→Q .normal a x) (a:Act) (x:World) :
  takeJ B g pg gs tb s now ps X w 7 a x→((findLabel (scopeOf Tryz.f32.body) 7).getD .skip).wp Tryz.prog (jumpsTo (fun l' a' w'=>takeJ B g pg gs tb s now ps X w l' a' w'∧takeRk l'<takeRk 7) Q) a x:=by
 rintro ⟨⟨v3,v4,v5,v6,v7,v8,v9,v10,v11,v12,v13,v14,v15,v16,v17,v18,v19,v20,v21,v22,v23,v24,v25,v26,v27,v28,v29,v30,v31,v32,v33,v34,v35,v36,v37,v38,v39,v40,v41,v42,v43,v44,v45,v46,v47,v48,rfl⟩,HH⟩
 obtain ⟨e,⟨A,L,P,pa,G,La,⟨mc,hmc,M⟩,wd,gd⟩,hX⟩:=HH
 have hA:=A.lt
 have hL:=L.lt
 have hLo:=L.low'
 have hP:=P.lt
 have hPo:=P.low'
 have hM:=M.lt
 have hGs:=G.size
 replace hX:Hid _:=hX
 replace pa:Hid _:=pa
 change Code.wp _ (Code.seq _ _) _ _ _
 go_upto_region 14 with (fail)
 refine vR ?_
 refine vV (pX g 0) ?_
 refine vC (implTaken g e s now _ B pg ps gd w_sq hds _ A P pa n2 hgB) ?_
 rintro _ wz ⟨rfl,tz,gp,mz,cz,Az,Pz,hgp⟩
 refine ⟨_,rfl,?_⟩
 replace G:=G.touch tz (by omega)
 replace L:=L.touch tz (by omega)
 refine vE #[pX g 0,U,pX tb 0,v3,v4,v5,v6,v7,v8,v9,v10,v11,v12,v13,v14,v15,v16,v17,v18,v19,v20,v21,v22,v23,v24,v25,v26,v27,v28,v29,v30,v31,v32,v33,v34,v35,v36,v37,v38,v39,v40,v41,v42,v43,v44,pX g 0,.tuple #[],v47,v48] ?_
 go_wp2_with (fail)
 refine wp_goto ?_
 try simp only [Exit.then]
 refine jump_in ⟨⟨_,_,_,_,_,_,_,_,_,_,_,_,_,_,_,_,_,_,_,_,_,_,_,_,_,_,_,_,_,_,_,_,_,_,_,_,_,_,_,_,_,_,_,_,_,_,rfl⟩,?_⟩ (by decide)
 exact ⟨e,gp,mz,cz,Az,L,Pz,(by omega),(by omega),G,hX.out⟩
theorem take8 (B g pg gs tb:Nat) (s:Sg) (now:Int) (ps:List (Int×ByteArray)) (X:Came) (w:World) (Q:Exit→Act→World→Prop) (h0:0≤now) (h1:now≤1000000000) (hf:IsInt s.fl) (hds:s.d.size≤1048576) (w_sq:IsWord s.sq) (w_ak:IsWord s.ak) (hB0:1<B) (hgB:B≤g) (htB:B≤tb) (n1:g≠gs) (n2:g≠pg) (n3:gs≠pg) (n4:g≠tb) (n5:gs≠tb) (n6:pg≠tb)
  (Qe:∀ a x,takeJ B g pg gs tb s now ps X w 2 a x→Q .normal a x) (a:Act) (x:World) :
  takeJ B g pg gs tb s now ps X w 8 a x→((findLabel (scopeOf Tryz.f32.body) 8).getD .skip).wp Tryz.prog (jumpsTo (fun l' a' w'=>takeJ B g pg gs tb s now ps X w l' a' w'∧takeRk l'<takeRk 8) Q) a x:=by
 rintro ⟨⟨v3,v4,v5,v6,v7,v8,v9,v10,v11,v12,v13,v14,v15,v16,v17,v18,v19,v20,v21,v22,v23,v24,v25,v26,v27,v28,v29,v30,v31,v32,v33,v34,v35,v36,v37,v38,v39,v40,v41,v42,v43,v44,v45,v46,v47,v48,rfl⟩,HH⟩
 obtain ⟨e,gp,m,cp,A,L,P,i1,i2,G,hX⟩:=HH
 have hA:=A.lt
 have hL:=L.lt
 have hLo:=L.low'
 have hP:=P.lt
 have hPo:=P.low'
 have hGs:=G.size
 replace hX:Hid _:=hX
 change Code.wp _ (Code.seq _ _) _ _ _
 go_upto_region 15 with (fail)
 refine vR ?_
 refine vV (pX g 0) ?_
 refine vC (implEnded g _ s now _ h0 h1 hf _ A) ?_
 rintro _ wz ⟨rfl,tz,Az⟩
 refine ⟨_,rfl,?_⟩
 replace G:=G.touch tz (by omega)
 replace L:=L.touch tz (by omega)
 replace P:=P.touch tz (by omega)
 refine vE #[pX g 0,U,pX tb 0,v3,v4,v5,v6,v7,v8,v9,v10,v11,v12,v13,v14,v15,v16,v17,v18,v19,v20,v21,v22,v23,v24,v25,v26,v27,v28,v29,v30,v31,v32,v33,v34,v35,v36,v37,v38,v39,v40,v41,v42,v43,v44,v45,v46,pX g 0,.tuple #[]] ?_
 go_wp2_with (fail)
 refine wp_label ?_
 try simp only [Exit.then]
 refine Qe _ _ ⟨⟨_,_,_,_,_,_,_,_,_,_,_,_,_,_,_,_,_,_,_,_,_,_,_,_,_,_,_,_,_,_,_,_,_,_,_,_,_,_,_,_,_,_,_,_,_,_,rfl⟩,?_⟩
 have hXo:=hX.out
 subst hXo
 have hm:=P.reads.len
 rw [endX_laid] at Az
 refine ⟨G,gs,0,0,gp,m,cp,?_,L,P,n1,i1,i2⟩
 show Blk g _ (arrCells (laidC (endX {takenC e s ps with pn:=(takenP e s ps).length} s now) gp m cp) s now _)
 rw [hm]
 exact Az
theorem take2 (B g pg gs tb:Nat) (s:Sg) (now:Int) (ps:List (Int×ByteArray)) (X:Came) (w:World) (Q:Exit→Act→World→Prop) (h0:0≤now) (h1:now≤1000000000) (hf:IsInt s.fl) (hds:s.d.size≤1048576) (w_sq:IsWord s.sq) (w_ak:IsWord s.ak) (hB0:1<B) (hgB:B≤g) (htB:B≤tb) (n1:g≠gs) (n2:g≠pg) (n3:gs≠pg) (n4:g≠tb) (n5:gs≠tb) (n6:pg≠tb)
  (Qe:∀ a x,takeJ B g pg gs tb s now ps X w 2 a x→Q .normal a x) (a:Act) (x:World) :
  takeJ B g pg gs tb s now ps X w 2 a x→((findLabel (scopeOf Tryz.f32.body) 2).getD .skip).wp Tryz.prog (jumpsTo (fun l' a' w'=>takeJ B g pg gs tb s now ps X w l' a' w'∧takeRk l'<takeRk 2) Q) a x:=by
 intro HH
 refine wp_skip ?_
 exact Qe _ _ HH
end Go.Proofs.YtmigalhmlofbkaaGreatDoor
