/- A part of the proof. -/
import Derived.Test.YtmigalhmlofbkaaGreatDoorM53
set_option linter.unusedVariables false
set_option maxRecDepth 10000
namespace Go.Proofs.YtmigalhmlofbkaaGreatDoor
open Go.ChangeShapes Go.WideShapes Go.ChangeAt Go.RowKit Go.Deep
theorem results_sg2 {fn:Func} {t u:Tmp} {b:Nat} {w:World} {s:Sg} (h:fn.results=#[.cell t 41,.tmp u]) (tmps:Array Value) (hp:tmps.getD t undef=.pointer (some ⟨b,0,none⟩)) (B:Blk b w (sgCells s)):(results fn tmps).run Tryz.prog w=.ok (.tuple #[.agg (sgCells s),tmps.getD u undef]) w:=by
 have e:=var_big seg_big rfl B
 have hq:tmps[t]?.getD undef=.pointer (some ⟨b,0,none⟩):=by simpa using hp
 simp [results,h,hq,asAddr,e]
def ansCk (x h p j q e:Int) (s:Sg):Sg:=⟨0,0,ckOf x h p j q e (stepTo s.ms 8),(s.sq+1) % 4294967296,18,65535,100,⟨#[]⟩⟩
def hearCk (x h p j q e:Int) (s:Sg):Value:=if ckOk p q e && askOk s then .tuple #[.agg (sgCells (ansCk x h p j q e s)),.bool true] else .tuple #[.agg (sgCells sgZero),.bool false]
theorem hearCk_no {x h p j q e:Int} {s:Sg} (hn:(ckOk p q e && askOk s)=false):hearCk x h p j q e s=.tuple #[.agg (sgCells sgZero),.bool false]:=by
 unfold hearCk
 rw [hn]
 rfl
theorem hearCk_yes {x h p j q e:Int} {s:Sg} (hn:(ckOk p q e && askOk s)=true):hearCk x h p j q e s=.tuple #[.agg (sgCells (ansCk x h p j q e s)),.bool true]:=by
 unfold hearCk
 rw [hn]
 rfl
def goesOn (s:Sg):Bool:=decide (0≤s.fl∧s.fl≤31) && hasF s.fl 16 && !(hasF s.fl 2 || hasF s.fl 4)
theorem and_six:∀ n:Fin 32,(bits .and .i64 (n.val:Int) 6 == 0)=!(hasF (n.val:Int) 2 || hasF (n.val:Int) 4):=by decide +kernel
theorem has6 (fl:Int) (h0:0≤fl) (h1:fl≤31) (w:World) :
  Calls Tryz.prog 85 #[.int .i64 fl,.int .i64 6] w fun e w'=>e=.returned (.bool (hasF fl 2 || hasF fl 4))∧w=w':=by
 have e:=and_six ⟨fl.toNat,by omega⟩
 rw [show (((⟨fl.toNat,by omega⟩:Fin 32).val:Nat):Int)=fl from Int.toNat_of_nonneg h0] at e
 generalize (hasF fl 2 || hasF fl 4)=r at e ⊢
 go_enter Tryz.func85,Tryz.ntmps85
 go_wp2
 go_ret
 refine ⟨?_,rfl⟩
 simp [bne,e]
theorem isWithin31 (n:Int) (w:World) :
  Calls Tryz.prog 40 #[.int .i64 n,.int .i64 31] w fun e w'=>e=.returned (.bool (decide (0≤n∧n≤31)))∧w=w':=by
 by_cases h1:0≤n
 ·have e1:decide (0≤n∧n≤31)=decide (n≤31):=by simp [h1]
  rw [e1]
  clear e1
  go_enter Tryz.func40,Tryz.ntmps40
  go_wp2
  go_ret
  exact ⟨rfl,rfl⟩
 ·have e1:decide (0≤n∧n≤31)=false:=by simp [h1]
  rw [e1]
  clear e1
  go_enter Tryz.func40,Tryz.ntmps40
  go_wp2
  go_ret
  exact ⟨rfl,rfl⟩
theorem isGoingOn (s:Sg) (hf:IsInt s.fl) (w:World) :
  Calls Tryz.prog 38 #[.agg (sgCells s)] w fun e w'=>e=.returned (.bool (goesOn s))∧Since w w':=by
 have h1:=fun wx=>isWithin31 s.fl wx
 have h2:=fun wx=>hasFlag s.fl 16 hf (by unfold IsFlag;omega) wx
 unfold goesOn
 have G:=(Since.refl w).alloc (.cells (sgCells s) 41)
 unfold sgCells at *
 by_cases hr:0≤s.fl∧s.fl≤31
 ·have h3:=fun wx=>has6 s.fl hr.1 hr.2 wx
  rw [show decide (0≤s.fl∧s.fl≤31)=true from decide_eq_true hr] at h1 ⊢
  generalize hasF s.fl 16=b at h2 ⊢
  generalize (hasF s.fl 2 || hasF s.fl 4)=c at h3 ⊢
  cases b<;>cases c<;>(go_enter Tryz.func38,Tryz.ntmps38;go_wp2_with (first|(go_at_call 40;refine (h1 _).mono ?_;rintro _ _ ⟨rfl,rfl⟩)|(go_at_call_of 85 (Value.int IntKind.i64 16);refine (h2 _).mono ?_;rintro _ _ ⟨rfl,rfl⟩)|(go_at_call_of 85 (Value.int IntKind.i64 6);refine (h3 _).mono ?_;rintro _ _ ⟨rfl,rfl⟩));go_ret;exact ⟨rfl,G⟩)
 ·rw [show decide (0≤s.fl∧s.fl≤31)=false from decide_eq_false hr] at h1 ⊢
  go_enter Tryz.func38,Tryz.ntmps38
  go_wp2_with (go_at_call 40;refine (h1 _).mono ?_;rintro _ _ ⟨rfl,rfl⟩)
  go_ret
  exact ⟨rfl,G⟩
theorem does_cellT {op:Oper} {a:Act} {w:World} {R:Value→World→Prop} {b:Nat} {cs cs':Array Value} (B:Blk b w cs) (ty:TypeId) (x y:Operand) (ho:op.op=.store ty x y) (i:Nat) (hx:a.eval x=.pointer (some ⟨b,i,none⟩)) (v:Value) (hy:a.eval y=v)
  (hv:v.oneCell'=true) (hs:(Tryz.prog.info? ty).map (·.size)=some 1) (hi:i<cs.size) (hcs:cs.setIfInBounds i v=cs') (h:∀ z,Touch b w z→Blk b z cs'→R undef z):does Tryz.prog op a w R:=by
 have e:=run_storeOne (ty:=ty) hv hs B hi
 unfold does execOp
 simp only [ho,hx,hy,Instr.storeAt,Instr.sureAddr,Sem.run_bind,Sem.run_pure,Result.andThen_ok,e]
 exact h _ ((Touch.refl b w).put i v) (by rw [← hcs];exact B.put i v hi)
def askS (s:Sg):Sg:=⟨0,0,(s.sq - 1) % 4294967296,0,2,s.wn,0,⟨#[]⟩⟩
def cok (s:Sg):Int:=(s.ak - 1) % 4294967296
theorem cok_word (s:Sg):IsWord (cok s):=by
 unfold IsWord cok
 omega
theorem askS_word (s:Sg):IsWord (askS s).sq:=by
 unfold IsWord askS
 show 0≤(s.sq - 1) % 4294967296∧(s.sq - 1) % 4294967296<4294967296
 omega
def takC (s:Sg) (room now:Int):Cn:={hearC (askS s) (cok s) room now with st:=3,una:=s.ak,oF:=s.ak,nxt:=s.ak,mx:=s.ak,agn:=0,tmg:=false}
def takOk (k0 h p j q e:Int) (s:Sg) (room now:Int):Bool:=goesOn s && ckKnown k0 h p j q e (cok s) && decide (hearOk (askS s) room now)
def takV (k0 h p j q e:Int) (s:Sg) (room now:Int):Value:=if takOk k0 h p j q e s room now then .tuple #[.agg (cnCells (takC s room now)),.bool true] else .tuple #[.agg (cnCells cnZero),.bool false]
theorem tak_no {k0 h p j q e:Int} {s:Sg} {room now:Int} (hn:takOk k0 h p j q e s room now=false):takV k0 h p j q e s room now=.tuple #[.agg (cnCells cnZero),.bool false]:=by
 unfold takV
 rw [hn]
 rfl
theorem tak_yes {k0 h p j q e:Int} {s:Sg} {room now:Int} (hn:takOk k0 h p j q e s room now=true):takV k0 h p j q e s room now=.tuple #[.agg (cnCells (takC s room now)),.bool true]:=by
 unfold takV
 rw [hn]
 rfl
def bag (c:Cn) (k:Int) (b1 b2 b3 b4:Bool):Cn:={c with una:=if b1 then k else c.una,oF:=if b2 then k else c.oF,nxt:=if b3 then k else c.nxt,mx:=if b4 then k else c.mx}
theorem ckOf_word (s h p j q e k:Int):IsWord (ckOf s h p j q e k):=by
 unfold ckOf IsWord
 split
 ·rename_i hc
  simp only [ckOk,Bool.and_eq_true,decide_eq_true_eq] at hc
  have hr:=ckMix_range s h p j q e k
  generalize ckMix s h p j q e k=M at hr ⊢
  omega
 ·omega
theorem ckOf_parts (s h p j q e k:Int) (hc:ckOk p q e=true) (hk:0≤k∧k≤7):ckOf s h p j q e k / 16777216 % 8=k∧ckOf s h p j q e k / 134217728=e % 32:=by
 have h2:(ckOk p q e && decide (0≤k∧k≤7))=true:=by rw [hc,decide_eq_true hk];rfl
 unfold ckOf
 rw [if_pos h2]
 have hr:=ckMix_range s h p j q e k
 generalize ckMix s h p j q e k=M at hr ⊢
 have he:=ckOk_in hc
 constructor<;>omega
theorem ckOk_other {p q e e':Int} (hc:ckOk p q e=true) (h:0≤e'∧e'≤1000000000):ckOk p q e'=true:=by
 unfold ckOk at hc ⊢
 simp only [Bool.and_eq_true,decide_eq_true_eq] at hc ⊢
 exact ⟨hc.1,h⟩
theorem known_now (s h p j q e k:Int) (hc:ckOk p q e=true) (hk:0≤k∧k≤7):ckKnown s h p j q e (ckOf s h p j q e k)=true∧ckStep s h p j q e (ckOf s h p j q e k)=k:=by
 obtain ⟨h1,h2⟩:=ckOf_parts s h p j q e k hc hk
 have hn:ckKnown s h p j q e (ckOf s h p j q e k)=true:=by
  unfold ckKnown
  rw [h1,hc]
  simp
 exact ⟨hn,by unfold ckStep;rw [if_pos hn,h1]⟩
theorem known_next (s h p j q e k:Int) (hc:ckOk p q e=true) (he:e<1000000000) (hk:0≤k∧k≤7):ckKnown s h p j q (e+1) (ckOf s h p j q e k)=true∧ckStep s h p j q (e+1) (ckOf s h p j q e k)=k:=by
 obtain ⟨h1,h2⟩:=ckOf_parts s h p j q e k hc hk
 have h0:=ckOk_in hc
 have hn:ckKnown s h p j q (e+1) (ckOf s h p j q e k)=true:=by
  unfold ckKnown
  rw [h1,ckOk_other hc (e':=e+1) (by omega),show e+1 - 1=e by omega]
  have:0<e+1:=by omega
  simp [this]
 exact ⟨hn,by unfold ckStep;rw [if_pos hn,h1]⟩
theorem r400:(1:Int)≤400∧(400:Int)≤4096:=by omega
def uA0 (i:Int):Cn:=startC 1 i 400 3 0
def uS1 (i:Int):Sg:=⟨0,0,i,0,2,400,100,ByteArray.empty⟩
theorem syn_U0 (i:Int):synSg (uA0 i) []=uS1 i:=by
 unfold synSg uA0 startC startZ uS1
 simp [roomN0 0 400 r400]
def uS2 (i k:Int):Sg:=⟨0,0,k,(i+1) % 4294967296,18,65535,100,ByteArray.empty⟩
theorem hear_U (x h p j q e i:Int) (hc:ckOk p q e=true):hearCk x h p j q e (uS1 i)=.tuple #[.agg (sgCells (uS2 i (ckOf x h p j q e 0))),.bool true]:=by
 rw [hearCk_yes (by rw [hc];rfl)]
 rfl
theorem ok_U0 (i:Int) (hi:IsWord i):connOk (uA0 i) []=true:=by
 unfold connOk uA0 startC startZ cnZero
 simp [outOk0 400 r400,inOk0 _ 400 r400,rttOk,congOk,dist1 hi,dist0]
theorem form_U2 (i k:Int):formOk (uS2 i k)=true:=by
 unfold formOk uS2
 simp
def uA1 (i k:Int):Cn:={uA0 i with una:=(i+1) % 4294967296,iN:=(k+1) % 4294967296,wnd:=65535,wsq:=k,wak:=(i+1) % 4294967296,st:=3,owe:=true,agn:=0,trs:=0,rA:=true,rS:=8,rV:=2,rD:=0,tmg:=false}
theorem came_U (i k:Int) (hi:IsWord i):cameV (uA0 i) (uS2 i k) 4 []=(uA1 i k,[],[]):=by
 have ht:takenAt (uA0 i) (uS2 i k) 4 []=true:=by
  unfold takenAt
  rw [ok_U0 i hi,form_U2 i k]
  rfl
 unfold cameV
 rw [if_pos ht]
 unfold cameI answI answS metX metS
 simp only [show hasF (uS2 i k).fl 16=true from rfl,show hasF (uS2 i k).fl 4=false from rfl,show hasF (uS2 i k).fl 2=true from rfl,show (uS2 i k).ak=((uA0 i).iss+1) % 4294967296 from rfl]
 simp [uA0,startC,startZ,cnZero,uA1,uS2,timedC,opnC,smp,rttOk,sampleS,sampleV]
theorem ok_U1 (i k:Int) (hi:IsWord i):connOk (uA1 i k) []=true:=by
 unfold connOk uA1 uA0 startC startZ cnZero
 simp [outOk0 400 r400,inOk0 _ 400 r400,rttOk,congOk,dist0]
def uW:ByteArray:=⟨#[104,101,108,108,111]⟩
theorem uW_size:uW.size=5:=rfl
theorem uW_full:¬ uW=ByteArray.empty:=by
 intro e
 have:=congrArg ByteArray.size e
 rw [uW_size] at this
 cases this
theorem outOkU:outOk uW 400=true:=by
 unfold outOk
 rw [uW_size]
 simp
theorem inOkU (q:Int):inOk q uW 400 []=true:=by
 unfold inOk okB spans
 rw [uW_size]
 simp
def uA2 (i k:Int):Cn:={uA1 i k with oD:=uW}
theorem write_U (i k:Int) (hi:IsWord i):writeC (uA1 i k) [] uW=uA2 i k∧writeN (uA1 i k) [] uW=(5:Nat):=by
 have ho:writeOk (uA1 i k) []=true:=by
  unfold writeOk
  rw [ok_U1 i k hi]
  rfl
 have h1:(uA1 i k).oD=ByteArray.empty:=rfl
 have h2:(uA1 i k).oR=400:=rfl
 have hn:putN ByteArray.empty 400 uW=5:=by
  unfold putN
  rw [if_pos (outOk0 400 r400)]
  rfl
 unfold writeC writeN
 rw [ho,h1,h2,hn]
 refine ⟨?_,rfl⟩
 unfold putD
 rw [outOk0 400 r400,hn]
 simp [uA2]
 exact ⟨by decide,rfl⟩
theorem ok_U2 (i k:Int) (hi:IsWord i):connOk (uA2 i k) []=true:=by
 unfold connOk uA2 uA1 uA0 startC startZ cnZero
 simp [outOkU,inOk0 _ 400 r400,rttOk,congOk,dist0]
def uP (i k:Int):Sg:=⟨0,0,(i+1) % 4294967296,(k+1) % 4294967296,24,400,0,uW⟩
theorem sent_U (i k:Int) (hi:IsWord i):sentS (uA2 i k) [] 4=[uP i k]∧(sentC (uA2 i k) [] 4).st=3:=by
 have ho:sendOk (uA2 i k) [] 4=true:=by
  unfold sendOk
  rw [ok_U2 i k hi]
  rfl
 have hl:leftC (uA2 i k)=5:=by
  unfold leftC behindC
  show distI ((i+1) % 4294967296) (((i+1) % 4294967296+(uW.size:Int)) % 4294967296)=_
  rw [uW_size]
  unfold distI
  omega
 have hz:sizeN (uA2 i k)=5:=by
  have c1:mayN (uA2 i k)=200:=rfl
  have c2:distI (uA2 i k).una (uA2 i k).nxt=0:=dist0 _
  unfold sizeN capN
  rw [hl,c1,c2]
  rfl
 have hg:goesB (uA2 i k)=true:=by
  unfold goesB stopsB
  rw [hz,hl]
  rw [show sendsB (uA2 i k).st=true from rfl]
  simp
 have hp:pieceSg (uA2 i k) []=uP i k:=by
  unfold pieceSg
  rw [hz,hl,if_pos rfl]
  show (⟨0,0,(i+1) % 4294967296,(k+1) % 4294967296,24,inRoomN ((k+1) % 4294967296) ByteArray.empty 400 [],0,takeT ((i+1) % 4294967296) uW 400 ((i+1) % 4294967296) 5 (distI ((i+1) % 4294967296) ((i+1) % 4294967296))⟩:Sg)=_
  rw [roomN0 _ 400 r400,dist0]
  unfold takeT
  rw [if_pos ⟨outOkU,by omega,by omega,by rw [uW_size];omega⟩]
  rfl
 have ht:timesC (uA2 i k) 4={uA2 i k with tmg:=true,tsq:=(i+1) % 4294967296,tat:=4}:=by
  unfold timesC
  rw [if_pos (by show (!false && decide ((i+1) % 4294967296=(i+1) % 4294967296))=true;simp)]
  rfl
 have h1:oneC (uA2 i k) 4=wentC {uA2 i k with tmg:=true,tsq:=(i+1) % 4294967296,tat:=4} 5 4:=by
  unfold oneC
  rw [hz,ht]
 have hl2:leftC (oneC (uA2 i k) 4)=0:=by
  rw [h1]
  unfold leftC
  show distI (((i+1) % 4294967296+(5:Int) % 4294967296) % 4294967296) (((i+1) % 4294967296+(uW.size:Int)) % 4294967296)=0
  rw [uW_size]
  unfold distI
  omega
 have hg2:goesB (oneC (uA2 i k) 4)=false:=by
  unfold goesB stopsB
  have:sizeN (oneC (uA2 i k) 4)<1:=by
   unfold sizeN
   rw [hl2]
   split<;>omega
  simp [this]
 have hX:sendX (uA2 i k) [] 4 []=(oneC (uA2 i k) 4,[uP i k]):=by
  unfold sendX
  rw [hl,show ((5:Int)).toNat=4+1 from rfl,piecesC,if_pos hg,pieces_stop _ _ _ _ hg2,hp]
  have hf:finB (oneC (uA2 i k) 4)=false:=by
   unfold finB
   rw [h1,show (wentC {uA2 i k with tmg:=true,tsq:=(i+1) % 4294967296,tat:=4} 5 4).fin=false from rfl]
   simp
  have hq:prbB (oneC (uA2 i k) 4)=false:=by
   unfold prbB
   rw [hl2]
   simp
  have hw:oweB (oneC (uA2 i k) 4)=false:=by
   rw [h1]
   rfl
  simp only [fin2,hf,prbC,hq,owe2,hw,Bool.false_eq_true,if_false]
  rfl
 unfold sentS sentC
 rw [ho,hX]
 refine ⟨rfl,?_⟩
 show (oneC (uA2 i k) 4).st=3
 rw [h1]
 rfl
def uB0 (i k:Int):Cn:={startC 2 k 400 5 ((i+1) % 4294967296) with wnd:=400,wsq:=i,st:=3,una:=(k+1) % 4294967296,oF:=(k+1) % 4294967296,nxt:=(k+1) % 4294967296,mx:=(k+1) % 4294967296,agn:=0,tmg:=false}
theorem cok_P (i k:Int) (hk:IsWord k):cok (uP i k)=k:=by
 unfold cok IsWord at *
 show ((k+1) % 4294967296 - 1) % 4294967296=k
 omega
theorem tak_P (i k:Int) (hi:IsWord i) (hk:IsWord k):takC (uP i k) 400 5=uB0 i k:=by
 have h1:(((i+1) % 4294967296 - 1) % 4294967296+1) % 4294967296=(i+1) % 4294967296:=by omega
 have h2:((i+1) % 4294967296 - 1) % 4294967296=i:=by
  unfold IsWord at hi
  omega
 unfold takC
 rw [cok_P i k hk]
 unfold hearC askS
 show {startC 2 k 400 5 ((((i+1) % 4294967296 - 1) % 4294967296+1) % 4294967296) with wnd:=400,wsq:=((i+1) % 4294967296 - 1) % 4294967296,st:=3,una:=(k+1) % 4294967296,oF:=(k+1) % 4294967296,nxt:=(k+1) % 4294967296,mx:=(k+1) % 4294967296,agn:=0,tmg:=false}=uB0 i k
 rw [h1,h2]
 rfl
theorem known_P (x h p j q e i k:Int) (hk:IsWord k) (hn:ckKnown x h p j q e k=true):takOk x h p j q e (uP i k) 400 5=true:=by
 unfold takOk
 rw [cok_P i k hk,hn,show goesOn (uP i k)=true from rfl]
 simp [hearOk,askS,uP]
 rfl
theorem take_P (x h p j q e i k:Int) (hi:IsWord i) (hk:IsWord k) (hn:ckKnown x h p j q e k=true):takV x h p j q e (uP i k) 400 5=.tuple #[.agg (cnCells (uB0 i k)),.bool true]:=by
 rw [tak_yes (known_P x h p j q e i k hk hn),tak_P i k hi hk]
theorem ok_V0 (i k:Int):connOk (uB0 i k) []=true:=by
 unfold connOk uB0 startC startZ cnZero
 simp [outOk0 400 r400,inOk0 _ 400 r400,rttOk,congOk,dist0]
theorem form_UP (i k:Int):formOk (uP i k)=true:=rfl
def uB1 (i k:Int):Cn:={uB0 i k with iN:=((i+1) % 4294967296+5) % 4294967296,iD:=uW,owe:=true,wsq:=(i+1) % 4294967296,wak:=(k+1) % 4294967296}
theorem put_U (q:Int):pQ q ByteArray.empty 400 [] 0 uW=(q+5) % 4294967296∧pD q ByteArray.empty 400 [] 0 uW=uW∧pL q ByteArray.empty 400 [] 0 uW=[]:=by
 have hp:putOk q ByteArray.empty 400 [] 0 uW:=⟨inOk0 q 400 r400,by rw [uW_size];omega,by omega,by omega⟩
 have hc:came 0 uW (400 - (ByteArray.empty.size:Int))=(0,5):=by
  unfold came
  rw [uW_size]
  simp
  rfl
 have hj:pJ q [] 0 uW (400 - (ByteArray.empty.size:Int))=[(0,5)]:=by
  unfold pJ
  rw [hc,if_pos (by show (0:Int)<5;omega)]
  rfl
 unfold pQ pD pL
 rw [if_pos hp,if_pos hp,if_pos hp,hj]
 refine ⟨rfl,?_,rfl⟩
 unfold gD
 show (if (0:Int)=0 then ByteArray.empty++textOf (fun n=>pF q [] 0 uW ((0:Int).toNat+n)) ((5:Int) - 0).toNat else ByteArray.empty)=uW
 rw [if_pos rfl,show ((5:Int) - 0).toNat=uW.size from rfl,ByteArray.empty_append]
 refine (textOf_ext _ (byteAt uW) _ fun n hn=>?_).trans (textOf_bytes _)
 show base 0 uW ((0:Int).toNat+n)=_
 unfold base
 rw [if_pos (by omega)]
 congr 1
 omega
theorem came_UP (i k:Int) (hi:IsWord i) (hk:IsWord k):cameV (uB0 i k) (uP i k) 5 []=(uB1 i k,[],[]):=by
 have ht:takenAt (uB0 i k) (uP i k) 5 []=true:=by
  unfold takenAt
  rw [ok_V0 i k,form_UP i k]
  rfl
 have hc:confirmed (uB0 i k) (uP i k) 5=uB0 i k:=by
  unfold confirmed
  rw [if_neg (by show ¬ 0<distI ((k+1) % 4294967296) ((k+1) % 4294967296);rw [dist0];decide)]
  have h1:conf1 (uB0 i k) (uP i k)=uB0 i k:=by
   unfold conf1
   rw [if_neg (fun x=>absurd x.1 (by show ¬ (3:Int)=2;decide))]
  rw [h1]
  unfold confD
  rw [if_neg (fun x=>uW_full x.1)]
 have hw:winB (uB0 i k) (uP i k) []=true:=by
  have hsp:spanSg (uP i k)=5:=rfl
  unfold winB
  rw [hsp,if_pos (by simp)]
  have hrm:roomC (uB0 i k) []=400:=roomN0 _ 400 r400
  have hz:((uP i k).sq - (uB0 i k).iN) % 4294967296=0:=by
   show ((i+1) % 4294967296 - (i+1) % 4294967296) % 4294967296=0
   omega
  unfold overB
  rw [decide_eq_true_iff,hrm,hz]
  omega
 have hd:distI ((i+1) % 4294967296) ((i+1) % 4294967296)=0:=dist0 _
 have hi1:0<distI i ((i+1) % 4294967296):=by rw [dist1 hi];decide
 have htold:toldX (uB0 i k) (uP i k)={uB0 i k with wsq:=(i+1) % 4294967296,wak:=(k+1) % 4294967296}:=by
  unfold toldX toldB
  rw [show (uB0 i k).wsq=i from rfl,show (uP i k).sq=(i+1) % 4294967296 from rfl,show (uP i k).ak=(k+1) % 4294967296 from rfl,decide_eq_true hi1]
  simp [toldC,uP,uB0,startC,startZ,cnZero]
 have hq:=put_U ((i+1) % 4294967296)
 unfold cameV
 rw [if_pos ht]
 unfold cameI
 rw [if_neg (by show ¬ ((3:Int) == 1)=true;decide)]
 unfold fromW
 rw [if_pos hw]
 unfold fromL
 rw [if_pos (by rfl)]
 unfold fromC
 rw [if_neg (by show ¬ (!decide (0≤distI ((k+1) % 4294967296) ((k+1) % 4294967296)))=true;rw [dist0];decide),if_neg (by show ¬ decide (0<distI ((k+1) % 4294967296) ((k+1) % 4294967296))=true;rw [dist0];decide),hc,htold]
 generalize hT:({uB0 i k with wsq:=(i+1) % 4294967296,wak:=(k+1) % 4294967296}:Cn)=T
 have hfd:finDoneX T 5=T:=by
  subst hT
  rfl
 have htk:takesB T (uP i k)=true:=by
  subst hT
  unfold takesB
  rw [show (uP i k).d=uW from rfl,decide_eq_false uW_full]
  rfl
 unfold fromF
 rw [hfd,if_neg (by subst hT;show ¬ ((3:Int) == 0)=true;decide)]
 unfold fromD takenC takenP
 rw [htk,if_pos rfl,if_pos rfl]
 have e1:T.iN=(i+1) % 4294967296:=by subst hT;rfl
 have e2:T.iD=ByteArray.empty:=by subst hT;rfl
 have e3:T.iR=400:=by subst hT;rfl
 rw [e1,e2,e3,show (uP i k).sq=(i+1) % 4294967296 from rfl,show (uP i k).d=uW from rfl,hd,hq.1,hq.2.1,hq.2.2]
 subst hT
 rfl
theorem ok_V1 (i k:Int):connOk (uB1 i k) []=true:=by
 unfold connOk uB1 uB0 startC startZ cnZero
 simp [outOk0 400 r400,inOkU,rttOk,congOk,dist0]
theorem read_U (i k:Int):readS (uB1 i k) [] 100=uW:=by
 unfold readS
 rw [if_pos (ok_V1 i k)]
 show readT (((i+1) % 4294967296+5) % 4294967296) uW 400 [] 100=uW
 unfold readT readN
 rw [if_pos ⟨inOkU _,by omega,by omega⟩,if_pos ⟨inOkU _,by omega,by omega⟩]
 rfl
end Go.Proofs.YtmigalhmlofbkaaGreatDoor
