/-
  An end that is written to, as spec makes it.
  An end that is read from, as spec makes it.
  An end that was asked, as spec makes it.
  Two ends that hear each other, as plain functions: what comes of each step (pure).
  The laws' functions over ends, as the laws of chapter 11 want them.
-/
import Derived.Test.YtmdglnmdodcehaaGreatDoorM40
import Derived.Test.YtmdglnmdodcehaaGreatDoorMS
import Derived.Test.YtmdglnmdodcehaaGreatDoorM27
import Derived.Test.YtmdglnmdodcehaaGreatDoorM7
import Derived.BigQuiet
import Derived.Test.YtmdglnmdodcehaaGreatDoorM9
import Derived.Test.YtmdglnmdodcehaaGreatDoorM6
import Derived.Deep.DeepCutAuto
import Derived.Test.YtmdglnmdodcehaaGreatDoorM33
import Derived.Test.YtmdglnmdodcehaaGreatDoorArrU
import Derived.Test.YtmdglnmdodcehaaGreatDoorSend11I
import Derived.Test.YtmdglnmdodcehaaGreatDoorM5
import Derived.Test.YtmdglnmdodcehaaGreatDoorM0
import Derived.Test.YtmdglnmdodcehaaGreatDoorRows
import Derived.WalkKit
import Derived.ProofKit
import Derived.OpenShut
import Derived.ShutString
import Derived.Deep.Fields
import Derived.Carry
import Derived.Test.YtmdglnmdodcehaaGreatDoorMB
import Derived.Test.YtmdglnmdodcehaaGreatDoorOut
import Derived.Test.YtmdglnmdodcehaaGreatDoorM1
import Derived.Great.BuildSlice
namespace Go.Proofs.YtmdglnmdodcehaaGreatDoor
open Go.ChangeShapes Go.WideShapes Go.ChangeAt Go.RowKit
set_option linter.unusedVariables false
set_option maxRecDepth 10000

def writeOk (c:Cn) (ps:List (Int×ByteArray)):Bool:=connOk c ps && (mayW c.st && !c.fin)

def writeC (c:Cn) (ps:List (Int×ByteArray)) (s:ByteArray):Cn:=if writeOk c ps then {c with oD:=putD c.oD c.oR s} else c

def writeN (c:Cn) (ps:List (Int×ByteArray)) (s:ByteArray):Int:=if writeOk c ps then putN c.oD c.oR s else 0
end Go.Proofs.YtmdglnmdodcehaaGreatDoor

namespace Go.Proofs.YtmdglnmdodcehaaGreatDoor
open Go.ChangeShapes Go.WideShapes Go.ChangeAt Go.RowKit
set_option linter.unusedVariables false
set_option maxRecDepth 10000

def owesR (st:Int) (room:Int) (t:ByteArray):Bool:=decide (t≠ByteArray.empty∧room<100∧st≠0∧st≠1∧st≠2)

def readC (c:Cn) (ps:List (Int×ByteArray)) (n:Int):Cn:=
 if connOk c ps then (if owesR c.st (inRoomN c.iN c.iD c.iR ps) (readT c.iN c.iD c.iR ps n) then {c with iD:=readD c.iN c.iD c.iR ps n,owe:=true} else {c with iD:=readD c.iN c.iD c.iR ps n}) else c

def readS (c:Cn) (ps:List (Int×ByteArray)) (n:Int):ByteArray:=if connOk c ps then readT c.iN c.iD c.iR ps n else ByteArray.empty
end Go.Proofs.YtmdglnmdodcehaaGreatDoor

namespace Go.Proofs.YtmdglnmdodcehaaGreatDoor
open Go.ChangeShapes Go.WideShapes Go.ChangeAt Go.RowKit
set_option linter.unusedVariables false
set_option maxRecDepth 10000

def hearC (s:Sg) (i room now:Int):Cn:={startC 2 i room now ((s.sq+1) % 4294967296) with wnd:=s.wn,wsq:=s.sq}

def hearOk (s:Sg) (room now:Int):Prop:=(1≤room∧room≤4096)∧(0≤now∧now≤1000000000)∧s.fl=2∧(0≤s.wn∧s.wn≤65535)∧s.d=ByteArray.empty

instance (s:Sg) (room now:Int):Decidable (hearOk s room now):=by unfold hearOk;infer_instance

def hearV (s:Sg) (i room now:Int):Value:=if hearOk s room now then .tuple #[cnVal (hearC s i room now),sgVal (synSg (hearC s i room now) []),.bool true] else .tuple #[cnVal cnZero,sgVal sgZero,.bool false]
end Go.Proofs.YtmdglnmdodcehaaGreatDoor

namespace Go.Proofs.YtmdglnmdodcehaaGreatDoor
open Go.ChangeShapes Go.WideShapes Go.ChangeAt Go.RowKit Go.Deep
set_option linter.unusedVariables false
set_option maxRecDepth 10000

theorem dist1 {x:Int} (h:IsWord x):distI x ((x+1) % 4294967296)=1:=by
 unfold IsWord at h
 unfold distI
 omega

theorem dist0 (x:Int):distI x x=0:=by
 unfold distI
 omega

theorem inOk0 (q room:Int) (h:1≤room∧room≤4096):inOk q ByteArray.empty room []=true:=by
 unfold inOk okB spans
 simp [h]
 omega

theorem roomN0 (q room:Int) (h:1≤room∧room≤4096):inRoomN q ByteArray.empty room []=room:=by
 unfold inRoomN
 rw [if_pos (inOk0 q room h)]
 simp

theorem outOk0 (room:Int) (h:1≤room∧room≤4096):outOk ByteArray.empty room=true:=by
 unfold outOk
 simp [h]
 omega

def hA0 (i room:Int):Cn:=startC 1 i room 5 0

def hS1 (i room:Int):Sg:=⟨0,0,i,0,2,room,100,ByteArray.empty⟩

theorem syn_A0 (i room:Int) (h:1≤room∧room≤4096):synSg (hA0 i room) []=hS1 i room:=by
 unfold synSg hA0 startC startZ hS1
 simp [roomN0 0 room h]

def hB0 (i k room:Int):Cn:=hearC (hS1 i room) k room 6

def hS2 (i k room:Int):Sg:=⟨0,0,k,(i+1) % 4294967296,18,room,100,ByteArray.empty⟩

theorem syn_B0 (i k room:Int) (h:1≤room∧room≤4096):synSg (hB0 i k room) []=hS2 i k room:=by
 unfold synSg hB0 hearC startC startZ hS1 hS2
 simp [roomN0 _ room h]

theorem ok_A0 (i room:Int) (hi:IsWord i) (h:1≤room∧room≤4096):connOk (hA0 i room) []=true:=by
 unfold connOk hA0 startC startZ cnZero
 simp [outOk0 room h,inOk0 _ room h,rttOk,congOk,dist1 hi,dist0]

theorem ok_B0 (i k room:Int) (hk:IsWord k) (h:1≤room∧room≤4096):connOk (hB0 i k room) []=true:=by
 unfold connOk hB0 hearC hS1 startC startZ cnZero
 simp [outOk0 room h,inOk0 _ room h,rttOk,congOk,dist1 hk,dist0]
 omega

theorem form_S2 (i k room:Int) (h:1≤room∧room≤4096):formOk (hS2 i k room)=true:=by
 unfold formOk hS2
 simp
 omega

def hA1 (i k room:Int):Cn:={hA0 i room with una:=(i+1) % 4294967296,iN:=(k+1) % 4294967296,wnd:=room,wsq:=k,wak:=(i+1) % 4294967296,st:=3,owe:=true,agn:=0,trs:=0,rA:=true,rS:=16,rV:=4,rD:=0,tmg:=false}

theorem came_A (i k room:Int) (hi:IsWord i) (h:1≤room∧room≤4096):cameV (hA0 i room) (hS2 i k room) 7 []=(hA1 i k room,[],[]):=by
 have ht:takenAt (hA0 i room) (hS2 i k room) 7 []=true:=by
  unfold takenAt
  rw [ok_A0 i room hi h,form_S2 i k room h]
  rfl
 unfold cameV
 rw [if_pos ht]
 unfold cameI answI answS metX metS
 simp only [show hasF (hS2 i k room).fl 16=true from rfl,show hasF (hS2 i k room).fl 4=false from rfl,show hasF (hS2 i k room).fl 2=true from rfl,show (hS2 i k room).ak=((hA0 i room).iss+1) % 4294967296 from rfl]
 simp [hA0,startC,startZ,cnZero,hA1,hS2,timedC,opnC,smp,rttOk,sampleS,sampleV]

theorem ok_A1 (i k room:Int) (hi:IsWord i) (h:1≤room∧room≤4096):connOk (hA1 i k room) []=true:=by
 unfold connOk hA1 hA0 startC startZ cnZero
 simp [outOk0 room h,inOk0 _ room h,rttOk,congOk,dist0]
 omega

def hA2 (i k room:Int):Cn:={hA1 i k room with owe:=false}

def hK1 (i k room:Int):Sg:=⟨0,0,(i+1) % 4294967296,(k+1) % 4294967296,16,room,0,ByteArray.empty⟩

theorem sent_A (i k room:Int) (hi:IsWord i) (h:1≤room∧room≤4096):sentC (hA1 i k room) [] 7=hA2 i k room∧sentS (hA1 i k room) [] 7=[hK1 i k room]:=by
 have ho:sendOk (hA1 i k room) [] 7=true:=by
  unfold sendOk
  rw [ok_A1 i k room hi h]
  rfl
 have hl:leftC (hA1 i k room)=0:=by
  unfold leftC behindC
  simp [hA1,hA0,startC,startZ,cnZero,dist0]
 have hf:finB (hA1 i k room)=false:=by
  unfold finB
  rw [show (hA1 i k room).fin=false from rfl]
  simp
 have hp:prbB (hA1 i k room)=false:=by
  unfold prbB
  rw [show (hA1 i k room).wnd=room from rfl,decide_eq_false (show ¬ room=0 by omega)]
  simp
 have hw:oweB (hA1 i k room)=true:=rfl
 have hX:sendX (hA1 i k room) [] 7 []=(hA2 i k room,[hK1 i k room]):=by
  unfold sendX
  rw [hl]
  simp only [Int.toNat_zero,piecesC,fin2,hf,prbC,hp,owe2,hw,if_true,Bool.false_eq_true,if_false]
  simp [hA2,hA1,hA0,startC,startZ,cnZero,ackSg,hK1,roomN0 _ room h]
 unfold sentC sentS
 rw [ho,hX]
 exact ⟨rfl,rfl⟩

theorem ok_A2 (i k room:Int) (hi:IsWord i) (h:1≤room∧room≤4096):connOk (hA2 i k room) []=true:=ok_A1 i k room hi h

theorem form_K1 (i k room:Int) (h:1≤room∧room≤4096):formOk (hK1 i k room)=true:=by
 unfold formOk hK1
 simp
 omega

def hB1 (i k room:Int):Cn:={hB0 i k room with st:=3,una:=(k+1) % 4294967296,rA:=true,rS:=16,rV:=4,rD:=0,cX:=201,agn:=0,tmg:=false,wnd:=room,wsq:=(i+1) % 4294967296,wak:=(k+1) % 4294967296}

theorem came_B (i k room:Int) (hi:IsWord i) (hk:IsWord k) (h:1≤room∧room≤4096):cameV (hB0 i k room) (hK1 i k room) 8 []=(hB1 i k room,[],[]):=by
 have ht:takenAt (hB0 i k room) (hK1 i k room) 8 []=true:=by
  unfold takenAt
  rw [ok_B0 i k room hk h,form_K1 i k room h]
  rfl
 have hr:¬ room=0:=by omega
 have hc:confirmed (hB0 i k room) (hK1 i k room) 8={hB0 i k room with st:=3,una:=(k+1) % 4294967296,rA:=true,rS:=16,rV:=4,rD:=0,cX:=201,agn:=0,tmg:=false}:=by
  unfold confirmed
  rw [if_pos (by show 0<distI k ((k+1) % 4294967296);rw [dist1 hk];decide)]
  have h1:conf1 (hB0 i k room) (hK1 i k room)={hB0 i k room with st:=3}:=by
   unfold conf1
   rw [if_pos ⟨rfl,by show 0<distI k ((k+1) % 4294967296);rw [dist1 hk];decide⟩]
  rw [h1]
  unfold confN conf2 conf3 conf4 conf5 conf6 conf7 agn6 uptoC
  simp [hB0,hearC,hS1,startC,startZ,cnZero,hK1,dist0,dist1 hk,timedC,smp,rttOk,sampleS,sampleV,okA,congOk,ackX,ackD,ackF,ackB,doneF,doneD]
  omega
 unfold cameV
 rw [if_pos ht]
 unfold cameI
 rw [if_neg (by show ¬ ((2:Int) == 1)=true;decide)]
 have hw:winB (hB0 i k room) (hK1 i k room) []=true:=by
  unfold winB spanSg
  simp [hK1,segSpanOf,hasF,hB0,hearC,hS1,startC,startZ,cnZero]
 unfold fromW
 rw [if_pos hw]
 unfold fromL
 rw [if_pos (by rfl)]
 unfold fromC
 rw [if_neg (by show ¬ (!decide (0≤distI k ((k+1) % 4294967296)))=true;rw [dist1 hk];decide),if_neg (by show ¬ decide (0<distI ((k+1) % 4294967296) ((k+1) % 4294967296))=true;rw [dist0];decide),hc]
 unfold toldX toldB fromF finDoneX fromD endX finInB takenC takenP takesB
 simp [hB0,hearC,hS1,startC,startZ,cnZero,hK1,dist1 hi,toldC,hr,hB1,hasF]

def hW:ByteArray:=⟨#[116,119,111,108,105,110,101]⟩

def hM (room:Int):Nat:=min room.toNat 7

def hT (room:Int):ByteArray:=hW.extract 0 (hM room)

theorem hM_in (room:Int) (h:1≤room∧room≤4096):1≤hM room∧hM room≤7∧(hM room:Int)≤room:=by
 unfold hM
 omega

theorem hT_size (room:Int):(hT room).size=hM room:=by
 unfold hT hM
 rw [ByteArray.size_extract]
 show min (min room.toNat 7) 7 - 0=_
 omega

theorem outOkT (room:Int) (h:1≤room∧room≤4096):outOk (hT room) room=true:=by
 have:=hM_in room h
 unfold outOk
 rw [hT_size]
 simp [h]
 omega

theorem inOkT (q room:Int) (h:1≤room∧room≤4096):inOk q (hT room) room []=true:=by
 have:=hM_in room h
 unfold inOk okB spans
 rw [hT_size]
 simp [h]
 omega

def hA3 (i k room:Int):Cn:={hA2 i k room with oD:=hT room}

theorem write_A (i k room:Int) (hi:IsWord i) (h:1≤room∧room≤4096):writeC (hA2 i k room) [] hW=hA3 i k room∧writeN (hA2 i k room) [] hW=hM room:=by
 have ho:writeOk (hA2 i k room) []=true:=by
  unfold writeOk
  rw [ok_A2 i k room hi h]
  rfl
 have h1:(hA2 i k room).oD=ByteArray.empty:=rfl
 have h2:(hA2 i k room).oR=room:=rfl
 have hn:putN ByteArray.empty room hW=hM room:=by
  unfold putN
  rw [if_pos (outOk0 room h)]
  show min (room.toNat - 0) 7=hM room
  unfold hM
  omega
 unfold writeC writeN
 rw [ho,h1,h2,hn]
 refine ⟨?_,rfl⟩
 unfold putD
 rw [outOk0 room h,hn]
 simp [hA3,hT]
 rfl

theorem ok_A3 (i k room:Int) (hi:IsWord i) (h:1≤room∧room≤4096):connOk (hA3 i k room) []=true:=by
 unfold connOk hA3 hA2 hA1 hA0 startC startZ cnZero
 simp [outOkT room h,inOk0 _ room h,rttOk,congOk,dist0]
 omega

def hP (i k room:Int):Sg:=⟨0,0,(i+1) % 4294967296,(k+1) % 4294967296,24,room,0,hT room⟩

theorem pieces_stop (ps:List (Int×ByteArray)) (now:Int) (c:Cn) (xs:List Sg) (h:goesB c=false):∀ n,piecesC ps now n c xs=(c,xs)
 | 0=>rfl
 | n+1=>by
  rw [piecesC,h]
  rfl

theorem sent_P (i k room:Int) (hi:IsWord i) (h:1≤room∧room≤4096):sentS (hA3 i k room) [] 9=[hP i k room]:=by
 have hm:=hM_in room h
 have hs:=hT_size room
 have ho:sendOk (hA3 i k room) [] 9=true:=by
  unfold sendOk
  rw [ok_A3 i k room hi h]
  rfl
 have hl:leftC (hA3 i k room)=hM room:=by
  unfold leftC behindC
  show distI ((i+1) % 4294967296) (((i+1) % 4294967296+((hT room).size:Int)) % 4294967296)=_
  rw [hs]
  unfold distI
  omega
 have hz:sizeN (hA3 i k room)=hM room:=by
  have c1:mayN (hA3 i k room)=if (200:Int)<room then 200 else room:=rfl
  have c2:distI (hA3 i k room).una (hA3 i k room).nxt=0:=dist0 _
  unfold sizeN capN
  rw [hl,c1,c2]
  unfold hM at hm ⊢
  repeat' split
  all_goals omega
 have hg:goesB (hA3 i k room)=true:=by
  unfold goesB stopsB
  rw [hz,hl]
  rw [show sendsB (hA3 i k room).st=true from rfl]
  simp
  omega
 have hp:pieceSg (hA3 i k room) []=hP i k room:=by
  unfold pieceSg
  rw [hz,hl,if_pos rfl]
  show (⟨0,0,(i+1) % 4294967296,(k+1) % 4294967296,24,inRoomN ((k+1) % 4294967296) ByteArray.empty room [],0,takeT ((i+1) % 4294967296) (hT room) room ((i+1) % 4294967296) (hM room) (distI ((i+1) % 4294967296) ((i+1) % 4294967296))⟩:Sg)=_
  rw [roomN0 _ room h,dist0]
  unfold takeT
  rw [if_pos ⟨outOkT room h,by omega,by omega,by omega⟩]
  unfold hP
  have e:(hT room).extract (0:Int).toNat ((0:Int).toNat+min ((hM room:Int)).toNat ((hT room).size - (0:Int).toNat))=hT room:=by
   rw [hs]
   show (hT room).extract 0 _=_
   rw [show (0:Int).toNat+min ((hM room:Int)).toNat (hM room - (0:Int).toNat)=(hT room).size by rw [hs];omega]
   exact ByteArray.extract_zero_size
  rw [e]
 have ht:timesC (hA3 i k room) 9={hA3 i k room with tmg:=true,tsq:=(i+1) % 4294967296,tat:=9}:=by
  unfold timesC
  rw [if_pos (by show (!false && decide ((i+1) % 4294967296=(i+1) % 4294967296))=true;simp)]
  rfl
 have h1:oneC (hA3 i k room) 9=wentC {hA3 i k room with tmg:=true,tsq:=(i+1) % 4294967296,tat:=9} (hM room) 9:=by
  unfold oneC
  rw [hz,ht]
 have hl2:leftC (oneC (hA3 i k room) 9)=0:=by
  rw [h1]
  unfold leftC
  show distI (((i+1) % 4294967296+(hM room:Int) % 4294967296) % 4294967296) (((i+1) % 4294967296+((hT room).size:Int)) % 4294967296)=0
  rw [hs]
  unfold distI
  omega
 have hg2:goesB (oneC (hA3 i k room) 9)=false:=by
  unfold goesB stopsB
  have:sizeN (oneC (hA3 i k room) 9)<1:=by
   unfold sizeN
   rw [hl2]
   split<;>omega
  simp [this]
 obtain ⟨n,hn⟩:∃ n,hM room=n+1:=⟨hM room - 1,by omega⟩
 have hX:(sendX (hA3 i k room) [] 9 []).2=[hP i k room]:=by
  unfold sendX
  rw [hl,show ((hM room:Int)).toNat=n+1 by omega,piecesC,if_pos hg,pieces_stop _ _ _ _ hg2,hp]
  have hf:finB (oneC (hA3 i k room) 9)=false:=by
   unfold finB
   rw [h1,show (wentC {hA3 i k room with tmg:=true,tsq:=(i+1) % 4294967296,tat:=9} (hM room) 9).fin=false from rfl]
   simp
  have hq:prbB (oneC (hA3 i k room) 9)=false:=by
   unfold prbB
   rw [hl2]
   simp
  have hw:oweB (oneC (hA3 i k room) 9)=false:=by
   rw [h1]
   rfl
  simp only [fin2,hf,prbC,hq,owe2,hw,Bool.false_eq_true,if_false]
  rfl
 unfold sentS
 rw [ho,hX]
 rfl

theorem ok_B1 (i k room:Int) (hk:IsWord k) (h:1≤room∧room≤4096):connOk (hB1 i k room) []=true:=by
 unfold connOk hB1 hB0 hearC hS1 startC startZ cnZero
 simp [outOk0 room h,inOk0 _ room h,rttOk,congOk,dist0]
 omega

theorem form_P (i k room:Int) (h:1≤room∧room≤4096):formOk (hP i k room)=true:=by
 have hm:=hM_in room h
 unfold formOk hP
 simp [hT_size room]
 omega

theorem hT_full (room:Int) (h:1≤room∧room≤4096):¬ hT room=ByteArray.empty:=by
 intro e
 have:=hT_size room
 rw [e] at this
 have:=hM_in room h
 simp at *
 omega

def hB2 (i k room:Int):Cn:={hB1 i k room with iN:=((i+1) % 4294967296+(hM room:Int)) % 4294967296,iD:=hT room,owe:=true}

theorem put_T (q room:Int) (h:1≤room∧room≤4096):pQ q ByteArray.empty room [] 0 (hT room)=(q+(hM room:Int)) % 4294967296∧pD q ByteArray.empty room [] 0 (hT room)=hT room∧pL q ByteArray.empty room [] 0 (hT room)=[]:=by
 have hm:=hM_in room h
 have hs:=hT_size room
 have hp:putOk q ByteArray.empty room [] 0 (hT room):=⟨inOk0 q room h,by omega,by omega,by omega⟩
 have hc:came 0 (hT room) (room - (ByteArray.empty.size:Int))=(0,(hM room:Int)):=by
  unfold came
  rw [hs]
  simp
  omega
 have hj:pJ q [] 0 (hT room) (room - (ByteArray.empty.size:Int))=[(0,(hM room:Int))]:=by
  unfold pJ
  rw [hc,if_pos (by show (0:Int)<(hM room:Int);omega)]
  rfl
 unfold pQ pD pL
 rw [if_pos hp,if_pos hp,if_pos hp,hj]
 refine ⟨rfl,?_,rfl⟩
 unfold gD
 show (if (0:Int)=0 then ByteArray.empty++textOf (fun n=>pF q [] 0 (hT room) ((0:Int).toNat+n)) ((hM room:Int) - 0).toNat else ByteArray.empty)=hT room
 rw [if_pos rfl,show ((hM room:Int) - 0).toNat=(hT room).size by rw [hs];omega,ByteArray.empty_append]
 refine (textOf_ext _ (byteAt (hT room)) _ fun n hn=>?_).trans (textOf_bytes _)
 show base 0 (hT room) ((0:Int).toNat+n)=_
 unfold base
 rw [if_pos (by omega)]
 congr 1
 omega

theorem came_P (i k room:Int) (hi:IsWord i) (hk:IsWord k) (h:1≤room∧room≤4096):cameV (hB1 i k room) (hP i k room) 10 []=(hB2 i k room,[],[]):=by
 have hm:=hM_in room h
 have hs:=hT_size room
 have hr:¬ room=0:=by omega
 have ht:takenAt (hB1 i k room) (hP i k room) 10 []=true:=by
  unfold takenAt
  rw [ok_B1 i k room hk h,form_P i k room h]
  rfl
 have hc:confirmed (hB1 i k room) (hP i k room) 10=hB1 i k room:=by
  unfold confirmed
  rw [if_neg (by show ¬ 0<distI ((k+1) % 4294967296) ((k+1) % 4294967296);rw [dist0];decide)]
  have h1:conf1 (hB1 i k room) (hP i k room)=hB1 i k room:=by
   unfold conf1
   rw [if_neg (fun x=>absurd x.1 (by show ¬ (3:Int)=2;decide))]
  rw [h1]
  unfold confD
  rw [if_neg (fun x=>hT_full room h x.1)]
 have hw:winB (hB1 i k room) (hP i k room) []=true:=by
  have hsp:spanSg (hP i k room)=(hM room:Int):=by
   unfold spanSg segSpanOf
   show ((hT room).size:Int)+(if hasF 24 2=true then 1 else 0)+(if hasF 24 1=true then 1 else 0)=_
   rw [hs,show hasF 24 2=false from rfl,show hasF 24 1=false from rfl]
   simp
  unfold winB
  rw [hsp,if_pos (by simp;omega)]
  have hrm:roomC (hB1 i k room) []=room:=roomN0 _ room h
  have hz:((hP i k room).sq - (hB1 i k room).iN) % 4294967296=0:=by
   show ((i+1) % 4294967296 - (i+1) % 4294967296) % 4294967296=0
   omega
  unfold overB
  rw [decide_eq_true_iff,hrm,hz]
  omega
 have hd:distI ((i+1) % 4294967296) ((i+1) % 4294967296)=0:=dist0 _
 have htold:toldX (hB1 i k room) (hP i k room)=hB1 i k room:=by
  unfold toldX toldB
  rw [show (hB1 i k room).wsq=(i+1) % 4294967296 from rfl,show (hP i k room).sq=(i+1) % 4294967296 from rfl,show (hB1 i k room).wak=(k+1) % 4294967296 from rfl,show (hP i k room).ak=(k+1) % 4294967296 from rfl,dist0,dist0]
  simp [toldC,hP,hr,hB1,hB0,hearC,startC,startZ,cnZero]
 have hq:=put_T ((i+1) % 4294967296) room h
 have htk:takesB (hB1 i k room) (hP i k room)=true:=by
  unfold takesB
  rw [show (hP i k room).d=hT room from rfl,decide_eq_false (hT_full room h)]
  rfl
 unfold cameV
 rw [if_pos ht]
 unfold cameI
 rw [if_neg (by show ¬ ((3:Int) == 1)=true;decide)]
 unfold fromW
 rw [if_pos hw]
 unfold fromL
 rw [if_pos (by rfl)]
 unfold fromC
 rw [if_neg (by show ¬ (!decide (0≤distI ((k+1) % 4294967296) ((k+1) % 4294967296)))=true;rw [dist0];decide),if_neg (by show ¬ decide (0<distI ((k+1) % 4294967296) ((k+1) % 4294967296))=true;rw [dist0];decide),hc,htold]
 have hfd:finDoneX (hB1 i k room) 10=hB1 i k room:=rfl
 unfold fromF
 rw [hfd,if_neg (by show ¬ ((3:Int) == 0)=true;decide)]
 unfold fromD takenC takenP
 rw [htk,if_pos rfl,if_pos rfl]
 rw [show (hB1 i k room).iN=(i+1) % 4294967296 from rfl,show (hB1 i k room).iD=ByteArray.empty from rfl,show (hB1 i k room).iR=room from rfl,show (hP i k room).sq=(i+1) % 4294967296 from rfl,show (hP i k room).d=hT room from rfl,hd,hq.1,hq.2.1,hq.2.2]
 rfl

theorem ok_B2 (i k room:Int) (hk:IsWord k) (h:1≤room∧room≤4096):connOk (hB2 i k room) []=true:=by
 unfold connOk hB2 hB1 hB0 hearC hS1 startC startZ cnZero
 simp [outOk0 room h,inOkT _ room h,rttOk,congOk,dist0]
 omega

theorem read_B (i k room:Int) (hk:IsWord k) (h:1≤room∧room≤4096):readS (hB2 i k room) [] 100=hT room:=by
 have hm:=hM_in room h
 have hs:=hT_size room
 unfold readS
 rw [if_pos (ok_B2 i k room hk h)]
 show readT (((i+1) % 4294967296+(hM room:Int)) % 4294967296) (hT room) room [] 100=hT room
 unfold readT readN
 rw [if_pos ⟨inOkT _ room h,by omega,by omega⟩,if_pos ⟨inOkT _ room h,by omega,by omega⟩]
 rw [show min (100:Int).toNat (hT room).size=(hT room).size by rw [hs];omega]
 exact ByteArray.extract_zero_size
end Go.Proofs.YtmdglnmdodcehaaGreatDoor

namespace Go.Proofs.YtmdglnmdodcehaaGreatDoor
open Go.ChangeShapes Go.WideShapes Go.ChangeAt Go.RowKit Go.Deep
set_option linter.unusedVariables false
set_option maxRecDepth 10000
set_option maxRecDepth 10000

theorem good_at {c:Cn} {ps:List (Int×ByteArray)} (g:GoodC c ps) (a:Option Addr) (p:Nat):GoodC {c with pa:=a,pc:=p} ps:=
 ⟨g.w_iss,g.w_una,g.w_nxt,g.w_mx,g.w_wsq,g.w_wak,g.w_oF,g.w_fsq,g.w_cR,g.w_tsq,g.hod,g.gd⟩
end Go.Proofs.YtmdglnmdodcehaaGreatDoor
