/-
  The laws' functions over ends whose list of parts is none.
  The laws' functions over lists of segments.
-/
import Derived.Test.YtnbopjlpemmkcaaGreatConnLaw
import Derived.Test.YtnbopjlpemmkcaaGreatSegTab
import Derived.Test.YtnbopjlpemmkcaaGreatM15
import Derived.Test.YtnbopjlpemmkcaaGreatMark
import Derived.Test.YtnbopjlpemmkcaaGreatM16
import Derived.Deep.DeepCutAuto
namespace Go.Proofs.YtnbopjlpemmkcaaGreat
open Go.ChangeShapes Go.WideShapes Go.ChangeAt Go.RowKit
set_option linter.unusedVariables false
set_option maxRecDepth 10000

theorem eqSegN (a b c d e f g:Int) (h:ByteArray) (w:World) :
  Calls Tryz.prog 40 #[.agg #[.int .i64 a,.int .i64 b,.int .u32 c,.int .u32 d,.int .i64 e,.int .i64 f,.int .i64 g,.string h],.agg #[.int .i64 a,.int .i64 b,.int .u32 c,.int .u32 d,.int .i64 e,.int .i64 f,.int .i64 g,.string h]] w fun x w'=>x=.returned (.bool true)∧Since w w':=by
 go_enter Tryz.func40,Tryz.ntmps40
 go_wp2
 go_ret
 exact ⟨rfl,by repeat (first|exact Since.refl _|apply Since.drew|apply Since.alloc)⟩
end Go.Proofs.YtnbopjlpemmkcaaGreat

namespace Go.Proofs.YtnbopjlpemmkcaaGreat
open Go.ChangeShapes Go.WideShapes Go.ChangeAt Go.RowKit
set_option linter.unusedVariables false
set_option maxRecDepth 10000

def gAt (xs:List Sg) (i:Nat):Sg:=shG.get xs i

theorem Held.seg {w:World} {B g n cap:Nat} {xs:List Sg} (h:Held shG w B g n cap xs) (i:Nat) (hi:i<n):w.cell? ⟨g,i*8,none⟩=some (.int .i64 (gAt xs i).fr)∧w.cell? ⟨g,i*8+1,none⟩=some (.int .i64 (gAt xs i).tt)∧w.cell? ⟨g,i*8+2,none⟩=some (.int .u32 (gAt xs i).sq)∧w.cell? ⟨g,i*8+3,none⟩=some (.int .u32 (gAt xs i).ak)∧w.cell? ⟨g,i*8+4,none⟩=some (.int .i64 (gAt xs i).fl)∧w.cell? ⟨g,i*8+5,none⟩=some (.int .i64 (gAt xs i).wn)∧w.cell? ⟨g,i*8+6,none⟩=some (.int .i64 (gAt xs i).ms)∧w.cell? ⟨g,i*8+7,none⟩=some (.string (gAt xs i).d):=⟨h.cell i hi 0 (by decide),h.cell i hi 1 (by decide),h.cell i hi 2 (by decide),h.cell i hi 3 (by decide),h.cell i hi 4 (by decide),h.cell i hi 5 (by decide),h.cell i hi 6 (by decide),h.cell i hi 7 (by decide)⟩

set_option maxRecDepth 20000 in
set_option maxHeartbeats 4000000 in
theorem eqSegs (B B' g g' n ca cb:Nat) (xs:List Sg) (hn:n≤1048576) (w:World) (T:Held shG w B g n ca xs) (T':Held shG w B' g' n cb xs) :
  Calls Tryz.prog 12 #[.slice (some ⟨g,0,none⟩) n ca,.slice (some ⟨g',0,none⟩) n cb] w fun e w'=>e=.returned (.bool true)∧Since w w':=by
 go_enter Tryz.func12,Tryz.ntmps12
 go_wp2
 go_loopw [5] (fun i wr=>∃ (k:Nat),k≤n∧i=.int .i64 k∧Since w wr) (fun i _=>n - (intOf i).toNat)
 case atStart=>exact ⟨0,by omega,rfl,Since.refl _⟩
 case round=>
  obtain ⟨k,hk,rfl,S⟩:=hrel
  by_cases hlt:k<n
  ·have hlt':(k:Int)<(n:Int):=by omega
   have q:=fun z:Later wr=>Held.seg (T.since (S.trans z.ok)) k hlt
   have r:=fun z:Later wr=>Held.seg (T'.since (S.trans z.ok)) k hlt
   generalize gAt xs k=O at q r
   clear T T'
   go_wp2
   have c0:∀ z:Later wr,z.val.cell? ⟨g,k*8,none⟩=some (.int .i64 O.fr):=fun z=>(q z).1
   have c1:∀ z:Later wr,z.val.cell? ⟨g,k*8+1,none⟩=some (.int .i64 O.tt):=fun z=>(q z).2.1
   have c2:∀ z:Later wr,z.val.cell? ⟨g,k*8+2,none⟩=some (.int .u32 O.sq):=fun z=>(q z).2.2.1
   have c3:∀ z:Later wr,z.val.cell? ⟨g,k*8+3,none⟩=some (.int .u32 O.ak):=fun z=>(q z).2.2.2.1
   have c4:∀ z:Later wr,z.val.cell? ⟨g,k*8+4,none⟩=some (.int .i64 O.fl):=fun z=>(q z).2.2.2.2.1
   have c5:∀ z:Later wr,z.val.cell? ⟨g,k*8+5,none⟩=some (.int .i64 O.wn):=fun z=>(q z).2.2.2.2.2.1
   have c6:∀ z:Later wr,z.val.cell? ⟨g,k*8+6,none⟩=some (.int .i64 O.ms):=fun z=>(q z).2.2.2.2.2.2.1
   have c7:∀ z:Later wr,z.val.cell? ⟨g,k*8+7,none⟩=some (.string O.d):=fun z=>(q z).2.2.2.2.2.2.2
   have d0:∀ z:Later wr,z.val.cell? ⟨g',k*8,none⟩=some (.int .i64 O.fr):=fun z=>(r z).1
   have d1:∀ z:Later wr,z.val.cell? ⟨g',k*8+1,none⟩=some (.int .i64 O.tt):=fun z=>(r z).2.1
   have d2:∀ z:Later wr,z.val.cell? ⟨g',k*8+2,none⟩=some (.int .u32 O.sq):=fun z=>(r z).2.2.1
   have d3:∀ z:Later wr,z.val.cell? ⟨g',k*8+3,none⟩=some (.int .u32 O.ak):=fun z=>(r z).2.2.2.1
   have d4:∀ z:Later wr,z.val.cell? ⟨g',k*8+4,none⟩=some (.int .i64 O.fl):=fun z=>(r z).2.2.2.2.1
   have d5:∀ z:Later wr,z.val.cell? ⟨g',k*8+5,none⟩=some (.int .i64 O.wn):=fun z=>(r z).2.2.2.2.2.1
   have d6:∀ z:Later wr,z.val.cell? ⟨g',k*8+6,none⟩=some (.int .i64 O.ms):=fun z=>(r z).2.2.2.2.2.2.1
   have d7:∀ z:Later wr,z.val.cell? ⟨g',k*8+7,none⟩=some (.string O.d):=fun z=>(r z).2.2.2.2.2.2.2
   have he:∀ z:Later wr,Calls Tryz.prog 40 #[.agg #[.int .i64 O.fr,.int .i64 O.tt,.int .u32 O.sq,.int .u32 O.ak,.int .i64 O.fl,.int .i64 O.wn,.int .i64 O.ms,.string O.d],.agg #[.int .i64 O.fr,.int .i64 O.tt,.int .u32 O.sq,.int .u32 O.ak,.int .i64 O.fl,.int .i64 O.wn,.int .i64 O.ms,.string O.d]] z.val fun e w''=>e=.returned (.bool true)∧∃ z:Later wr,w''=z.val:=fun z=>calm_call (eqSegN O.fr O.tt O.sq O.ak O.fl O.wn O.ms O.d z.val)
   have hne:Nonempty (Later wr):=⟨⟨wr,Since.refl _⟩⟩
   clear q r
   refine wp_region_calm (wb:=wr) (by kernel_rfl) (by kernel_rfl) (Since.refl _) ?_
   repeat (go_big_quiet_step (exact he _))
   refine wpQuiet_nil ?_
   rintro _ ⟨y,rfl⟩
   go_wp2
   have S2:=S.trans y.ok
   go_roundw
   case rel=>exact ⟨k+1,by omega,by go_num,S2⟩
   case measure=>simp [intOf];omega
  ·have hkn:k=n:=by omega
   subst hkn
   clear T T'
   go_wp2
   go_ret
   exact ⟨rfl,S⟩

def MarkedG (k:Int) (n:Nat) (xs:List Sg):Prop:=∀ j,j<n→gAt xs j=⟨k+8*(j:Int),k+8*(j:Int)+1,k+8*(j:Int)+2,k+8*(j:Int)+3,k+8*(j:Int)+4,k+8*(j:Int)+5,k+8*(j:Int)+6,markOf (k+8*(j:Int)+7)⟩

theorem gAt_set_same (xs:List Sg) (i:Nat) (x:Sg) (h:i<xs.length):gAt (xs.set i x) i=x:=by
 simp [gAt,Shape.get,List.getD,h]

theorem gAt_set_other (xs:List Sg) (i j:Nat) (x:Sg) (h:i≠j):gAt (xs.set i x) j=gAt xs j:=by
 simp [gAt,Shape.get,List.getD,h]

set_option maxRecDepth 20000 in
set_option maxHeartbeats 8000000 in
theorem markSegs (B g n cap:Nat) (xs:List Sg) (k:Int) (hk0:1≤k) (hk1:k+8*n≤1073741824) (w:World) (T:Held shG w B g n cap xs) :
  Calls Tryz.prog 14 #[.slice (some ⟨g,0,none⟩) n cap,.int .i64 k] w fun e w'=>e=.returned (.int .i64 (k+8*n))∧Touch g w w'∧∃ ms,MarkedG k n ms∧Held shG w' B g n cap ms:=by
 go_enter Tryz.func14,Tryz.ntmps14
 go_wp2
 go_loopw [1,5] (fun q i wr=>∃ (j:Nat) (ms:List Sg),j≤n∧i=.int .i64 j∧q=.int .i64 (k+8*j)∧Hid (MarkedG k j ms)∧Held shG wr B g n cap ms∧Touch g w wr) (fun _ i _=>n - (intOf i).toNat)
 case atStart=>exact ⟨0,xs,by omega,rfl,by simp,fun j hj=>by omega,T,Touch.refl _ _⟩
 case round=>
  obtain ⟨j,ms,hj,rfl,rfl,hM,Tr,S⟩:=hrel
  by_cases hlt:j<n
  ·have hlt':(j:Int)<(n:Int):=by omega
   clear T
   have hlen:j<ms.length:=by rw [Tr.1];exact hlt
   obtain ⟨y0,ey0⟩:∃ y,y=wr:=⟨_,rfl⟩
   have T0:=Tr
   obtain ⟨K0,hK0⟩:∃ K,Hid (K=k+8*(j:Int)):=⟨_,rfl⟩
   rw [← hK0.out]
   obtain ⟨K1,hK1⟩:∃ K,Hid (K=K0+1):=⟨_,rfl⟩
   obtain ⟨K2,hK2⟩:∃ K,Hid (K=K1+1):=⟨_,rfl⟩
   obtain ⟨K3,hK3⟩:∃ K,Hid (K=K2+1):=⟨_,rfl⟩
   obtain ⟨K4,hK4⟩:∃ K,Hid (K=K3+1):=⟨_,rfl⟩
   obtain ⟨K5,hK5⟩:∃ K,Hid (K=K4+1):=⟨_,rfl⟩
   obtain ⟨K6,hK6⟩:∃ K,Hid (K=K5+1):=⟨_,rfl⟩
   obtain ⟨K7,hK7⟩:∃ K,Hid (K=K6+1):=⟨_,rfl⟩
   obtain ⟨K8,hK8⟩:∃ K,Hid (K=K7+1):=⟨_,rfl⟩
   have b0:1≤K0∧K0+8≤1073741824:=by have:=hK0.out;omega
   have b1:1≤K1∧K1+7≤1073741824:=by have:=hK1.out;omega
   have b2:1≤K2∧K2+6≤1073741824:=by have:=hK2.out;omega
   have b3:1≤K3∧K3+5≤1073741824:=by have:=hK3.out;omega
   have b4:1≤K4∧K4+4≤1073741824:=by have:=hK4.out;omega
   have b5:1≤K5∧K5+3≤1073741824:=by have:=hK5.out;omega
   have b6:1≤K6∧K6+2≤1073741824:=by have:=hK6.out;omega
   have b7:1≤K7∧K7+1≤1073741824:=by have:=hK7.out;omega
   have b8:1≤K8∧K8+0≤1073741824:=by have:=hK8.out;omega
   have hw0:IntKind.i64.wrap (K0+1)=K1:=by rw [← hK1.out,IntWalk.i64_left];exact IntWalk.wrap64_in _ ⟨by omega,by omega⟩
   have hw1:IntKind.i64.wrap (K1+1)=K2:=by rw [← hK2.out,IntWalk.i64_left];exact IntWalk.wrap64_in _ ⟨by omega,by omega⟩
   have hw2:IntKind.i64.wrap (K2+1)=K3:=by rw [← hK3.out,IntWalk.i64_left];exact IntWalk.wrap64_in _ ⟨by omega,by omega⟩
   have hw3:IntKind.i64.wrap (K3+1)=K4:=by rw [← hK4.out,IntWalk.i64_left];exact IntWalk.wrap64_in _ ⟨by omega,by omega⟩
   have hw4:IntKind.i64.wrap (K4+1)=K5:=by rw [← hK5.out,IntWalk.i64_left];exact IntWalk.wrap64_in _ ⟨by omega,by omega⟩
   have hw5:IntKind.i64.wrap (K5+1)=K6:=by rw [← hK6.out,IntWalk.i64_left];exact IntWalk.wrap64_in _ ⟨by omega,by omega⟩
   have hw6:IntKind.i64.wrap (K6+1)=K7:=by rw [← hK7.out,IntWalk.i64_left];exact IntWalk.wrap64_in _ ⟨by omega,by omega⟩
   have hw7:IntKind.i64.wrap (K7+1)=K8:=by rw [← hK8.out,IntWalk.i64_left];exact IntWalk.wrap64_in _ ⟨by omega,by omega⟩
   have hu2:IntKind.u32.wrap K2=K2:=by simp [IntKind.wrap,IntKind.bits,IntKind.signed];omega
   have hv2:K2 % 4294967296=K2:=by omega
   have hu3:IntKind.u32.wrap K3=K3:=by simp [IntKind.wrap,IntKind.bits,IntKind.signed];omega
   have hv3:K3 % 4294967296=K3:=by omega
   have hm:=fun wx=>markText K7 b7.1 (by omega) wx
   have c0:wr.cell? ⟨g,j*8,none⟩=some (.int .i64 (gAt ms j).fr):=T0.cell j hlt 0 (by decide) |>.trans (by rw [show shG.get ms j=(gAt ms j) from rfl];rfl)
   have z0:=T0.free (j*8)
   obtain ⟨y1,e1⟩:∃ y,wr.setCell ⟨g,j*8,none⟩ (.int .i64 K0)=y:=⟨_,rfl⟩
   have T1:=T0.put1 j hlt 0 (by decide) (.int .i64 K0) ⟨K0,(gAt ms j).tt,(gAt ms j).sq,(gAt ms j).ak,(gAt ms j).fl,(gAt ms j).wn,(gAt ms j).ms,(gAt ms j).d⟩ (by rw [show shG.get ms j=(gAt ms j) from rfl];rfl)
   rw [show j*shG.k+0=j*8 from rfl,e1] at T1
   have t1:Touch g wr y1:=by rw [← e1];exact (Touch.refl g _).put _ _
   have c1:y1.cell? ⟨g,j*8+1,none⟩=some (.int .i64 (gAt ms j).tt):=T1.cell j hlt 1 (by decide) |>.trans (by rw [show shG.get (ms.set j ⟨K0,(gAt ms j).tt,(gAt ms j).sq,(gAt ms j).ak,(gAt ms j).fl,(gAt ms j).wn,(gAt ms j).ms,(gAt ms j).d⟩) j=⟨K0,(gAt ms j).tt,(gAt ms j).sq,(gAt ms j).ak,(gAt ms j).fl,(gAt ms j).wn,(gAt ms j).ms,(gAt ms j).d⟩ from gAt_set_same ms j _ hlen];rfl)
   have z1:=T1.free (j*8+1)
   obtain ⟨y2,e2⟩:∃ y,y1.setCell ⟨g,j*8+1,none⟩ (.int .i64 K1)=y:=⟨_,rfl⟩
   have T2:=T1.put1 j hlt 1 (by decide) (.int .i64 K1) ⟨K0,K1,(gAt ms j).sq,(gAt ms j).ak,(gAt ms j).fl,(gAt ms j).wn,(gAt ms j).ms,(gAt ms j).d⟩ (by rw [show shG.get (ms.set j ⟨K0,(gAt ms j).tt,(gAt ms j).sq,(gAt ms j).ak,(gAt ms j).fl,(gAt ms j).wn,(gAt ms j).ms,(gAt ms j).d⟩) j=⟨K0,(gAt ms j).tt,(gAt ms j).sq,(gAt ms j).ak,(gAt ms j).fl,(gAt ms j).wn,(gAt ms j).ms,(gAt ms j).d⟩ from gAt_set_same ms j _ hlen];rfl)
   rw [show j*shG.k+1=j*8+1 from rfl,e2,List.set_set] at T2
   have t2:Touch g y1 y2:=by rw [← e2];exact (Touch.refl g _).put _ _
   have c2:y2.cell? ⟨g,j*8+2,none⟩=some (.int .u32 (gAt ms j).sq):=T2.cell j hlt 2 (by decide) |>.trans (by rw [show shG.get (ms.set j ⟨K0,K1,(gAt ms j).sq,(gAt ms j).ak,(gAt ms j).fl,(gAt ms j).wn,(gAt ms j).ms,(gAt ms j).d⟩) j=⟨K0,K1,(gAt ms j).sq,(gAt ms j).ak,(gAt ms j).fl,(gAt ms j).wn,(gAt ms j).ms,(gAt ms j).d⟩ from gAt_set_same ms j _ hlen];rfl)
   have z2:=T2.free (j*8+2)
   obtain ⟨y3,e3⟩:∃ y,y2.setCell ⟨g,j*8+2,none⟩ (.int .u32 K2)=y:=⟨_,rfl⟩
   have T3:=T2.put1 j hlt 2 (by decide) (.int .u32 K2) ⟨K0,K1,K2,(gAt ms j).ak,(gAt ms j).fl,(gAt ms j).wn,(gAt ms j).ms,(gAt ms j).d⟩ (by rw [show shG.get (ms.set j ⟨K0,K1,(gAt ms j).sq,(gAt ms j).ak,(gAt ms j).fl,(gAt ms j).wn,(gAt ms j).ms,(gAt ms j).d⟩) j=⟨K0,K1,(gAt ms j).sq,(gAt ms j).ak,(gAt ms j).fl,(gAt ms j).wn,(gAt ms j).ms,(gAt ms j).d⟩ from gAt_set_same ms j _ hlen];rfl)
   rw [show j*shG.k+2=j*8+2 from rfl,e3,List.set_set] at T3
   have t3:Touch g y2 y3:=by rw [← e3];exact (Touch.refl g _).put _ _
   have c3:y3.cell? ⟨g,j*8+3,none⟩=some (.int .u32 (gAt ms j).ak):=T3.cell j hlt 3 (by decide) |>.trans (by rw [show shG.get (ms.set j ⟨K0,K1,K2,(gAt ms j).ak,(gAt ms j).fl,(gAt ms j).wn,(gAt ms j).ms,(gAt ms j).d⟩) j=⟨K0,K1,K2,(gAt ms j).ak,(gAt ms j).fl,(gAt ms j).wn,(gAt ms j).ms,(gAt ms j).d⟩ from gAt_set_same ms j _ hlen];rfl)
   have z3:=T3.free (j*8+3)
   obtain ⟨y4,e4⟩:∃ y,y3.setCell ⟨g,j*8+3,none⟩ (.int .u32 K3)=y:=⟨_,rfl⟩
   have T4:=T3.put1 j hlt 3 (by decide) (.int .u32 K3) ⟨K0,K1,K2,K3,(gAt ms j).fl,(gAt ms j).wn,(gAt ms j).ms,(gAt ms j).d⟩ (by rw [show shG.get (ms.set j ⟨K0,K1,K2,(gAt ms j).ak,(gAt ms j).fl,(gAt ms j).wn,(gAt ms j).ms,(gAt ms j).d⟩) j=⟨K0,K1,K2,(gAt ms j).ak,(gAt ms j).fl,(gAt ms j).wn,(gAt ms j).ms,(gAt ms j).d⟩ from gAt_set_same ms j _ hlen];rfl)
   rw [show j*shG.k+3=j*8+3 from rfl,e4,List.set_set] at T4
   have t4:Touch g y3 y4:=by rw [← e4];exact (Touch.refl g _).put _ _
   have c4:y4.cell? ⟨g,j*8+4,none⟩=some (.int .i64 (gAt ms j).fl):=T4.cell j hlt 4 (by decide) |>.trans (by rw [show shG.get (ms.set j ⟨K0,K1,K2,K3,(gAt ms j).fl,(gAt ms j).wn,(gAt ms j).ms,(gAt ms j).d⟩) j=⟨K0,K1,K2,K3,(gAt ms j).fl,(gAt ms j).wn,(gAt ms j).ms,(gAt ms j).d⟩ from gAt_set_same ms j _ hlen];rfl)
   have z4:=T4.free (j*8+4)
   obtain ⟨y5,e5⟩:∃ y,y4.setCell ⟨g,j*8+4,none⟩ (.int .i64 K4)=y:=⟨_,rfl⟩
   have T5:=T4.put1 j hlt 4 (by decide) (.int .i64 K4) ⟨K0,K1,K2,K3,K4,(gAt ms j).wn,(gAt ms j).ms,(gAt ms j).d⟩ (by rw [show shG.get (ms.set j ⟨K0,K1,K2,K3,(gAt ms j).fl,(gAt ms j).wn,(gAt ms j).ms,(gAt ms j).d⟩) j=⟨K0,K1,K2,K3,(gAt ms j).fl,(gAt ms j).wn,(gAt ms j).ms,(gAt ms j).d⟩ from gAt_set_same ms j _ hlen];rfl)
   rw [show j*shG.k+4=j*8+4 from rfl,e5,List.set_set] at T5
   have t5:Touch g y4 y5:=by rw [← e5];exact (Touch.refl g _).put _ _
   have c5:y5.cell? ⟨g,j*8+5,none⟩=some (.int .i64 (gAt ms j).wn):=T5.cell j hlt 5 (by decide) |>.trans (by rw [show shG.get (ms.set j ⟨K0,K1,K2,K3,K4,(gAt ms j).wn,(gAt ms j).ms,(gAt ms j).d⟩) j=⟨K0,K1,K2,K3,K4,(gAt ms j).wn,(gAt ms j).ms,(gAt ms j).d⟩ from gAt_set_same ms j _ hlen];rfl)
   have z5:=T5.free (j*8+5)
   obtain ⟨y6,e6⟩:∃ y,y5.setCell ⟨g,j*8+5,none⟩ (.int .i64 K5)=y:=⟨_,rfl⟩
   have T6:=T5.put1 j hlt 5 (by decide) (.int .i64 K5) ⟨K0,K1,K2,K3,K4,K5,(gAt ms j).ms,(gAt ms j).d⟩ (by rw [show shG.get (ms.set j ⟨K0,K1,K2,K3,K4,(gAt ms j).wn,(gAt ms j).ms,(gAt ms j).d⟩) j=⟨K0,K1,K2,K3,K4,(gAt ms j).wn,(gAt ms j).ms,(gAt ms j).d⟩ from gAt_set_same ms j _ hlen];rfl)
   rw [show j*shG.k+5=j*8+5 from rfl,e6,List.set_set] at T6
   have t6:Touch g y5 y6:=by rw [← e6];exact (Touch.refl g _).put _ _
   have c6:y6.cell? ⟨g,j*8+6,none⟩=some (.int .i64 (gAt ms j).ms):=T6.cell j hlt 6 (by decide) |>.trans (by rw [show shG.get (ms.set j ⟨K0,K1,K2,K3,K4,K5,(gAt ms j).ms,(gAt ms j).d⟩) j=⟨K0,K1,K2,K3,K4,K5,(gAt ms j).ms,(gAt ms j).d⟩ from gAt_set_same ms j _ hlen];rfl)
   have z6:=T6.free (j*8+6)
   obtain ⟨y7,e7⟩:∃ y,y6.setCell ⟨g,j*8+6,none⟩ (.int .i64 K6)=y:=⟨_,rfl⟩
   have T7:=T6.put1 j hlt 6 (by decide) (.int .i64 K6) ⟨K0,K1,K2,K3,K4,K5,K6,(gAt ms j).d⟩ (by rw [show shG.get (ms.set j ⟨K0,K1,K2,K3,K4,K5,(gAt ms j).ms,(gAt ms j).d⟩) j=⟨K0,K1,K2,K3,K4,K5,(gAt ms j).ms,(gAt ms j).d⟩ from gAt_set_same ms j _ hlen];rfl)
   rw [show j*shG.k+6=j*8+6 from rfl,e7,List.set_set] at T7
   have t7:Touch g y6 y7:=by rw [← e7];exact (Touch.refl g _).put _ _
   have c7:y7.cell? ⟨g,j*8+7,none⟩=some (.string (gAt ms j).d):=(T7.cell j hlt 7 (by decide)).trans (by rw [show shG.get (ms.set j ⟨K0,K1,K2,K3,K4,K5,K6,(gAt ms j).d⟩) j=⟨K0,K1,K2,K3,K4,K5,K6,(gAt ms j).d⟩ from gAt_set_same ms j _ hlen];rfl)
   have hA:Hid (k+8*(j:Int)=K0∧k+8*(j:Int)+1=K1∧k+8*(j:Int)+2=K2∧k+8*(j:Int)+3=K3∧k+8*(j:Int)+4=K4∧k+8*(j:Int)+5=K5∧k+8*(j:Int)+6=K6∧k+8*(j:Int)+7=K7∧k+8*(j:Int)+8=K8):=by
    show _∧_
    have a0:=hK0.out
    have a1:=hK1.out
    have a2:=hK2.out
    have a3:=hK3.out
    have a4:=hK4.out
    have a5:=hK5.out
    have a6:=hK6.out
    have a7:=hK7.out
    have a8:=hK8.out
    omega
   clear hK0 hK1 hK2 hK3 hK4 hK5 hK6 hK7 hK8
   go_wp2_with (go_at_call 42;refine (hm _).mono ?_;rintro _ w1 ⟨rfl,g1⟩;have T8:=T7.since g1;have d7:w1.cell? ⟨g,j*8+7,none⟩=some (.string (gAt ms j).d):=(T8.cell j hlt 7 (by decide)).trans (by rw [show shG.get (ms.set j ⟨K0,K1,K2,K3,K4,K5,K6,(gAt ms j).d⟩) j=⟨K0,K1,K2,K3,K4,K5,K6,(gAt ms j).d⟩ from gAt_set_same ms j _ hlen];rfl);have e7:=T8.free (j*8+7))
   have T9:=T8.put1 j hlt 7 (by decide) (.string (markOf K7)) ⟨K0,K1,K2,K3,K4,K5,K6,markOf K7⟩ (by rw [show shG.get (ms.set j ⟨K0,K1,K2,K3,K4,K5,K6,(gAt ms j).d⟩) j=⟨K0,K1,K2,K3,K4,K5,K6,(gAt ms j).d⟩ from gAt_set_same ms j _ hlen];rfl)
   rw [show j*shG.k+7=j*8+7 from rfl,List.set_set] at T9
   go_roundw
   case rel=>
    refine ⟨j+1,_,by omega,by go_num,?_,?_,T9,((S.trans ((((((t1.trans t2).trans t3).trans t4).trans t5).trans t6).trans t7)).trans (Touch.of_since g1 g)).put _ _⟩
    ·have a:=hA.out.2.2.2.2.2.2.2.2
     congr 1
     push_cast
     omega
    ·show MarkedG k (j+1) _
     intro i hi
     by_cases e:i=j
     ·subst e
      rw [gAt_set_same _ _ _ hlen]
      obtain ⟨a0,a1,a2,a3,a4,a5,a6,a7,_⟩:=hA.out
      rw [a7,a6,a5,a4,a3,a2,a1,a0]
     ·rw [gAt_set_other _ _ _ _ (Ne.symm e)]
      exact hM.out i (by omega)
   case measure=>simp [intOf];omega
  ·have hjn:j=n:=by omega
   subst hjn
   go_wp2
   go_ret
   exact ⟨rfl,S,ms,hM.out,Tr⟩

set_option maxRecDepth 20000 in
set_option maxHeartbeats 8000000 in
theorem heldSegs (B g n cap:Nat) (ms:List Sg) (k:Int) (hk0:1≤k) (hk1:k+8*n≤1073741824) (w:World) (T:Held shG w B g n cap ms) (hM:MarkedG k n ms) :
  Calls Tryz.prog 16 #[.slice (some ⟨g,0,none⟩) n cap,.int .i64 k] w fun e w'=>e=.returned (.int .i64 (k+8*n))∧Since w w':=by
 go_enter Tryz.func16,Tryz.ntmps16
 go_wp2
 go_loopw [1,5] (fun q i wr=>∃ (j:Nat),j≤n∧i=.int .i64 j∧q=.int .i64 (k+8*j)∧Since w wr) (fun _ i _=>n - (intOf i).toNat)
 case atStart=>exact ⟨0,by omega,rfl,by simp,Since.refl _⟩
 case round=>
  obtain ⟨j,hj,rfl,rfl,S⟩:=hrel
  by_cases hlt:j<n
  ·have hlt':(j:Int)<(n:Int):=by omega
   have q:=fun z:Later wr=>Held.seg (T.since (S.trans z.ok)) j hlt
   rw [hM j hlt] at q
   obtain ⟨K0,hK0⟩:∃ K,Hid (K=k+8*(j:Int)):=⟨_,rfl⟩
   rw [← hK0.out] at q ⊢
   have b0:1≤K0∧K0+8≤1073741824:=by have:=hK0.out;omega
   obtain ⟨K1,hK1⟩:∃ K,Hid (K=K0+1):=⟨_,rfl⟩
   obtain ⟨K2,hK2⟩:∃ K,Hid (K=K0+2):=⟨_,rfl⟩
   obtain ⟨K3,hK3⟩:∃ K,Hid (K=K0+3):=⟨_,rfl⟩
   obtain ⟨K4,hK4⟩:∃ K,Hid (K=K0+4):=⟨_,rfl⟩
   obtain ⟨K5,hK5⟩:∃ K,Hid (K=K0+5):=⟨_,rfl⟩
   obtain ⟨K6,hK6⟩:∃ K,Hid (K=K0+6):=⟨_,rfl⟩
   obtain ⟨K7,hK7⟩:∃ K,Hid (K=K0+7):=⟨_,rfl⟩
   obtain ⟨K8,hK8⟩:∃ K,Hid (K=K0+8):=⟨_,rfl⟩
   rw [← hK1.out,← hK2.out,← hK3.out,← hK4.out,← hK5.out,← hK6.out,← hK7.out] at q
   have hw0:IntKind.i64.wrap (K0+1)=K1:=by rw [show K0+1=K1 by have:=hK1.out;omega,IntWalk.i64_left];exact IntWalk.wrap64_in _ ⟨by have:=hK1.out;omega,by have:=hK1.out;omega⟩
   have hw1:IntKind.i64.wrap (K1+1)=K2:=by rw [show K1+1=K2 by have:=hK2.out;have:=hK1.out;omega,IntWalk.i64_left];exact IntWalk.wrap64_in _ ⟨by have:=hK2.out;omega,by have:=hK2.out;omega⟩
   have hw2:IntKind.i64.wrap (K2+1)=K3:=by rw [show K2+1=K3 by have:=hK3.out;have:=hK2.out;omega,IntWalk.i64_left];exact IntWalk.wrap64_in _ ⟨by have:=hK3.out;omega,by have:=hK3.out;omega⟩
   have hw3:IntKind.i64.wrap (K3+1)=K4:=by rw [show K3+1=K4 by have:=hK4.out;have:=hK3.out;omega,IntWalk.i64_left];exact IntWalk.wrap64_in _ ⟨by have:=hK4.out;omega,by have:=hK4.out;omega⟩
   have hw4:IntKind.i64.wrap (K4+1)=K5:=by rw [show K4+1=K5 by have:=hK5.out;have:=hK4.out;omega,IntWalk.i64_left];exact IntWalk.wrap64_in _ ⟨by have:=hK5.out;omega,by have:=hK5.out;omega⟩
   have hw5:IntKind.i64.wrap (K5+1)=K6:=by rw [show K5+1=K6 by have:=hK6.out;have:=hK5.out;omega,IntWalk.i64_left];exact IntWalk.wrap64_in _ ⟨by have:=hK6.out;omega,by have:=hK6.out;omega⟩
   have hw6:IntKind.i64.wrap (K6+1)=K7:=by rw [show K6+1=K7 by have:=hK7.out;have:=hK6.out;omega,IntWalk.i64_left];exact IntWalk.wrap64_in _ ⟨by have:=hK7.out;omega,by have:=hK7.out;omega⟩
   have hw7:IntKind.i64.wrap (K7+1)=K8:=by rw [show K7+1=K8 by have:=hK8.out;have:=hK7.out;omega,IntWalk.i64_left];exact IntWalk.wrap64_in _ ⟨by have:=hK8.out;omega,by have:=hK8.out;omega⟩
   have hu2:IntKind.u32.wrap K2=K2:=by have:=hK2.out;simp [IntKind.wrap,IntKind.bits,IntKind.signed];omega
   have hv2:K2 % 4294967296=K2:=by have:=hK2.out;omega
   have hu3:IntKind.u32.wrap K3=K3:=by have:=hK3.out;simp [IntKind.wrap,IntKind.bits,IntKind.signed];omega
   have hv3:K3 % 4294967296=K3:=by have:=hK3.out;omega
   have b7:1≤K7∧K7≤1073741824:=by have:=hK7.out;omega
   have hm0:=fun wx=>markText K7 b7.1 b7.2 wx
   have hz:∀ z:Later wr,_:=q
   have c0:wr.cell? ⟨g,j*8,none⟩=some (.int .i64 K0):=(q ⟨wr,Since.refl _⟩).1
   have c1:wr.cell? ⟨g,j*8+1,none⟩=some (.int .i64 K1):=(q ⟨wr,Since.refl _⟩).2.1
   have c2:wr.cell? ⟨g,j*8+2,none⟩=some (.int .u32 K2):=(q ⟨wr,Since.refl _⟩).2.2.1
   have c3:wr.cell? ⟨g,j*8+3,none⟩=some (.int .u32 K3):=(q ⟨wr,Since.refl _⟩).2.2.2.1
   have c4:wr.cell? ⟨g,j*8+4,none⟩=some (.int .i64 K4):=(q ⟨wr,Since.refl _⟩).2.2.2.2.1
   have c5:wr.cell? ⟨g,j*8+5,none⟩=some (.int .i64 K5):=(q ⟨wr,Since.refl _⟩).2.2.2.2.2.1
   have c6:wr.cell? ⟨g,j*8+6,none⟩=some (.int .i64 K6):=(q ⟨wr,Since.refl _⟩).2.2.2.2.2.2.1
   have c7:∀ z:Later wr,z.val.cell? ⟨g,j*8+7,none⟩=some (.string (markOf K7)):=fun z=>(q z).2.2.2.2.2.2.2
   generalize markOf K7=t at c7 hm0
   have hE:Hid (K8=K0+8∧K0=k+8*(j:Int)):=⟨hK8.out,hK0.out⟩
   clear q hz hK0 hK1 hK2 hK3 hK4 hK5 hK6 hK7 hK8 hM T b0 b7
   go_wp2
   have hm:∀ y:Later wr,Calls Tryz.prog 42 #[.int .i64 K7] y.val fun e w''=>e=.returned (.string t)∧∃ z:Later wr,w''=z.val:=fun y=>calm_call (hm0 y.val)
   have hne:Nonempty (Later wr):=⟨⟨wr,Since.refl _⟩⟩
   clear hm0 c0 c1 c2 c3 c4 c5 c6
   refine wp_region_calm (wb:=wr) (by kernel_rfl) (by kernel_rfl) (Since.refl _) ?_
   repeat (go_big_quiet_step (exact hm _))
   refine wpQuiet_nil ?_
   rintro _ ⟨y,rfl⟩
   go_wp2
   have S2:=S.trans y.ok
   go_roundw
   case rel=>
    refine ⟨j+1,by omega,by go_num,?_,S2⟩
    have a:=hE.out
    congr 1
    push_cast
    omega
   case measure=>simp [intOf];omega
  ·have hjn:j=n:=by omega
   subst hjn
   clear T
   go_wp2
   go_ret
   exact ⟨rfl,S⟩
end Go.Proofs.YtnbopjlpemmkcaaGreat
