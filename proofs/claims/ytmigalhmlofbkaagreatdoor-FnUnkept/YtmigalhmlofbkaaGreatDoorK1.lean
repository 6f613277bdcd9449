/- A part of the proof. -/
import Derived.Test.YtmigalhmlofbkaaGreatDoorM27
set_option linter.unusedVariables false
set_option maxRecDepth 10000
set_option maxHeartbeats 4000000
namespace Go.Proofs.YtmigalhmlofbkaaGreatDoor
open Go.ChangeShapes Go.WideShapes Go.ChangeAt Go.RowKit Go.Deep
def shU:Shape Int:=⟨24,1,fun x=>[.int .u32 x],fun _=>rfl,fun x v hv=>by simp at hv;subst hv;rfl,0,by decide⟩
def uAt (ns:List Int) (i:Nat):Int:=ns.getD i 0
theorem Rd.numU {w:World} {a:Option Addr} {n:Nat} {ns:List Int} (h:Rd shU w a n ns) (i:Nat) (hi:i<n):∃ x,a=some x∧x.block<w.heap.size∧w.cell? (x.add i)=some (.int .u32 (uAt ns i)):=by
 obtain ⟨x,e,hb,hc⟩:=h.cell i hi
 have h0:=hc 0 (by decide)
 refine ⟨x,e,hb,?_⟩
 rw [show i*shU.k+0=i by simp [shU]] at h0
 exact h0
theorem Held.numU {w:World} {B g n cap:Nat} {ns:List Int} (h:Held shU w B g n cap ns) (i:Nat) (hi:i<n):w.cell? ⟨g,i,none⟩=some (.int .u32 (uAt ns i)):=by
 have:=h.cell i hi 0 (by decide)
 rw [show i*shU.k+0=i by simp [shU]] at this
 exact this
def mixStep (h x:Int):Int:=bits .xor .u32 (IntKind.u32.wrap (bits .xor .u32 h x*2654435761)) (IntKind.u32.wrap (bits .xor .u32 h x*2654435761) / 32768)
def mixOf (h:Int) (xs:List Int):Int:=xs.foldl mixStep h
theorem mixOf_next (h:Int) (xs:List Int) (k:Nat) (hk:k<xs.length):mixOf h (xs.take (k+1))=mixStep (mixOf h (xs.take k)) (uAt xs k):=by
 rw [List.take_add_one]
 unfold mixOf uAt
 rw [List.foldl_append,List.getD_eq_getElem?_getD]
 simp [hk]
theorem specMix (key:Int) (a:Option Addr) (n cap:Nat) (ns:List Int) (hn:n≤1048576) (w:World) (R:Rd shU w a n ns) :
  Calls Tryz.prog 128 #[.int .u32 key,.slice a n cap] w fun e w'=>e=.returned (.int .u32 (mixOf key ns))∧Since w w':=by
 go_enter Tryz.func128,Tryz.ntmps128
 go_wp2
 go_loopw [5,6] (fun h i wr=>∃ (k:Nat),k≤n∧h=.int .u32 (mixOf key (ns.take k))∧i=.int .i64 k∧Since w wr) (fun _ i _=>n - (intOf i).toNat)
 case atStart=>exact ⟨0,by omega,rfl,rfl,Since.refl _⟩
 case round=>
  obtain ⟨k,hk,rfl,rfl,S⟩:=hrel
  by_cases hlt:k<n
  ·obtain ⟨x,rfl,hb,q0⟩:=(R.since S).numU k hlt
   have hlt':(k:Int)<(n:Int):=by omega
   have hs:=mixOf_next key ns k (by rw [R.len];exact hlt)
   generalize mixOf key (ns.take k)=H at hs
   generalize uAt ns k=O at q0 hs
   clear R
   go_wp2
   go_roundw
   case rel=>exact ⟨k+1,by omega,by rw [hs];rfl,by go_num,S⟩
   case measure=>simp [intOf];omega
  ·have hkn:k=n:=by omega
   subst hkn
   have e:ns.take k=ns:=List.take_of_length_le (Nat.le_of_eq R.len)
   rw [e]
   generalize hH:mixOf key ns=H
   clear R
   go_wp2
   go_ret
   exact ⟨by rw [hH];rfl,S⟩
theorem implMixed (key:Int) (a:Option Addr) (n cap:Nat) (ns:List Int) (hn:n≤1048576) (w:World) (R:Rd shU w a n ns) :
  Calls Tryz.prog 59 #[.int .u32 key,.slice a n cap] w fun e w'=>e=.returned (.int .u32 (mixOf key ns))∧Since w w':=by
 go_enter Tryz.func59,Tryz.ntmps59
 go_wp2
 go_loopw [0,9] (fun h i wr=>∃ (k:Nat),k≤n∧h=.int .u32 (mixOf key (ns.take k))∧i=.int .i64 k∧Since w wr) (fun _ i _=>n - (intOf i).toNat)
 case atStart=>exact ⟨0,by omega,rfl,rfl,Since.refl _⟩
 case round=>
  obtain ⟨k,hk,rfl,rfl,S⟩:=hrel
  by_cases hlt:k<n
  ·obtain ⟨x,rfl,hb,q0⟩:=(R.since S).numU k hlt
   have hlt':(k:Int)<(n:Int):=by omega
   have hs:=mixOf_next key ns k (by rw [R.len];exact hlt)
   generalize mixOf key (ns.take k)=H at hs
   generalize uAt ns k=O at q0 hs
   clear R
   go_wp2
   go_roundw
   case rel=>exact ⟨k+1,by omega,by rw [hs];rfl,by go_num,S⟩
   case measure=>simp [intOf];omega
  ·have hkn:k=n:=by omega
   subst hkn
   have e:ns.take k=ns:=List.take_of_length_le (Nat.le_of_eq R.len)
   rw [e]
   generalize hH:mixOf key ns=H
   clear R
   go_wp2
   go_ret
   exact ⟨by rw [hH];rfl,S⟩
end Go.Proofs.YtmigalhmlofbkaaGreatDoor
namespace Go.Proofs.YtmigalhmlofbkaaGreatDoor
open Go.ChangeShapes Go.WideShapes Go.ChangeAt Go.RowKit
def addrVal (h p:Int):Value:=.agg #[.int .u32 h,.int .i64 p]
end Go.Proofs.YtmigalhmlofbkaaGreatDoor
namespace Go.Proofs.YtmigalhmlofbkaaGreatDoor
open Go.ChangeShapes Go.WideShapes Go.ChangeAt Go.RowKit Go.Deep
def ckOk (p q e:Int):Bool:=decide (0≤p∧p≤65535) && decide (0≤q∧q≤65535) && decide (0≤e∧e≤1000000000)
def ckMix (s h p j q e k:Int):Int:=mixOf s [h,p,j,q,e,k]
def ckOf (s h p j q e k:Int):Int:=if ckOk p q e && decide (0≤k∧k≤7) then e % 32*134217728+k*16777216+ckMix s h p j q e k % 16777216 else 0
theorem isTickC (x:Int) (w:World) :
  Calls Tryz.prog 22 #[.int .i64 x] w fun e w'=>e=.returned (.bool (decide (0≤x∧x≤1000000000)))∧w=w':=by
 by_cases h1:0≤x
 ·have e1:decide (0≤x∧x≤1000000000)=decide (x≤1000000000):=by simp [h1]
  rw [e1]
  clear e1
  go_enter Tryz.func22,Tryz.ntmps22
  go_wp2
  go_ret
  exact ⟨rfl,rfl⟩
 ·have e1:decide (0≤x∧x≤1000000000)=false:=by simp [h1]
  rw [e1]
  clear e1
  go_enter Tryz.func22,Tryz.ntmps22
  go_wp2
  go_ret
  exact ⟨rfl,rfl⟩
theorem isStepC (x:Int) (w:World) :
  Calls Tryz.prog 57 #[.int .i64 x] w fun e w'=>e=.returned (.bool (decide (0≤x∧x≤7)))∧w=w':=by
 by_cases h1:0≤x
 ·have e1:decide (0≤x∧x≤7)=decide (x<8):=by simp [h1];omega
  rw [e1]
  clear e1
  go_enter Tryz.func57,Tryz.ntmps57
  go_wp2
  go_ret
  exact ⟨rfl,rfl⟩
 ·have e1:decide (0≤x∧x≤7)=false:=by simp [h1]
  rw [e1]
  clear e1
  go_enter Tryz.func57,Tryz.ntmps57
  go_wp2
  go_ret
  exact ⟨rfl,rfl⟩
theorem hasCookies (h p j q e:Int) (w:World) :
  Calls Tryz.prog 25 #[addrVal h p,addrVal j q,.int .i64 e] w fun f w'=>f=.returned (.bool (ckOk p q e))∧Since w w':=by
 have h1:=fun wx=>isHalf p wx
 have h2:=fun wx=>isHalf q wx
 have h3:=fun wx=>isTickC e wx
 unfold ckOk addrVal
 generalize decide (0≤e∧e≤1000000000)=t at h3 ⊢
 generalize decide (0≤p∧p≤65535)=a at h1 ⊢
 generalize decide (0≤q∧q≤65535)=b at h2 ⊢
 have S0:Since w ((w.alloc (.cells #[.int .u32 h,.int .i64 p] 26)).alloc (.cells #[.int .u32 j,.int .i64 q] 26)):=((Since.refl _).alloc _).alloc _
 cases a<;>cases b<;>cases t<;>(go_enter Tryz.func25,Tryz.ntmps25;go_wp2_with (first|(go_at_call 42;first|(refine (h1 _).mono ?_;rintro _ _ ⟨rfl,rfl⟩;clear h1)|(refine (h2 _).mono ?_;rintro _ _ ⟨rfl,rfl⟩))|(go_at_call 22;refine (h3 _).mono ?_;rintro _ _ ⟨rfl,rfl⟩));go_ret;exact ⟨rfl,S0⟩)
theorem l15Ok (h p j q e:Int) (w:World) :
  Calls Tryz.prog 95 #[addrVal h p,addrVal j q,.int .i64 e] w fun f w'=>f=.returned (.bool (ckOk p q e))∧Since w w':=by
 have h1:=fun wx=>specIn p 0 65535 wx
 have h2:=fun wx=>specIn q 0 65535 wx
 have h3:=fun wx=>specIn e 0 1000000000 wx
 unfold ckOk addrVal
 generalize decide (0≤e∧e≤1000000000)=t at h3 ⊢
 generalize decide (0≤p∧p≤65535)=a at h1 ⊢
 generalize decide (0≤q∧q≤65535)=b at h2 ⊢
 have S0:Since w ((w.alloc (.cells #[.int .u32 h,.int .i64 p] 26)).alloc (.cells #[.int .u32 j,.int .i64 q] 26)):=((Since.refl _).alloc _).alloc _
 cases a<;>cases b<;>cases t<;>(go_enter Tryz.func95,Tryz.ntmps95;go_wp2_with (go_at_call 49;first|(refine (h3 _).mono ?_;rintro _ _ ⟨rfl,rfl⟩;clear h3)|(refine (h1 _).mono ?_;rintro _ _ ⟨rfl,rfl⟩;clear h1)|(refine (h2 _).mono ?_;rintro _ _ ⟨rfl,rfl⟩));go_ret;exact ⟨rfl,S0⟩)
theorem mixStep_range (h x:Int):0≤mixStep h x∧mixStep h x<4294967296:=by
 unfold mixStep
 generalize IntKind.u32.wrap (bits .xor .u32 h x*2654435761)=y
 unfold bits
 simp only [IntKind.wrap_u32]
 omega
theorem mixOf_range:∀ (xs:List Int) (h:Int),xs≠[]→0≤mixOf h xs∧mixOf h xs<4294967296
 | [],_,h=>absurd rfl h
 | [x],h,_=>by
  have:=mixStep_range h x
  simpa only [mixOf,List.foldl] using this
 | x :: y :: xs,h,_=>by
  have:=mixOf_range (y :: xs) (mixStep h x) (by simp)
  simpa only [mixOf,List.foldl] using this
theorem ckMix_range (s h p j q e k:Int):0≤ckMix s h p j q e k∧ckMix s h p j q e k<4294967296:=mixOf_range _ _ (by simp)
theorem low24 (x:Int) (h0:0≤x) (h1:x<4294967296):bits .and .u32 x 16777215=x % 16777216:=by
 rw [u32_and x 16777215 h0 h1 (by omega) (by omega)]
 have:=Nat.and_two_pow_sub_one_eq_mod x.toNat 24
 rw [show (16777215:Int).toNat=2 ^ 24 - 1 from rfl,this]
 omega
theorem parts3 (m k x:Int) (hm:0≤m∧m<32) (hk:0≤k∧k≤7) (hx:0≤x∧x<16777216) :
  bits .or .u32 (bits .or .u32 (m*134217728) (k*16777216)) x=m*134217728+k*16777216+x:=by
 have e1:bits .or .u32 (m*134217728) (k*16777216)=m*134217728+k*16777216:=by
  rw [u32_or _ _ (by omega) (by omega) (by omega) (by omega)]
  have:=Nat.two_pow_add_eq_or_of_lt (i:=27) (b:=(k*16777216).toNat) (by omega) m.toNat
  rw [show (m*134217728).toNat=2 ^ 27*m.toNat by omega,← this]
  omega
 rw [e1,u32_or _ _ (by omega) (by omega) (by omega) (by omega)]
 have:=Nat.two_pow_add_eq_or_of_lt (i:=24) (b:=x.toNat) (by omega) (m*8+k).toNat
 rw [show (m*134217728+k*16777216).toNat=2 ^ 24*(m*8+k).toNat by omega,← this]
 omega
def RowU (l:List Int) (x:World) (v:Value):Prop:=∃ g,v=.slice (some ⟨g,0,none⟩) l.length l.length∧Rd shU x (some ⟨g,0,none⟩) l.length l
theorem RowU.since {l:List Int} {x x':World} {v:Value} (h:RowU l x v) (k:Since x x'):RowU l x' v:=by
 obtain ⟨g,e,R⟩:=h
 exact ⟨g,e,R.since k⟩
theorem row6 (a b c d e f:Int) (w:World):RowU [a,b,c,d,e,f] (w.alloc (.cells #[.int .u32 a,.int .u32 b,.int .u32 c,.int .u32 d,.int .u32 e,.int .u32 f] 24)) (.slice (some ⟨w.heap.size,0,none⟩) 6 6):=by
 refine ⟨w.heap.size,rfl,rfl,?_,fun i hi=>⟨_,rfl,by simp,fun j hj=>?_⟩⟩
 ·show 6≤maxLen
  unfold maxLen
  omega
 ·have hj0:j=0:=by
   have:j<1:=hj
   omega
  subst hj0
  have hi':i<6:=hi
  have k:∀ i:Nat,(w.alloc (.cells #[.int .u32 a,.int .u32 b,.int .u32 c,.int .u32 d,.int .u32 e,.int .u32 f] 24)).cell? ⟨w.heap.size,i,none⟩=#[(.int .u32 a:Value),.int .u32 b,.int .u32 c,.int .u32 d,.int .u32 e,.int .u32 f][i]?:=fun i=>World.cell?_alloc_mark w _ _ _ i
  match i,hi' with
  | 0,_=>exact k 0
  | 1,_=>exact k 1
  | 2,_=>exact k 2
  | 3,_=>exact k 3
  | 4,_=>exact k 4
  | 5,_=>exact k 5
theorem specCookieNot (s h p j q e k:Int) (hc:(ckOk p q e && decide (0≤k∧k≤7))=false) (w:World) :
  Calls Tryz.prog 96 #[.int .u32 s,addrVal h p,addrVal j q,.int .i64 e,.int .i64 k] w fun f w'=>f=.returned (.int .u32 0)∧Since w w':=by
 have hh:=fun wx=>l15Ok h p j q e wx
 have h3:=fun wx=>specIn k 0 7 wx
 generalize ckOk p q e=a at hh hc
 generalize decide (0≤k∧k≤7)=b at h3 hc
 unfold addrVal at *
 have A:=(Blk.new w #[.int .u32 h,.int .i64 p] 26).since ((Since.refl _).alloc (.cells #[.int .u32 j,.int .i64 q] 26))
 have B:=Blk.new (w.alloc (.cells #[.int .u32 h,.int .i64 p] 26)) #[.int .u32 j,.int .i64 q] 26
 have G:Since w ((w.alloc (.cells #[.int .u32 h,.int .i64 p] 26)).alloc (.cells #[.int .u32 j,.int .i64 q] 26)):=((Since.refl _).alloc _).alloc _
 have a0:=A.cell 0
 have a1:=A.cell 1
 have b0:=B.cell 0
 have b1:=B.cell 1
 simp at a0 a1 b0 b1
 clear A B
 cases a
 ·go_enter Tryz.func96,Tryz.ntmps96
  go_wp2_with (go_at_call 95;refine (hh _).mono ?_;rintro _ w1 ⟨rfl,g1⟩;replace G:=G.trans g1)
  go_ret
  exact ⟨rfl,G⟩
 ·obtain rfl:b=false:=by simpa using hc
  go_enter Tryz.func96,Tryz.ntmps96
  go_wp2_with (first|(go_at_call 95;refine (hh _).mono ?_;rintro _ w1 ⟨rfl,g1⟩;replace G:=G.trans g1)|(go_at_call 49;refine (h3 _).mono ?_;rintro _ w1 ⟨rfl,rfl⟩))
  go_ret
  exact ⟨rfl,G⟩
theorem specCookieOk (s h p j q e k:Int) (hc:(ckOk p q e && decide (0≤k∧k≤7))=true) (w:World) :
  Calls Tryz.prog 96 #[.int .u32 s,addrVal h p,addrVal j q,.int .i64 e,.int .i64 k] w fun f w'=>f=.returned (.int .u32 (e % 32*134217728+k*16777216+ckMix s h p j q e k % 16777216))∧Since w w':=by
 have hh:=fun wx=>l15Ok h p j q e wx
 have h3:=fun wx=>specIn k 0 7 wx
 have hcc:=hc
 simp only [Bool.and_eq_true] at hcc
 rw [hcc.1] at hh
 rw [hcc.2] at h3
 unfold ckOk at hcc
 simp only [Bool.and_eq_true,decide_eq_true_eq] at hcc
 obtain ⟨⟨⟨⟨hp0,hp1⟩,hq0,hq1⟩,he0,he1⟩,hk0,hk1⟩:=hcc
 clear hc
 have hr:=ckMix_range s h p j q e k
 have hM:=fun g wx (R:Rd shU wx (some ⟨g,0,none⟩) 6 [h,p,j,q,e,k])=>specMix s (some ⟨g,0,none⟩) 6 6 [h,p,j,q,e,k] (by omega) wx R
 have hW:=fun x (h0:0≤x∧x≤1000000000) wx=>specWord x x ⟨h0.1,by omega,by omega⟩ wx
 change ∀ g wx,_→Calls _ _ _ _ (fun f w'=>f=.returned (.int .u32 (ckMix s h p j q e k))∧_) at hM
 generalize ckMix s h p j q e k=M at hr hM ⊢
 unfold addrVal at *
 have A:=(Blk.new w #[.int .u32 h,.int .i64 p] 26).since ((Since.refl _).alloc (.cells #[.int .u32 j,.int .i64 q] 26))
 have B:=Blk.new (w.alloc (.cells #[.int .u32 h,.int .i64 p] 26)) #[.int .u32 j,.int .i64 q] 26
 have G:Since w ((w.alloc (.cells #[.int .u32 h,.int .i64 p] 26)).alloc (.cells #[.int .u32 j,.int .i64 q] 26)):=((Since.refl _).alloc _).alloc _
 have a0:=A.cell 0
 have a1:=A.cell 1
 have b0:=B.cell 0
 have b1:=B.cell 1
 simp at a0 a1 b0 b1 B
 have cp:IntKind.u32.wrap p=p:=IntWalk.u32_in p (by omega)
 have cq:IntKind.u32.wrap q=q:=IntWalk.u32_in q (by omega)
 have ck:IntKind.u32.wrap k=k:=IntWalk.u32_in k (by omega)
 have dp:p % 4294967296=p:=by omega
 have dq:q % 4294967296=q:=by omega
 have dk:k % 4294967296=k:=by omega
 go_enter Tryz.func96,Tryz.ntmps96
 go_wp2_with (first|(go_at_call 95;refine (hh _).mono ?_;rintro _ w1 ⟨rfl,g1⟩;replace G:=G.trans g1;replace A:=A.since g1;replace B:=B.since g1;clear a0 a1 b0 b1)|(go_at_call 49;refine (h3 _).mono ?_;rintro _ _ ⟨rfl,rfl⟩))
 refine wp_region_each (wb:=w1) (fun i x v=>match i with
   | 0=>v=.int .u32 s
   | 1=>v=.pointer (some ⟨w.heap.size,0,none⟩)
   | 2=>v=.int .u32 h
   | 3=>v=.pointer (some ⟨w.heap.size,1,none⟩)
   | 4=>v=.int .i64 p
   | 5=>v=.int .u32 p
   | 6=>v=.pointer (some ⟨w.heap.size+1,0,none⟩)
   | 7=>v=.int .u32 j
   | 8=>v=.pointer (some ⟨w.heap.size+1,1,none⟩)
   | 9=>v=.int .i64 q
   | 10=>v=.int .u32 q
   | 11=>v=.int .i64 e
   | 12=>v=.int .u32 e
   | 13=>v=.int .i64 k
   | 14=>v=.int .u32 k
   | 15=>RowU [h,p,j,q,e,k] x v
   | 16=>v=.int .u32 M
   | 17=>v=.int .u32 M
   | _=>True) (fun v=>{tmps:=#[Value.int IntKind.u32 s,Value.agg #[Value.int IntKind.u32 h,Value.int IntKind.i64 p],Value.agg #[Value.int IntKind.u32 j,Value.int IntKind.i64 q],Value.int IntKind.i64 e,Value.int IntKind.i64 k,undef,Value.pointer (some ⟨w.heap.size,0,none⟩),Value.pointer (some ⟨w.heap.size+1,0,none⟩),undef,undef,Value.int IntKind.u32 0,v 17,Value.agg #[Value.int IntKind.u32 h,Value.int IntKind.i64 p],Value.agg #[Value.int IntKind.u32 j,Value.int IntKind.i64 q],Value.int IntKind.i64 e,Value.bool true,Value.bool false,Value.bool false,Value.int IntKind.i64 k,Value.bool true,Value.bool false,Value.bool false,v 0,v 1,v 2,v 3,v 4,v 5,v 6,v 7,v 8,v 9,v 10,v 11,v 12,v 13,v 14,v 15,v 16,undef,undef,undef,undef,undef,undef,undef,undef,undef,undef,undef],defers:=[]}) (by kernel_rfl) (by kernel_rfl) (Since.refl _) ?_ (fun vals=>by kernel_rfl) ?_ ?_
 case refine_1=>
  intro j x x' v h1 h2
  match j,h2 with
  | 15,h2=>
   exact h2.since h1
  | 0,h2|1,h2|2,h2|3,h2|4,h2|5,h2|6,h2|7,h2|8,h2|9,h2|10,h2|11,h2|12,h2|13,h2|14,h2|16,h2|17,h2=>exact h2
  | n+18,_=>trivial
 case refine_2=>
  repeat (first|exact eachDoes_nil|refine eachDoes_cons ?_ ?_)
  all_goals intro vals x hx hv
  all_goals simp [Region.binds] at hv
  ·simp [does,doesUpon,go_sem,hv,Since.refl]
  ·have hR:RowU [h,p,j,q,e,k] x (vals 15):=by first|exact hv|exact hv.1|exact hv.2|exact hv.2.1|exact hv.2.2
   obtain ⟨gy,ey,Ry⟩:=hR
   simp [does,doesUpon,go_sem,hv,ey]
   refine (hM gy _ Ry).mono ?_
   rintro _ x' ⟨rfl,h1⟩
   simp [h1]
  ·have hz:=row6 h p j q e k x
   simp [does,doesUpon,go_sem,hv]
   exact ⟨(Since.refl _).alloc _,hz⟩
  ·simp [does,doesUpon,go_sem,hv,ck,Since.refl]
  ·simp [does,doesUpon,go_sem,Since.refl]
  ·simp [does,doesUpon,go_sem,hv]
   refine (hW e (by omega) _).mono ?_
   rintro _ x' ⟨rfl,rfl⟩
   simp [Since.refl]
  ·simp [does,doesUpon,go_sem,Since.refl]
  ·simp [does,doesUpon,go_sem,hv,cq,Since.refl]
  ·have f0:x.cell? ⟨w.heap.size+1,1,none⟩=some (.int .i64 q):=(B.since hx).cell 1
   simp [does,doesUpon,go_sem,hv,f0,Since.refl]
  ·simp [does,doesUpon,go_sem,Since.refl]
  ·have f0:x.cell? ⟨w.heap.size+1,0,none⟩=some (.int .u32 j):=(B.since hx).cell 0
   simp [does,doesUpon,go_sem,hv,f0,Since.refl]
  ·simp [does,doesUpon,go_sem,Since.refl]
  ·simp [does,doesUpon,go_sem,hv,cp,Since.refl]
  ·have f0:x.cell? ⟨w.heap.size,1,none⟩=some (.int .i64 p):=(A.since hx).cell 1
   simp [does,doesUpon,go_sem,hv,f0,Since.refl]
  ·simp [does,doesUpon,go_sem,Since.refl]
  ·have f0:x.cell? ⟨w.heap.size,0,none⟩=some (.int .u32 h):=(A.since hx).cell 0
   simp [does,doesUpon,go_sem,hv,f0,Since.refl]
  ·simp [does,doesUpon,go_sem,Since.refl]
  ·simp [does,doesUpon,go_sem,Since.refl]
 case refine_3=>
  intro vals x hx hv
  replace G:=G.trans hx
  have hv0:vals 0=_:=hv 0 (by decide)
  have hv1:vals 1=_:=hv 1 (by decide)
  have hv2:vals 2=_:=hv 2 (by decide)
  have hv3:vals 3=_:=hv 3 (by decide)
  have hv4:vals 4=_:=hv 4 (by decide)
  have hv5:vals 5=_:=hv 5 (by decide)
  have hv6:vals 6=_:=hv 6 (by decide)
  have hv7:vals 7=_:=hv 7 (by decide)
  have hv8:vals 8=_:=hv 8 (by decide)
  have hv9:vals 9=_:=hv 9 (by decide)
  have hv10:vals 10=_:=hv 10 (by decide)
  have hv11:vals 11=_:=hv 11 (by decide)
  have hv12:vals 12=_:=hv 12 (by decide)
  have hv13:vals 13=_:=hv 13 (by decide)
  have hv14:vals 14=_:=hv 14 (by decide)
  have hv16:vals 16=_:=hv 16 (by decide)
  have hv17:vals 17=_:=hv 17 (by decide)
  simp only [hv0,hv1,hv2,hv3,hv4,hv5,hv6,hv7,hv8,hv9,hv10,hv11,hv12,hv13,hv14,hv16,hv17]
  clear hv hv0 hv1 hv2 hv3 hv4 hv5 hv6 hv7 hv8 hv9 hv10 hv11 hv12 hv13 hv14 hv16 hv17
  clear hh h3 hW hM A B g1 hx
  go_wp2_with (fail)
  go_ret
  exact ⟨rfl,G⟩
theorem specCookie (s h p j q e k:Int) (w:World) :
  Calls Tryz.prog 96 #[.int .u32 s,addrVal h p,addrVal j q,.int .i64 e,.int .i64 k] w fun f w'=>f=.returned (.int .u32 (ckOf s h p j q e k))∧Since w w':=by
 unfold ckOf
 cases hc:(ckOk p q e && decide (0≤k∧k≤7))
 ·rw [if_neg (by simp)]
  exact specCookieNot s h p j q e k hc w
 ·rw [if_pos rfl]
  exact specCookieOk s h p j q e k hc w
theorem implCookieNot (s h p j q e k:Int) (hc:(ckOk p q e && decide (0≤k∧k≤7))=false) (w:World) :
  Calls Tryz.prog 27 #[.int .u32 s,addrVal h p,addrVal j q,.int .i64 e,.int .i64 k] w fun f w'=>f=.returned (.int .u32 0)∧Since w w':=by
 have hh:=fun wx=>hasCookies h p j q e wx
 have h3:=fun wx=>isStepC k wx
 generalize ckOk p q e=a at hh hc
 generalize decide (0≤k∧k≤7)=b at h3 hc
 unfold addrVal at *
 have A:=(Blk.new w #[.int .u32 h,.int .i64 p] 26).since ((Since.refl _).alloc (.cells #[.int .u32 j,.int .i64 q] 26))
 have B:=Blk.new (w.alloc (.cells #[.int .u32 h,.int .i64 p] 26)) #[.int .u32 j,.int .i64 q] 26
 have G:Since w ((w.alloc (.cells #[.int .u32 h,.int .i64 p] 26)).alloc (.cells #[.int .u32 j,.int .i64 q] 26)):=((Since.refl _).alloc _).alloc _
 have a0:=A.cell 0
 have a1:=A.cell 1
 have b0:=B.cell 0
 have b1:=B.cell 1
 simp at a0 a1 b0 b1
 clear A B
 cases a
 ·go_enter Tryz.func27,Tryz.ntmps27
  go_wp2_with (go_at_call 25;refine (hh _).mono ?_;rintro _ w1 ⟨rfl,g1⟩;replace G:=G.trans g1)
  go_ret
  exact ⟨rfl,G⟩
 ·obtain rfl:b=false:=by simpa using hc
  go_enter Tryz.func27,Tryz.ntmps27
  go_wp2_with (first|(go_at_call 25;refine (hh _).mono ?_;rintro _ w1 ⟨rfl,g1⟩;replace G:=G.trans g1)|(go_at_call 57;refine (h3 _).mono ?_;rintro _ w1 ⟨rfl,rfl⟩))
  go_ret
  exact ⟨rfl,G⟩
theorem implCookieOk (s h p j q e k:Int) (hc:(ckOk p q e && decide (0≤k∧k≤7))=true) (w:World) :
  Calls Tryz.prog 27 #[.int .u32 s,addrVal h p,addrVal j q,.int .i64 e,.int .i64 k] w fun f w'=>f=.returned (.int .u32 (e % 32*134217728+k*16777216+ckMix s h p j q e k % 16777216))∧Since w w':=by
 have hh:=fun wx=>hasCookies h p j q e wx
 have h3:=fun wx=>isStepC k wx
 have hcc:=hc
 simp only [Bool.and_eq_true] at hcc
 rw [hcc.1] at hh
 rw [hcc.2] at h3
 unfold ckOk at hcc
 simp only [Bool.and_eq_true,decide_eq_true_eq] at hcc
 obtain ⟨⟨⟨⟨hp0,hp1⟩,hq0,hq1⟩,he0,he1⟩,hk0,hk1⟩:=hcc
 clear hc
 have hr:=ckMix_range s h p j q e k
 have hM:=fun g wx (R:Rd shU wx (some ⟨g,0,none⟩) 6 [h,p,j,q,e,k])=>implMixed s (some ⟨g,0,none⟩) 6 6 [h,p,j,q,e,k] (by omega) wx R
 have hW:=fun x (h0:0≤x∧x≤1000000000) wx=>implWord x x ⟨h0.1,by omega,by omega⟩ wx
 have hW1:=fun wx=>hW (e % 32) (by omega) wx
 have hW2:=fun wx=>hW k (by omega) wx
 change ∀ g wx,_→Calls _ _ _ _ (fun f w'=>f=.returned (.int .u32 (ckMix s h p j q e k))∧_) at hM
 generalize ckMix s h p j q e k=M at hr hM ⊢
 unfold addrVal at *
 have A:=(Blk.new w #[.int .u32 h,.int .i64 p] 26).since ((Since.refl _).alloc (.cells #[.int .u32 j,.int .i64 q] 26))
 have B:=Blk.new (w.alloc (.cells #[.int .u32 h,.int .i64 p] 26)) #[.int .u32 j,.int .i64 q] 26
 have G:Since w ((w.alloc (.cells #[.int .u32 h,.int .i64 p] 26)).alloc (.cells #[.int .u32 j,.int .i64 q] 26)):=((Since.refl _).alloc _).alloc _
 have a0:=A.cell 0
 have a1:=A.cell 1
 have b0:=B.cell 0
 have b1:=B.cell 1
 simp at a0 a1 b0 b1 B
 have cp:IntKind.u32.wrap p=p:=IntWalk.u32_in p (by omega)
 have cq:IntKind.u32.wrap q=q:=IntWalk.u32_in q (by omega)
 have ck:IntKind.u32.wrap k=k:=IntWalk.u32_in k (by omega)
 have dp:p % 4294967296=p:=by omega
 have dq:q % 4294967296=q:=by omega
 have dk:k % 4294967296=k:=by omega
 go_enter Tryz.func27,Tryz.ntmps27
 go_wp2_with (first|(go_at_call 25;refine (hh _).mono ?_;rintro _ w1 ⟨rfl,g1⟩;replace G:=G.trans g1;replace A:=A.since g1;replace B:=B.since g1;clear a0 a1 b0 b1)|(go_at_call 57;refine (h3 _).mono ?_;rintro _ _ ⟨rfl,rfl⟩)|(go_at_call 58;first|(refine (hW1 _).mono ?_;rintro _ _ ⟨rfl,rfl⟩;clear hW1)|(refine (hW2 _).mono ?_;rintro _ _ ⟨rfl,rfl⟩;clear hW2)))
 refine wp_region_each (wb:=w1) (fun i x v=>match i with
   | 0=>v=.int .u32 s
   | 1=>v=.pointer (some ⟨w.heap.size,0,none⟩)
   | 2=>v=.int .u32 h
   | 3=>v=.pointer (some ⟨w.heap.size,1,none⟩)
   | 4=>v=.int .i64 p
   | 5=>v=.int .u32 p
   | 6=>v=.pointer (some ⟨w.heap.size+1,0,none⟩)
   | 7=>v=.int .u32 j
   | 8=>v=.pointer (some ⟨w.heap.size+1,1,none⟩)
   | 9=>v=.int .i64 q
   | 10=>v=.int .u32 q
   | 11=>v=.int .i64 e
   | 12=>v=.int .u32 e
   | 13=>v=.int .u32 k
   | 14=>RowU [h,p,j,q,e,k] x v
   | 15=>v=.int .u32 M
   | 16=>v=.int .u32 M
   | _=>True) (fun v=>{tmps:=#[Value.int IntKind.u32 s,Value.agg #[Value.int IntKind.u32 h,Value.int IntKind.i64 p],Value.agg #[Value.int IntKind.u32 j,Value.int IntKind.i64 q],Value.int IntKind.i64 e,Value.int IntKind.i64 k,undef,Value.pointer (some ⟨w.heap.size,0,none⟩),Value.pointer (some ⟨w.heap.size+1,0,none⟩),undef,undef,Value.int IntKind.u32 0,Value.int IntKind.u32 (e % 32),Value.int IntKind.u32 k,v 16,Value.agg #[Value.int IntKind.u32 h,Value.int IntKind.i64 p],Value.agg #[Value.int IntKind.u32 j,Value.int IntKind.i64 q],Value.int IntKind.i64 e,Value.bool true,Value.bool false,Value.bool false,Value.int IntKind.i64 k,Value.bool true,Value.bool false,Value.bool false,Value.int IntKind.i64 e,Value.int IntKind.i64 (e % 32),Value.int IntKind.u32 (e % 32),Value.int IntKind.i64 k,Value.int IntKind.u32 k,v 0,v 1,v 2,v 3,v 4,v 5,v 6,v 7,v 8,v 9,v 10,v 11,v 12,v 13,v 14,v 15,undef,undef,undef,undef,undef,undef,undef,undef],defers:=[]}) (by kernel_rfl) (by kernel_rfl) (Since.refl _) ?_ (fun vals=>by kernel_rfl) ?_ ?_
 case refine_1=>
  intro j x x' v h1 h2
  match j,h2 with
  | 14,h2=>
   exact h2.since h1
  | 0,h2|1,h2|2,h2|3,h2|4,h2|5,h2|6,h2|7,h2|8,h2|9,h2|10,h2|11,h2|12,h2|13,h2|15,h2|16,h2=>exact h2
  | n+17,_=>trivial
 case refine_2=>
  repeat (first|exact eachDoes_nil|refine eachDoes_cons ?_ ?_)
  all_goals intro vals x hx hv
  all_goals simp [Region.binds] at hv
  ·simp [does,doesUpon,go_sem,hv,Since.refl]
  ·have hR:RowU [h,p,j,q,e,k] x (vals 14):=by first|exact hv|exact hv.1|exact hv.2|exact hv.2.1|exact hv.2.2
   obtain ⟨gy,ey,Ry⟩:=hR
   simp [does,doesUpon,go_sem,hv,ey]
   refine (hM gy _ Ry).mono ?_
   rintro _ x' ⟨rfl,h1⟩
   simp [h1]
  ·have hz:=row6 h p j q e k x
   simp [does,doesUpon,go_sem,hv]
   exact ⟨(Since.refl _).alloc _,hz⟩
  ·simp [does,doesUpon,go_sem,Since.refl]
  ·simp [does,doesUpon,go_sem,hv]
   refine (hW e (by omega) _).mono ?_
   rintro _ x' ⟨rfl,rfl⟩
   simp [Since.refl]
  ·simp [does,doesUpon,go_sem,Since.refl]
  ·simp [does,doesUpon,go_sem,hv]
   refine (hW q (by omega) _).mono ?_
   rintro _ x' ⟨rfl,rfl⟩
   simp [Since.refl]
  ·have f0:x.cell? ⟨w.heap.size+1,1,none⟩=some (.int .i64 q):=(B.since hx).cell 1
   simp [does,doesUpon,go_sem,hv,f0,Since.refl]
  ·simp [does,doesUpon,go_sem,Since.refl]
  ·have f0:x.cell? ⟨w.heap.size+1,0,none⟩=some (.int .u32 j):=(B.since hx).cell 0
   simp [does,doesUpon,go_sem,hv,f0,Since.refl]
  ·simp [does,doesUpon,go_sem,Since.refl]
  ·simp [does,doesUpon,go_sem,hv]
   refine (hW p (by omega) _).mono ?_
   rintro _ x' ⟨rfl,rfl⟩
   simp [Since.refl]
  ·have f0:x.cell? ⟨w.heap.size,1,none⟩=some (.int .i64 p):=(A.since hx).cell 1
   simp [does,doesUpon,go_sem,hv,f0,Since.refl]
  ·simp [does,doesUpon,go_sem,Since.refl]
  ·have f0:x.cell? ⟨w.heap.size,0,none⟩=some (.int .u32 h):=(A.since hx).cell 0
   simp [does,doesUpon,go_sem,hv,f0,Since.refl]
  ·simp [does,doesUpon,go_sem,Since.refl]
  ·simp [does,doesUpon,go_sem,Since.refl]
 case refine_3=>
  intro vals x hx hv
  replace G:=G.trans hx
  have hv0:vals 0=_:=hv 0 (by decide)
  have hv1:vals 1=_:=hv 1 (by decide)
  have hv2:vals 2=_:=hv 2 (by decide)
  have hv3:vals 3=_:=hv 3 (by decide)
  have hv4:vals 4=_:=hv 4 (by decide)
  have hv5:vals 5=_:=hv 5 (by decide)
  have hv6:vals 6=_:=hv 6 (by decide)
  have hv7:vals 7=_:=hv 7 (by decide)
  have hv8:vals 8=_:=hv 8 (by decide)
  have hv9:vals 9=_:=hv 9 (by decide)
  have hv10:vals 10=_:=hv 10 (by decide)
  have hv11:vals 11=_:=hv 11 (by decide)
  have hv12:vals 12=_:=hv 12 (by decide)
  have hv13:vals 13=_:=hv 13 (by decide)
  have hv15:vals 15=_:=hv 15 (by decide)
  have hv16:vals 16=_:=hv 16 (by decide)
  simp only [hv0,hv1,hv2,hv3,hv4,hv5,hv6,hv7,hv8,hv9,hv10,hv11,hv12,hv13,hv15,hv16]
  clear hv hv0 hv1 hv2 hv3 hv4 hv5 hv6 hv7 hv8 hv9 hv10 hv11 hv12 hv13 hv15 hv16
  clear hh h3 hW hM A B g1 hx
  go_wp2_with (fail)
  go_ret
  refine ⟨?_,G⟩
  rw [low24 M hr.1 hr.2,parts3 (e % 32) k (M % 16777216) ⟨by omega,by omega⟩ ⟨hk0,hk1⟩ ⟨by omega,by omega⟩]
  rfl
theorem implCookie (s h p j q e k:Int) (w:World) :
  Calls Tryz.prog 27 #[.int .u32 s,addrVal h p,addrVal j q,.int .i64 e,.int .i64 k] w fun f w'=>f=.returned (.int .u32 (ckOf s h p j q e k))∧Since w w':=by
 unfold ckOf
 cases hc:(ckOk p q e && decide (0≤k∧k≤7))
 ·rw [if_neg (by simp)]
  exact implCookieNot s h p j q e k hc w
 ·rw [if_pos rfl]
  exact implCookieOk s h p j q e k hc w
def ckKnown (s h p j q e c:Int):Bool:=ckOk p q e && (decide (ckOf s h p j q e (c / 16777216 % 8)=c) || decide (0<e∧ckOf s h p j q (e - 1) (c / 16777216 % 8)=c))
def ckStep (s h p j q e c:Int):Int:=if ckKnown s h p j q e c then c / 16777216 % 8 else 0
theorem ckOk_in {p q e:Int} (h:ckOk p q e=true):0≤e∧e≤1000000000:=by
 unfold ckOk at h
 simp only [Bool.and_eq_true,decide_eq_true_eq] at h
 exact h.2
theorem specCheck (s h p j q e c:Int) (hc:IsWord c) (w:World) :
  Calls Tryz.prog 51 #[.int .u32 s,addrVal h p,addrVal j q,.int .i64 e,.int .u32 c] w fun f w'=>f=.returned (.tuple #[.int .i64 (ckStep s h p j q e c),.bool (ckKnown s h p j q e c)])∧Since w w':=by
 have hh:=fun wx=>l15Ok h p j q e wx
 obtain ⟨hc0,hc1⟩:=hc
 have hK0:0≤c / 16777216:=by omega
 have hK1:c / 16777216<256:=by omega
 have hx:=fun wx=>specCookie s h p j q e (c / 16777216 % 8) wx
 have hy:=fun wx=>specCookie s h p j q (e - 1) (c / 16777216 % 8) wx
 generalize hS:ckStep s h p j q e c=S
 generalize hV:ckKnown s h p j q e c=V
 replace hS:Hid _:=hS
 replace hV:Hid _:=hV
 have A:=(Blk.new w #[.int .u32 h,.int .i64 p] 26).since ((Since.refl _).alloc (.cells #[.int .u32 j,.int .i64 q] 26))
 have B:=Blk.new (w.alloc (.cells #[.int .u32 h,.int .i64 p] 26)) #[.int .u32 j,.int .i64 q] 26
 have G:Since w ((w.alloc (.cells #[.int .u32 h,.int .i64 p] 26)).alloc (.cells #[.int .u32 j,.int .i64 q] 26)):=((Since.refl _).alloc _).alloc _
 have a0:=A.cell 0
 have a1:=A.cell 1
 have b0:=B.cell 0
 have b1:=B.cell 1
 simp at a0 a1 b0 b1 B
 cases hk:ckOk p q e
 ·rw [hk] at hh
  clear hx hy
  unfold addrVal at *
  go_enter Tryz.func51,Tryz.ntmps51
  go_wp2_with (go_at_call 95;refine (hh _).mono ?_;rintro _ w1 ⟨rfl,g1⟩;replace G:=G.trans g1)
  refine bodyPost_ret (v:=.tuple #[.int .i64 0,.bool false]) ?_ rfl ⟨by rw [← hS.out,← hV.out];simp [ckStep,ckKnown,hk],G⟩
  simp [results,go_sem]
 ·rw [hk] at hh
  have he:=ckOk_in hk
  generalize hXe:ckOf s h p j q e (c / 16777216 % 8)=X at hx
  generalize hYe:ckOf s h p j q (e - 1) (c / 16777216 % 8)=Y at hy
  replace hXe:Hid _:=hXe
  replace hYe:Hid _:=hYe
  unfold addrVal at *
  by_cases hX:X=c
  ·subst hX
   clear hy
   go_enter Tryz.func51,Tryz.ntmps51
   go_wp2_with (first|(go_at_call 95;refine (hh _).mono ?_;rintro _ w1 ⟨rfl,g1⟩;replace G:=G.trans g1;replace A:=A.since g1;replace B:=B.since g1;have a0:=A.cell 0;have a1:=A.cell 1;have b0:=B.cell 0;have b1:=B.cell 1;simp at a0 a1 b0 b1)|(go_at_call 96;(first|(refine (hx _).mono ?_;clear hx)|(refine (hy _).mono ?_;clear hy));rintro _ w2 ⟨rfl,g2⟩;replace G:=G.trans g2;replace A:=A.since g2;replace B:=B.since g2;have a0:=A.cell 0;have a1:=A.cell 1;have b0:=B.cell 0;have b1:=B.cell 1;simp at a0 a1 b0 b1))
   refine bodyPost_ret (v:=.tuple #[.int .i64 (X / 16777216 % 8),.bool true]) ?_ rfl ⟨by rw [← hS.out,← hV.out];simp [ckStep,ckKnown,hk,hXe.out],G⟩
   simp [results,go_sem]
  ·have hXb:(X == c)=false:=by simp [hX]
   by_cases he0:0<e
   ·by_cases hY:Y=c
    ·subst hY
     go_enter Tryz.func51,Tryz.ntmps51
     go_wp2_with (first|(go_at_call 95;refine (hh _).mono ?_;rintro _ w1 ⟨rfl,g1⟩;replace G:=G.trans g1;replace A:=A.since g1;replace B:=B.since g1;have a0:=A.cell 0;have a1:=A.cell 1;have b0:=B.cell 0;have b1:=B.cell 1;simp at a0 a1 b0 b1)|(go_at_call 96;(first|(refine (hx _).mono ?_;clear hx)|(refine (hy _).mono ?_;clear hy));rintro _ w2 ⟨rfl,g2⟩;replace G:=G.trans g2;replace A:=A.since g2;replace B:=B.since g2;have a0:=A.cell 0;have a1:=A.cell 1;have b0:=B.cell 0;have b1:=B.cell 1;simp at a0 a1 b0 b1))
     refine bodyPost_ret (v:=.tuple #[.int .i64 (Y / 16777216 % 8),.bool true]) ?_ rfl ⟨by rw [← hS.out,← hV.out];simp [ckStep,ckKnown,hk,hYe.out,he0],G⟩
     simp [results,go_sem]
    ·have hYb:(Y == c)=false:=by simp [hY]
     go_enter Tryz.func51,Tryz.ntmps51
     go_wp2_with (first|(go_at_call 95;refine (hh _).mono ?_;rintro _ w1 ⟨rfl,g1⟩;replace G:=G.trans g1;replace A:=A.since g1;replace B:=B.since g1;have a0:=A.cell 0;have a1:=A.cell 1;have b0:=B.cell 0;have b1:=B.cell 1;simp at a0 a1 b0 b1)|(go_at_call 96;(first|(refine (hx _).mono ?_;clear hx)|(refine (hy _).mono ?_;clear hy));rintro _ w2 ⟨rfl,g2⟩;replace G:=G.trans g2;replace A:=A.since g2;replace B:=B.since g2;have a0:=A.cell 0;have a1:=A.cell 1;have b0:=B.cell 0;have b1:=B.cell 1;simp at a0 a1 b0 b1))
     refine bodyPost_ret (v:=.tuple #[.int .i64 0,.bool false]) ?_ rfl ⟨by rw [← hS.out,← hV.out];simp [ckStep,ckKnown,hk,hXe.out,hYe.out,hX,hY],G⟩
     simp [results,go_sem]
   ·clear hy
    go_enter Tryz.func51,Tryz.ntmps51
    go_wp2_with (first|(go_at_call 95;refine (hh _).mono ?_;rintro _ w1 ⟨rfl,g1⟩;replace G:=G.trans g1;replace A:=A.since g1;replace B:=B.since g1;have a0:=A.cell 0;have a1:=A.cell 1;have b0:=B.cell 0;have b1:=B.cell 1;simp at a0 a1 b0 b1)|(go_at_call 96;(first|(refine (hx _).mono ?_;clear hx)|(refine (hy _).mono ?_;clear hy));rintro _ w2 ⟨rfl,g2⟩;replace G:=G.trans g2;replace A:=A.since g2;replace B:=B.since g2;have a0:=A.cell 0;have a1:=A.cell 1;have b0:=B.cell 0;have b1:=B.cell 1;simp at a0 a1 b0 b1))
    refine bodyPost_ret (v:=.tuple #[.int .i64 0,.bool false]) ?_ rfl ⟨by rw [← hS.out,← hV.out];simp [ckStep,ckKnown,hk,hXe.out,hX,show (0<e)=False by simp;omega],G⟩
    simp [results,go_sem]
theorem implCheck (s h p j q e c:Int) (hc:IsWord c) (w:World) :
  Calls Tryz.prog 37 #[.int .u32 s,addrVal h p,addrVal j q,.int .i64 e,.int .u32 c] w fun f w'=>f=.returned (.tuple #[.int .i64 (ckStep s h p j q e c),.bool (ckKnown s h p j q e c)])∧Since w w':=by
 have hh:=fun wx=>hasCookies h p j q e wx
 obtain ⟨hc0,hc1⟩:=hc
 have hK0:0≤c / 16777216:=by omega
 have hK1:c / 16777216<256:=by omega
 have hx:=fun wx=>implCookie s h p j q e (c / 16777216 % 8) wx
 have hy:=fun wx=>implCookie s h p j q (e - 1) (c / 16777216 % 8) wx
 generalize hS:ckStep s h p j q e c=S
 generalize hV:ckKnown s h p j q e c=V
 replace hS:Hid _:=hS
 replace hV:Hid _:=hV
 have A:=(Blk.new w #[.int .u32 h,.int .i64 p] 26).since ((Since.refl _).alloc (.cells #[.int .u32 j,.int .i64 q] 26))
 have B:=Blk.new (w.alloc (.cells #[.int .u32 h,.int .i64 p] 26)) #[.int .u32 j,.int .i64 q] 26
 have G:Since w ((w.alloc (.cells #[.int .u32 h,.int .i64 p] 26)).alloc (.cells #[.int .u32 j,.int .i64 q] 26)):=((Since.refl _).alloc _).alloc _
 have a0:=A.cell 0;have a1:=A.cell 1;have b0:=B.cell 0;have b1:=B.cell 1;simp at a0 a1 b0 b1 B
 cases hk:ckOk p q e
 ·rw [hk] at hh
  clear hx hy
  unfold addrVal at *
  go_enter Tryz.func37,Tryz.ntmps37
  go_wp2_with (go_at_call 25;refine (hh _).mono ?_;rintro _ w1 ⟨rfl,g1⟩;replace G:=G.trans g1)
  refine bodyPost_ret (v:=.tuple #[.int .i64 0,.bool false]) ?_ rfl ⟨by rw [← hS.out,← hV.out];simp [ckStep,ckKnown,hk],G⟩
  simp [results,go_sem]
 ·rw [hk] at hh
  have he:=ckOk_in hk
  generalize hXe:ckOf s h p j q e (c / 16777216 % 8)=X at hx
  generalize hYe:ckOf s h p j q (e - 1) (c / 16777216 % 8)=Y at hy
  replace hXe:Hid _:=hXe
  replace hYe:Hid _:=hYe
  unfold addrVal at *
  go_enter Tryz.func37,Tryz.ntmps37
  go_wp2_with (go_at_call 25;refine (hh _).mono ?_;rintro _ w1 ⟨rfl,g1⟩;replace G:=G.trans g1;replace A:=A.since g1;replace B:=B.since g1;clear a0 a1 b0 b1 g1)
  go_loopw [13] (fun v wr=>∃ n:Nat,n≤2∧v=.int .i64 (e - n)∧(1≤n→X≠c)∧(n=2→0<e∧Y≠c)∧Since w1 wr) (fun v _=>(intOf v+3).toNat)
  case atStart=>exact ⟨0,by omega,by simp,fun h=>absurd h (by omega),fun h=>absurd h (by omega),Since.refl _⟩
  case round=>
   obtain ⟨n,hn,rfl,h1,h2,S0⟩:=hrel
   replace A:=A.since S0
   replace B:=B.since S0
   replace G:=G.trans S0
   have a0:=A.cell 0;have a1:=A.cell 1;have b0:=B.cell 0;have b1:=B.cell 1;simp at a0 a1 b0 b1
   obtain rfl|rfl|rfl:n=0∨n=1∨n=2:=by omega
   ·rw [show e - ((0:Nat):Int)=e by omega]
    clear h1 h2 hy
    by_cases hX:X=c
    ·subst hX
     go_wp2_with (go_at_call 27;refine (hx _).mono ?_;rintro _ w2 ⟨rfl,g2⟩;replace G:=G.trans g2;replace S0:=S0.trans g2;clear a0 a1 b0 b1)
     all_goals (refine bodyPost_ret (v:=.tuple #[.int .i64 (X / 16777216 % 8),.bool true]) ?_ rfl ⟨by rw [← hS.out,← hV.out];simp [ckStep,ckKnown,hk,hXe.out],G⟩;simp [results,go_sem])
    ·have hXb:(X == c)=false:=by simp [hX]
     go_wp2_with (go_at_call 27;refine (hx _).mono ?_;rintro _ w2 ⟨rfl,g2⟩;replace G:=G.trans g2;replace S0:=S0.trans g2;clear a0 a1 b0 b1)
     go_roundw
     case rel=>exact ⟨1,by omega,by go_num,fun _=>hX,fun h=>absurd h (by omega),S0⟩
     case measure=>simp [intOf];omega
   ·rw [show e - ((1:Nat):Int)=e - 1 by omega]
    have hX:=h1 (by omega)
    clear h1 h2 hx
    by_cases he0:0<e
    ·by_cases hY:Y=c
     ·subst hY
      go_wp2_with (go_at_call 27;refine (hy _).mono ?_;rintro _ w2 ⟨rfl,g2⟩;replace G:=G.trans g2;replace S0:=S0.trans g2;clear a0 a1 b0 b1)
      refine bodyPost_ret (v:=.tuple #[.int .i64 (Y / 16777216 % 8),.bool true]) ?_ rfl ⟨by rw [← hS.out,← hV.out];simp [ckStep,ckKnown,hk,hYe.out,he0],G⟩
      simp [results,go_sem]
     ·have hYb:(Y == c)=false:=by simp [hY]
      go_wp2_with (go_at_call 27;refine (hy _).mono ?_;rintro _ w2 ⟨rfl,g2⟩;replace G:=G.trans g2;replace S0:=S0.trans g2;clear a0 a1 b0 b1)
      go_roundw
      case rel=>exact ⟨2,by omega,by go_num,fun _=>hX,fun _=>⟨he0,hY⟩,S0⟩
      case measure=>simp [intOf];omega
    ·obtain rfl:e=0:=by omega
     go_wp2_with (fail)
     refine bodyPost_ret (v:=.tuple #[.int .i64 0,.bool false]) ?_ rfl ⟨by rw [← hS.out,← hV.out];simp [ckStep,ckKnown,hk,hXe.out,hX],G⟩
     simp [results,go_sem]
   ·rw [show e - ((2:Nat):Int)=e - 2 by omega]
    have hX:=h1 (by omega)
    obtain ⟨he0,hY⟩:=h2 rfl
    clear h1 h2 hx hy
    go_wp2_with (fail)
    refine bodyPost_ret (v:=.tuple #[.int .i64 0,.bool false]) ?_ rfl ⟨by rw [← hS.out,← hV.out];simp [ckStep,ckKnown,hk,hXe.out,hYe.out,hX,hY],G⟩
    simp [results,go_sem]
def mssAt (i:Nat):Int:=[64,128,256,400,536,800,1200,1460].getD i 0
def stepTo (m:Int):Nat→Int
 | 0=>0
 | n+1=>if mssAt n≤m then (n:Int) else stepTo m n
structure LaidM (w:World):Prop where
 at':∀ i,i<8→w.cell? ⟨0,i,none⟩=some (.int .i64 (mssAt i))
theorem LaidM.lt {w:World} (h:LaidM w):0<w.heap.size:=by
 have:=h.at' 0 (by decide)
 rcases Nat.lt_or_ge 0 w.heap.size with h0|h1
 ·exact h0
 ·rw [World.cell?] at this
  simp [Array.getElem?_eq_none h1] at this
theorem LaidM.since {w x:World} (h:LaidM w) (g:Since w x):LaidM x:=⟨fun i hi=>(Below.cell g (p:=⟨0,i,none⟩) h.lt).trans (h.at' i hi)⟩
theorem LaidM.touch {w x:World} {b:Nat} (h:LaidM w) (t:Touch b w x) (hb:b≠0):LaidM x:=⟨fun i hi=>(t.cell (p:=⟨0,i,none⟩) (by simpa using hb.symm) h.lt).trans (h.at' i hi)⟩
theorem implMssStep (m:Int) (w:World) (L:LaidM w) :
  Calls Tryz.prog 28 #[.int .i64 m] w fun e w'=>e=.returned (.int .i64 (stepTo m 8))∧w=w':=by
 have c0:=L.at' 0 (by decide)
 have c1:=L.at' 1 (by decide)
 have c2:=L.at' 2 (by decide)
 have c3:=L.at' 3 (by decide)
 have c4:=L.at' 4 (by decide)
 have c5:=L.at' 5 (by decide)
 have c6:=L.at' 6 (by decide)
 have c7:=L.at' 7 (by decide)
 go_enter Tryz.func28,Tryz.ntmps28
 go_wp2_with (fail)
 go_loopw [3,7] (fun b i wr=>∃ (k:Nat),k≤8∧b=.int .i64 (stepTo m k)∧i=.int .i64 k∧w=wr) (fun _ i _=>8 - (intOf i).toNat)
 case atStart=>exact ⟨0,by omega,rfl,rfl,rfl⟩
 case round=>
  obtain ⟨k,hk,rfl,rfl,rfl⟩:=hrel
  by_cases hlt:k<8
  ·have hidx:∀ wx,(Instr.index 107 (.agg #[.int .i64 (mssAt 0),.int .i64 (mssAt 1),.int .i64 (mssAt 2),.int .i64 (mssAt 3),.int .i64 (mssAt 4),.int .i64 (mssAt 5),.int .i64 (mssAt 6),.int .i64 (mssAt 7)]) (.int .i64 (k:Int))).run Tryz.prog wx=.ok (.int .i64 (mssAt k)) wx:=by
    match k,hlt with
    | 0,_=>exact fun wx=>by kernel_rfl
    | 1,_=>exact fun wx=>by kernel_rfl
    | 2,_=>exact fun wx=>by kernel_rfl
    | 3,_=>exact fun wx=>by kernel_rfl
    | 4,_=>exact fun wx=>by kernel_rfl
    | 5,_=>exact fun wx=>by kernel_rfl
    | 6,_=>exact fun wx=>by kernel_rfl
    | 7,_=>exact fun wx=>by kernel_rfl
   have e2:stepTo m (k+1)=if mssAt k≤m then (k:Int) else stepTo m k:=rfl
   generalize mssAt 0=m0 at hidx c0 ⊢
   generalize mssAt 1=m1 at hidx c1 ⊢
   generalize mssAt 2=m2 at hidx c2 ⊢
   generalize mssAt 3=m3 at hidx c3 ⊢
   generalize mssAt 4=m4 at hidx c4 ⊢
   generalize mssAt 5=m5 at hidx c5 ⊢
   generalize mssAt 6=m6 at hidx c6 ⊢
   generalize mssAt 7=m7 at hidx c7 ⊢
   generalize stepTo m k=B at e2 ⊢
   generalize mssAt k=M at hidx e2
   have hlt':(k:Int)<8:=by omega
   clear c0 c1 c2 c3 c4 c5 c6 c7
   by_cases hM:M≤m
   ·rw [if_pos hM] at e2
    go_wp2_with (fail)
    go_roundw
    case rel=>exact ⟨k+1,by omega,by rw [e2],by go_num,trivial⟩
    case measure=>simp [intOf];omega
   ·rw [if_neg hM] at e2
    go_wp2_with (fail)
    go_roundw
    case rel=>exact ⟨k+1,by omega,by rw [e2],by go_num,trivial⟩
    case measure=>simp [intOf];omega
  ·obtain rfl:k=8:=by omega
   go_wp2_with (fail)
   go_ret
   exact ⟨rfl,rfl⟩
end Go.Proofs.YtmigalhmlofbkaaGreatDoor
