/- A part of the proof. -/
import Derived.Test.YtmigalhmlofbkaaGreatDoorM48
import Derived.WalkSmall
set_option linter.unusedVariables false
set_option maxRecDepth 100000
namespace Go.Proofs.YtmigalhmlofbkaaGreatDoor
open Go.ChangeShapes Go.WideShapes Go.ChangeAt Go.RowKit Go.Deep
def at0 (c:Cn) (g cp:Nat):Cn:={c with pa:=some ⟨g,0,none⟩,pn:=0,pc:=cp}
theorem rdNil (w:World) (a:Option Addr):Rd shP w a 0 []:=⟨rfl,Nat.zero_le _,fun i hi=>by cases hi⟩
theorem word1 (x:Int):IsWord ((x+1) % 4294967296):=by
 unfold IsWord
 omega
theorem goodN (q:Int) (d:ByteArray) (room:Int) (hq:IsWord q) (hd:d.size≤1048576) (h:1≤room∧room≤4096):Good q d room 0 []:=⟨hq,hd,by unfold IsInt;omega,by omega,fun i hi=>by cases hi⟩
theorem word0:IsWord 0:=by unfold IsWord;omega
theorem came0 (c d:Cn) (s:Sg) (now:Int) (hv:cameV c s now []=(d,[],[])) (gc:GoodC c []) (hn:c.pn=0) (w_sq:IsWord s.sq) (w_ak:IsWord s.ak) (hf:IsInt s.fl) (hds:s.d.size≤1048576) (w:World) (La:Laid0 w) :
  Calls Tryz.prog 9 #[.agg (cnCells c),.agg (sgCells s),.int .i64 now] w fun e w'=>∃ g cp gs cs,e=.returned (.tuple #[.agg (cnCells (at0 d g cp)),.slice (some ⟨gs,0,none⟩) 0 cs])∧Since w w':=by
 refine (implCameV c [] s now gc w_sq w_ak hf hds w La (by rw [hn];exact rdNil w c.pa)).mono ?_
 rintro e w' ⟨gp,m,cp,gs,n,cp',rfl,H,L,ne,k⟩
 rw [hv] at H L ⊢
 have hm:m=0:=H.reads.len.symm
 have hn':n=0:=L.reads.len.symm
 subst hm
 subst hn'
 exact ⟨gp,cp,gs,cp',rfl,k⟩
theorem goodAt {c:Cn} (gc:GoodC c []) (hn:c.pn=0) (g cp:Nat):GoodC (at0 c g cp) []:=by
 have h:=good_at gc (some ⟨g,0,none⟩) cp
 have e:at0 c g cp={c with pa:=some ⟨g,0,none⟩,pc:=cp}:=by
  unfold at0
  rw [← hn]
 rw [e]
 exact h
theorem send0 (c d:Cn) (xs:List Sg) (now:Int) (hc:sentC c [] now=d) (hs:sentS c [] now=xs) (gc:GoodC c []) (hn:c.pn=0) (g cp:Nat) (w:World) :
  Calls Tryz.prog 11 #[.agg (cnCells (at0 c g cp)),.int .i64 now] w fun e w'=>∃ g' cp' gl cl,e=.returned (.tuple #[.agg (cnCells (at0 d g' cp')),.slice (some ⟨gl,0,none⟩) xs.length cl])∧Held shG w' w.heap.size gl xs.length cl xs∧Since w w':=by
 have hd:d.pn=0:=by rw [← hc,connsend_pn,hn]
 refine (implConnSend (at0 c g cp) [] now (goodAt gc hn g cp) w (rdNil w _)).mono ?_
 rintro e w' ⟨g',gl,n,cl,rfl,H,L,ne,k⟩
 have e1:at0 c g cp={c with pa:=some ⟨g,0,none⟩,pc:=cp}:=by
  unfold at0
  rw [← hn]
 rw [e1,connsend_atS,hs] at L
 have hl:n=xs.length:=L.reads.len.symm
 subst hl
 refine ⟨g',0,gl,cl,?_,L,k⟩
 have e4:at0 d g' 0={d with pa:=some ⟨g',0,none⟩,pc:=0}:=by
  unfold at0
  rw [← hd]
 have e3:({sentC (at0 c g cp) [] now with pa:=some ⟨g',0,none⟩,pc:=(at0 c g cp).pn}:Cn)=at0 d g' 0:=by
  rw [show (at0 c g cp).pn=0 from rfl,e1,e4,← hc]
  exact connsend_at c [] now (some ⟨g,0,none⟩) cp (some ⟨g',0,none⟩) 0
 rw [e3]
theorem write0 (c d:Cn) (n:Nat) (s:ByteArray) (hs:s.size≤1048576) (hc:writeC c [] s=d) (hm:writeN c [] s=n) (gc:GoodC c []) (hn:c.pn=0) (g cp:Nat) (w:World) :
  Calls Tryz.prog 10 #[.agg (cnCells (at0 c g cp)),.string s] w fun e w'=>∃ g',e=.returned (.tuple #[.agg (cnCells (at0 d g' 0)),.int .i64 n])∧Since w w':=by
 refine (implWrite (at0 c g cp) [] s hs (goodAt gc hn g cp) w (rdNil w _)).mono ?_
 rintro e w' ⟨g',rfl,H,k⟩
 refine ⟨g',?_,k⟩
 rw [show writeN (at0 c g cp) [] s=writeN c [] s from rfl,hm]
 have e1:({writeC (at0 c g cp) [] s with pa:=some ⟨g',0,none⟩,pc:=(at0 c g cp).pn}:Cn)=at0 d g' 0:=by
  rw [← hc]
  unfold writeC
  rw [show writeOk (at0 c g cp) []=writeOk c [] from rfl]
  cases writeOk c []<;>simp [at0]
 rw [e1]
theorem read0 (c:Cn) (n:Int) (hi:IsInt n) (t:ByteArray) (ht:readS c [] n=t) (gc:GoodC c []) (hn:c.pn=0) (g cp:Nat) (w:World) :
  Calls Tryz.prog 14 #[.agg (cnCells (at0 c g cp)),.int .i64 n] w fun e w'=>∃ Z:Cn,e=.returned (.tuple #[.agg (cnCells Z),.string t])∧Since w w':=by
 refine (implRead (at0 c g cp) [] n hi (fun h=>by cases h) (goodAt gc hn g cp) w (rdNil w _)).mono ?_
 rintro e w' ⟨g',cp',rfl,H,k⟩
 rw [show readS (at0 c g cp) [] n=readS c [] n from rfl,ht]
 exact ⟨_,rfl,k⟩
end Go.Proofs.YtmigalhmlofbkaaGreatDoor
namespace Go.Proofs.YtmigalhmlofbkaaGreatDoor
open Go.ChangeShapes Go.WideShapes Go.ChangeAt Go.RowKit
theorem and255 (x:Int):0≤bits .and .i64 x 255∧bits .and .i64 x 255<256:=by
 have h:(BitVec.ofInt 64 x &&& BitVec.ofInt 64 255).toNat≤255:=by
  rw [BitVec.toNat_and]
  have:(BitVec.ofInt 64 255).toNat=255:=by decide
  rw [this]
  exact Nat.and_le_right
 have e:bits .and .i64 x 255=wrap64 ((BitVec.ofInt 64 x &&& BitVec.ofInt 64 255).toNat:Int):=by
  rw [← IntWalk.i64_left]
  rfl
 rw [e,IntWalk.wrap64_in _ ⟨by omega,by omega⟩]
 omega
def Bytes (w:World) (a:Option Addr) (len:Nat) (zs:List Int):Prop:=
 len=0∨∃ b off,a=some ⟨b,off,none⟩∧len≤zs.length∧∀ i,i<len→w.cell? ⟨b,off+i,none⟩=some (.int .u8 (zs.getD i 0))∧0≤zs.getD i 0∧zs.getD i 0≤255
theorem block_lt {w:World} {p:Addr} {v:Value} (h:w.cell? p=some v):p.block<w.heap.size:=by
 rcases Nat.lt_or_ge p.block w.heap.size with hl|hl
 ·exact hl
 ·have e:w.heap[p.block]?=none:=by simp [hl]
  unfold World.cell? at h
  simp [e] at h
structure Cur (w0 wb:World) (g:Nat) (a:Option Addr) (len cap:Nat) (zs:List Int) (w:World):Prop where
 bytes:Bytes w0 a len zs
 most:len≤1048576
 bel:Below w0.heap.size w0 w
 low:w0.heap.size≤g
 here:g<w.heap.size
 touch:Touch g wb w
 cells:∃ (i:Nat) (h:Int),i≤len∧w.cell? ⟨g,0,none⟩=some (.slice a len cap)∧w.cell? ⟨g,1,none⟩=some (.int .i64 (i:Int))∧w.cell? ⟨g,2,none⟩=some (.int .i64 h)∧w.frozen? ⟨g,1,none⟩=false∧w.frozen? ⟨g,2,none⟩=false
theorem Cur.rebase {w0 wb:World} {g:Nat} {a:Option Addr} {len cap:Nat} {zs:List Int} {w:World} (h:Cur w0 wb g a len cap zs w):Cur w0 w g a len cap zs w:=
 ⟨h.bytes,h.most,h.bel,h.low,h.here,Touch.refl _ _,h.cells⟩
theorem Cur.since {w0 wb w w':World} {g:Nat} {a:Option Addr} {len cap:Nat} {zs:List Int} (h:Touch g wb w) (k:Cur w0 w g a len cap zs w'):Cur w0 wb g a len cap zs w':=
 ⟨k.bytes,k.most,k.bel,k.low,k.here,h.trans k.touch,k.cells⟩
theorem Cur.moved {w0 wb w w':World} {g g':Nat} {a:Option Addr} {len cap:Nat} {zs:List Int} (h:Cur w0 wb g a len cap zs w) (b:Below w.heap.size w w'):Cur w0 wb g a len cap zs w':=by
 obtain ⟨i,x,hi,c0,c1,c2,f1,f2⟩:=h.cells
 refine ⟨h.bytes,h.most,h.bel.trans (b.mono h.bel.size),h.low,Nat.lt_of_lt_of_le h.here b.size,h.touch.trans (Touch.of_below b fun k hk _=>hk),i,x,hi,?_,?_,?_,?_,?_⟩
 ·rw [b.cell (p:=⟨g,0,none⟩) h.here];exact c0
 ·rw [b.cell (p:=⟨g,1,none⟩) h.here];exact c1
 ·rw [b.cell (p:=⟨g,2,none⟩) h.here];exact c2
 ·rw [b.frozen (p:=⟨g,1,none⟩) h.here];exact f1
 ·rw [b.frozen (p:=⟨g,2,none⟩) h.here];exact f2
theorem Cur.alloc {w0 wb w:World} {g:Nat} {a:Option Addr} {len cap:Nat} {zs:List Int} (h:Cur w0 wb g a len cap zs w) (o:Obj):Cur w0 wb g a len cap zs (w.alloc o):=
 h.moved (g':=g) ((Below.refl w.heap.size w).alloc (Nat.le_refl _) o)
def Cells (w:World) (g:Nat) (a:Option Addr) (len cap:Nat):Prop:=
 ∃ (i:Nat) (h:Int),i≤len∧w.cell? ⟨g,0,none⟩=some (.slice a len cap)∧w.cell? ⟨g,1,none⟩=some (.int .i64 (i:Int))∧w.cell? ⟨g,2,none⟩=some (.int .i64 h)∧w.frozen? ⟨g,1,none⟩=false∧w.frozen? ⟨g,2,none⟩=false
theorem byteHere (g:Nat) (len cap:Nat) (i:Nat) (h:Int) (w:World) (b off:Nat) (z:Int)
  (c0:w.cell? ⟨g,0,none⟩=some (.slice (some ⟨b,off,none⟩) len cap)) (c1:w.cell? ⟨g,1,none⟩=some (.int .i64 (i:Int))) (c2:w.cell? ⟨g,2,none⟩=some (.int .i64 h))
  (f1:w.frozen? ⟨g,1,none⟩=false) (f2:w.frozen? ⟨g,2,none⟩=false) (hi:i<len) (hl:len≤1048576)
  (hz:w.cell? ⟨b,off+i,none⟩=some (.int .u8 z)) (hz0:0≤z) (hz1:z≤255) (hbg:b≠g) :
  Calls Tryz.prog 55 #[.pointer (some ⟨g,0,none⟩)] w fun e w'=>∃ x:Int,e=.returned (.int .i64 x)∧0≤x∧x<256∧Touch g w w'∧Cells w' g (some ⟨b,off,none⟩) len cap:=by
 have hlt:(i:Int)<(len:Int):=by omega
 have hlm:(len:Int)≤9223372036854775807:=by omega
 go_enter Tryz.func55,Tryz.ntmps55
 go_wp2
 go_quiet (fail)
 go_wp2
 go_quiet (fail)
 go_wp2
 go_quiet (fail)
 go_wp2
 go_ret
 refine ⟨_,rfl,(and255 _).1,(and255 _).2,?_,i+1,wrap64 (wrap64 (h*6364136223846793005)+1442695040888963407),hi,?_,?_,?_,?_,?_⟩
 ·repeat (first|exact Touch.refl _ _|apply Touch.drewN|apply Touch.put)
 ·go_simp
 ·go_simp
 ·go_simp
 ·go_simp
 ·go_simp
theorem byteEnd (g:Nat) (a:Option Addr) (len cap:Nat) (h:Int) (w:World)
  (c0:w.cell? ⟨g,0,none⟩=some (.slice a len cap)) (c1:w.cell? ⟨g,1,none⟩=some (.int .i64 (len:Int))) (c2:w.cell? ⟨g,2,none⟩=some (.int .i64 h))
  (f1:w.frozen? ⟨g,1,none⟩=false) (f2:w.frozen? ⟨g,2,none⟩=false) (hl:len≤1048576) :
  Calls Tryz.prog 55 #[.pointer (some ⟨g,0,none⟩)] w fun e w'=>∃ x:Int,e=.returned (.int .i64 x)∧0≤x∧x<256∧Touch g w w'∧Cells w' g a len cap:=by
 have hlm:(len:Int)≤9223372036854775807:=by omega
 go_enter Tryz.func55,Tryz.ntmps55
 go_wp2
 go_quiet (fail)
 go_wp2
 go_quiet (fail)
 go_wp2
 go_ret
 refine ⟨_,rfl,(and255 _).1,(and255 _).2,?_,len,wrap64 (wrap64 (h*6364136223846793005)+1442695040888963407),Nat.le_refl _,?_,?_,?_,?_,?_⟩
 ·repeat (first|exact Touch.refl _ _|apply Touch.drewN|apply Touch.put)
 ·go_simp
 ·go_simp
 ·go_simp
 ·go_simp
 ·go_simp
theorem byte {w0 wb:World} {g:Nat} {a:Option Addr} {len cap:Nat} {zs:List Int} (w:World) (hc:Cur w0 wb g a len cap zs w) :
  Calls Tryz.prog 55 #[.pointer (some ⟨g,0,none⟩)] w fun e w'=>∃ x:Int,e=.returned (.int .i64 x)∧0≤x∧x<256∧Cur w0 wb g a len cap zs w':=by
 obtain ⟨hby,hmost,hbel,hlow,hhere,htouch,i,h,hi,c0,c1,c2,f1,f2⟩:=hc
 have hK:∀ w',Touch g w w'→Cells w' g a len cap→Cur w0 wb g a len cap zs w':=
  fun w' ht hcs=>⟨hby,hmost,ht.below hbel hlow hbel.size,hlow,Nat.lt_of_lt_of_le hhere ht.size,htouch.trans ht,hcs⟩
 by_cases hlt:i<len
 ·obtain ⟨b,off,rfl,hzl,hzs⟩:∃ b off,a=some ⟨b,off,none⟩∧len≤zs.length∧∀ i,i<len→w0.cell? ⟨b,off+i,none⟩=some (.int .u8 (zs.getD i 0))∧0≤zs.getD i 0∧zs.getD i 0≤255:=by
   rcases hby with h0|h0
   ·omega
   ·exact h0
  obtain ⟨hz0,hzlo,hzhi⟩:=hzs i hlt
  have hb:=block_lt hz0
  refine (byteHere g len cap i h w b off _ c0 c1 c2 f1 f2 hlt hmost (cell_later hbel hz0) hzlo hzhi (by simp at hb;omega)).mono ?_
  rintro e w' ⟨x,rfl,h0,h1,ht,hcs⟩
  exact ⟨x,rfl,h0,h1,hK w' ht hcs⟩
 ·obtain rfl:i=len:=by omega
  refine (byteEnd g a i cap h w c0 c1 c2 f1 f2 hmost).mono ?_
  rintro e w' ⟨x,rfl,h0,h1,ht,hcs⟩
  exact ⟨x,rfl,h0,h1,hK w' ht hcs⟩
theorem below {w0 wb:World} {g:Nat} {a:Option Addr} {len cap:Nat} {zs:List Int} (n:Int) (w:World) (hc:Cur w0 wb g a len cap zs w) :
  Calls Tryz.prog 20 #[.pointer (some ⟨g,0,none⟩),.int .i64 n] w fun e w'=>∃ r:Int,e=.returned (.int .i64 r)∧0≤r∧(0<n→r<n)∧Cur w0 wb g a len cap zs w':=by
 by_cases h0:n≤0
 ·go_enter Tryz.func20,Tryz.ntmps20
  go_wp2
  go_ret
  exact ⟨0,rfl,by omega,by omega,hc⟩
 ·by_cases h1:n≤256
  ·have hn0:(n == 0)=false:=by simp;omega
   have hn1:0<n:=by omega
   go_enter Tryz.func20,Tryz.ntmps20
   go_wp2_with (go_at_call 55;refine (byte _ (by assumption)).mono ?_;rintro _ w1 ⟨x,rfl,hx0,hx1,hc1⟩)
   go_ret
   exact ⟨x % n,rfl,Int.emod_nonneg _ (by omega),fun h=>Int.emod_lt_of_pos _ h,by assumption⟩
  ·have hn0:(n == 0)=false:=by simp;omega
   have hn1:0<n:=by omega
   go_enter Tryz.func20,Tryz.ntmps20
   go_wp2_with (go_at_call 55;refine (byte _ (by assumption)).mono ?_;rintro _ w1 ⟨x,rfl,hx0,hx1,hc1⟩)
   go_ret
   exact ⟨_,rfl,Int.emod_nonneg _ (by omega),fun h=>Int.emod_lt_of_pos _ h,hc1⟩
theorem once {w0 wb:World} {g:Nat} {a:Option Addr} {len cap:Nat} {zs:List Int} (n:Int) (w:World) (hc:Cur w0 wb g a len cap zs w) :
  Calls Tryz.prog 54 #[.pointer (some ⟨g,0,none⟩),.int .i64 n] w fun e w'=>∃ r:Bool,e=.returned (.bool r)∧Cur w0 wb g a len cap zs w':=by
 go_enter Tryz.func54,Tryz.ntmps54
 go_wp2_with (go_at_call 20;refine (below n _ (by assumption)).mono ?_;rintro _ w1 ⟨x,rfl,hx0,hx1,hc1⟩)
 go_ret
 exact ⟨_,rfl,hc1⟩
def Ints (w:World) (gl:Nat) (vs:List Int):Prop:=∀ k,k<vs.length→w.cell? ⟨gl,k,none⟩=some (.int .i64 (vs.getD k 0))
theorem pickInt {w0 wb:World} {g:Nat} {a:Option Addr} {len cap:Nat} {zs:List Int} (gl n:Nat) (vs:List Int) (hn:vs.length=n) (hpos:0<n) (hn2:n≤1000) (w:World) (hc:Cur w0 wb g a len cap zs w) (hne:gl≠g) (hl:Ints w gl vs) :
  Calls Tryz.prog 53 #[.pointer (some ⟨g,0,none⟩),.slice (some ⟨gl,0,none⟩) n n] w fun e w'=>∃ k:Nat,k<vs.length∧e=.returned (.int .i64 (vs.getD k 0))∧Cur w0 wb g a len cap zs w':=by
 have hr:=hc.rebase
 have hb:=fun wx=>below (w0:=w0) (wb:=w) (g:=g) (a:=a) (len:=len) (cap:=cap) (zs:=zs) (n:Int) wx
 have hin:gl<w.heap.size:=by
  have:=block_lt (hl 0 (by omega))
  simpa using this
 have fin:∀ (r:Int) (w1:World),0≤r→(0<(n:Int)→r<(n:Int))→Cur w0 w g a len cap zs w1→∃ (k:Nat) (v:Int),r=(k:Int)∧k<n∧w1.cell? ⟨gl,k,none⟩=some (.int .i64 v)∧Hid (v=vs.getD k 0):=by
  intro r w1 h0 h1 hc1
  obtain ⟨k,rfl⟩:=Int.eq_ofNat_of_zero_le h0
  have hk:k<n:=by
   have:=h1 (by omega)
   omega
  exact ⟨k,_,rfl,hk,by rw [hc1.touch.cell (p:=⟨gl,k,none⟩) hne hin];exact hl k (by omega),rfl⟩
 have hout:∀ w1,Cur w0 w g a len cap zs w1→Cur w0 wb g a len cap zs w1:=fun w1 h=>Cur.since hc.touch h
 clear hc hl
 go_enter Tryz.func53,Tryz.ntmps53
 go_wp2_with (go_at_call 20;refine (hb _ (by assumption)).mono ?_;rintro _ w1 ⟨x,rfl,hx0,hx1,hc1⟩;obtain ⟨k,v,rfl,hk,hcell,hv⟩:=fin x w1 hx0 hx1 hc1)
 go_ret
 exact ⟨k,by omega,by rw [← hv.out];rfl,hout _ hc1⟩
theorem belowP {w0 wb:World} {g:Nat} {a:Option Addr} {len cap:Nat} {zs:List Int} (n:Int) (hn:0<n) (w:World) (hc:Cur w0 wb g a len cap zs w) :
  Calls Tryz.prog 20 #[.pointer (some ⟨g,0,none⟩),.int .i64 n] w fun e w'=>∃ r:Int,e=.returned (.int .i64 r)∧0≤r∧r<n∧Cur w0 wb g a len cap zs w':=
 (below n w hc).mono fun e w' ⟨r,he,h0,h1,h⟩=>⟨r,he,h0,h1 hn,h⟩
theorem ints_alloc (w:World) (C:Array Value) (t:TypeId) (vs:List Int) (h:C=(vs.map fun v=>Value.int .i64 v).toArray):Ints (w.alloc (.cells C t)) w.heap.size vs:=by
 intro k hk
 rw [World.cell?_alloc_mark]
 subst h
 simp [hk]
theorem drawWord {w0 wb:World} {g:Nat} {a:Option Addr} {len cap:Nat} {zs:List Int} (w:World) (hc:Cur w0 wb g a len cap zs w) :
  Calls Tryz.prog 17 #[.pointer (some ⟨g,0,none⟩)] w fun e w'=>∃ x:Int,e=.returned (.int .u32 x)∧IsWord x∧Cur w0 wb g a len cap zs w':=by
 go_enter Tryz.func17,Tryz.ntmps17
 go_wp2_with (first|(go_at_call 20;refine (belowP _ (by omega) _ (by assumption)).mono ?_;rintro _ w1 ⟨x,rfl,hx0,hx1,hc1⟩)|(go_at_call 53;refine (pickInt _ 11 [0,1,2,31,32,255,256,2147483647,2147483648,4294967295,4294967294] rfl (by omega) (by omega) _ (Cur.alloc (by assumption) _) (Nat.ne_of_gt (Cur.here (by assumption))) (ints_alloc _ _ _ _ rfl)).mono ?_;rintro _ w2 ⟨k,hk,rfl,hc2⟩))
 all_goals go_ret
 all_goals refine ⟨_,rfl,?_,by assumption⟩
 all_goals unfold IsWord
 all_goals omega
theorem newCur (a:Option Addr) (len cap:Nat) (zs:List Int) (w0:World) (hb:Bytes w0 a len zs) (hm:len≤1048576) (w:World) (hw:Below w0.heap.size w0 w) (h:Int) :
  w.heap.size≤w.heap.size∧Below w.heap.size w (w.alloc (.cells #[.slice a len cap,.int .i64 0,.int .i64 h] 99))∧Cur w0 (w.alloc (.cells #[.slice a len cap,.int .i64 0,.int .i64 h] 99)) w.heap.size a len cap zs (w.alloc (.cells #[.slice a len cap,.int .i64 0,.int .i64 h] 99)):=by
 have hsz:=hw.size
 have hbel:=(Below.refl w.heap.size w).alloc (Nat.le_refl _) (.cells #[.slice a len cap,.int .i64 0,.int .i64 h] 99)
 refine ⟨Nat.le_refl _,hbel,hb,hm,hw.trans (hbel.mono hsz),hsz,by simp,Touch.refl _ _,0,h,Nat.zero_le _,?_,?_,?_,?_,?_⟩
 ·go_simp
 ·go_simp
 ·go_simp
 ·go_simp
 ·go_simp
theorem drawNew (a:Option Addr) (len cap:Nat) (zs:List Int) (w0:World) (hb:Bytes w0 a len zs) (hm:len≤1048576) (w:World) (hw:Below w0.heap.size w0 w) :
  Calls Tryz.prog 16 #[.slice a len cap] w fun e w'=>∃ g:Nat,e=.returned (.pointer (some ⟨g,0,none⟩))∧w.heap.size≤g∧Below w.heap.size w w'∧Cur w0 w' g a len cap zs w':=by
 have hsz:=hw.size
 have hlm:(len:Int)≤9223372036854775807:=by omega
 have hcell:∀ k,k<len→∃ b off z,a=some ⟨b,off,none⟩∧w.cell? ⟨b,off+k,none⟩=some (.int .u8 z)∧0≤z∧z≤255:=by
  intro k hk
  rcases hb with h0|⟨b,off,ha,hl,h⟩
  ·omega
  ·obtain ⟨h1,h2,h3⟩:=h k hk
   exact ⟨b,off,_,ha,cell_later hw h1,h2,h3⟩
 have HB:Hid (Bytes w0 a len zs):=hb
 have HW:Hid (Below w0.heap.size w0 w):=hw
 clear hb hw
 go_enter Tryz.func16,Tryz.ntmps16
 go_wp2
 go_loop [3,4] (fun h i=>∃ (k:Nat) (q:Int),k≤len∧i=.int .i64 k∧h=.int .i64 q) (fun _ i=>len - (intOf i).toNat)
 case atStart=>exact ⟨0,_,Nat.zero_le _,rfl,rfl⟩
 case round=>
  obtain ⟨k,q,hk,rfl,rfl⟩:=hrel
  by_cases hlt:k<len
  ·obtain ⟨b,off,z,rfl,hz,hz0,hz1⟩:=hcell k hlt
   clear hcell
   have hlt':(k:Int)<(len:Int):=by omega
   go_wp2
   ·go_round
    case rel=>exact ⟨k+1,_,by omega,by go_num,rfl⟩
    case measure=>simp [intOf];omega
   ·go_ret
    exact ⟨_,rfl,newCur _ len cap zs w0 HB.out hm w HW.out q⟩
  ·obtain rfl:k=len:=by omega
   clear hcell
   go_wp2
   go_ret
   exact ⟨_,rfl,newCur _ _ cap zs w0 HB.out hm w HW.out q⟩
theorem bytes_of_row {w:World} {a:Option Addr} {len cap:Nat} {zs:List Int}
  (h:(a=none∧len=0∧cap=0∧zs=[])∨∃ x,a=some x∧len≤cap∧cap≤maxLen∧zs.length=cap∧(∀ i,i<zs.length→w.cell? (x.add i)=some (.int .u8 (zs.getD i 0)))∧∀ n∈zs,(Lit.int .u8 n).wf=true) :
  Bytes w a len zs:=by
 rcases h with ⟨_,h0,_,_⟩|⟨x,rfl,hl,hm,hz,hcell,hwz⟩
 ·exact .inl h0
 ·by_cases h0:len=0
  ·exact .inl h0
  ·obtain ⟨b,off,spot⟩:=x
   have hc:=hcell 0 (by omega)
   have hspot:spot=none:=by simpa [Addr.add] using World.cell?_spot hc
   subst hspot
   refine .inr ⟨b,off,rfl,by omega,fun i hi=>?_⟩
   have h1:=hcell i (by omega)
   have h2:zs.getD i 0∈zs:=by
    rw [List.getD_eq_getElem?_getD,List.getElem?_eq_getElem (by omega:i<zs.length)]
    simp
   have h3:=bounds_u8 (hwz _ h2)
   have hplain:(⟨b,off,none⟩:Addr).add i=⟨b,off+i,none⟩:=by unfold Addr.add;split<;>simp_all
   rw [hplain] at h1
   exact ⟨h1,h3.1,h3.2⟩
theorem at_ (a:Option Addr) (len cap:Nat) (zs:List Int) (k:Nat) (hk:k≤1000) (w0:World) (hb:Bytes w0 a len zs) (hm:len≤1048576) (w:World) (hw:Below w0.heap.size w0 w) :
  Calls Tryz.prog 7 #[.slice a len cap,.int .i64 (k:Int)] w fun e w'=>e=.returned (.int .i64 (if k<len then zs.getD k 0 else ((k:Int)*7+len) % 256))∧0≤(if k<len then zs.getD k 0 else ((k:Int)*7+len) % 256)∧(if k<len then zs.getD k 0 else ((k:Int)*7+len) % 256)≤255∧w=w':=by
 by_cases h:k<len
 ·simp only [if_pos h]
  rcases hb with h0|⟨b,off,rfl,hl,hz⟩
  ·omega
  ·obtain ⟨h1,h2,h3⟩:=hz k h
   have hc:=cell_later hw h1
   generalize zs.getD k 0=z at hc h2 h3
   clear hz h1 hw
   have h':(k:Int)<(len:Int):=by omega
   go_enter Tryz.func7,Tryz.ntmps7
   go_wp2
   go_ret
   exact ⟨rfl,h2,h3,rfl⟩
 ·simp only [if_neg h]
  clear hb hw
  have h':¬ (k:Int)<(len:Int):=by omega
  go_enter Tryz.func7,Tryz.ntmps7
  go_wp2
  go_ret
  exact ⟨rfl,by omega,by omega,rfl⟩
theorem Touch.putN {g b:Nat} {w x:World} (h:Touch g w x) (hb:w.heap.size≤b) (i:Nat) (v:Value):Touch g w (x.setCell ⟨b,i,none⟩ v):=by
 have hs:=(Below.refl 0 x).setCell (p:=⟨b,i,none⟩) (Nat.zero_le _) v
 exact ⟨hs.os.trans h.os,hs.tape.trans h.tape,hs.output.trans h.output,Nat.le_trans h.size hs.size,fun k hk hg=>(Below.heap_setCell x ⟨b,i,none⟩ v k (by show k≠b;omega)).trans (h.block k hk hg)⟩
section
variable {w0 wb:World} {g:Nat} {a:Option Addr} {len cap:Nat} {zs:List Int}
theorem belowB (n:Int) (hn:0<n) (w:World) (hc:Cur w0 wb g a len cap zs w) :
  Calls Tryz.prog 20 #[.pointer (some ⟨g,0,none⟩),.int .i64 n] w fun e w'=>∃ r:Int,e=.returned (.int .i64 r)∧0≤r∧r<n∧Cur w0 wb g a len cap zs w'∧Touch g w w':=
 (belowP n hn w hc.rebase).mono fun e w' ⟨r,he,h0,h1,h⟩=>⟨r,he,h0,h1,Cur.since hc.touch h,h.touch⟩
theorem onceB (n:Int) (w:World) (hc:Cur w0 wb g a len cap zs w) :
  Calls Tryz.prog 54 #[.pointer (some ⟨g,0,none⟩),.int .i64 n] w fun e w'=>∃ r:Bool,e=.returned (.bool r)∧Cur w0 wb g a len cap zs w'∧Touch g w w':=
 (once n w hc.rebase).mono fun e w' ⟨r,he,h⟩=>⟨r,he,Cur.since hc.touch h,h.touch⟩
theorem Cur.putN {x:World} {b:Nat} (h:Cur w0 wb g a len cap zs x) (hne:b≠g) (h0:w0.heap.size≤b) (h1:wb.heap.size≤b) (i:Nat) (v:Value):Cur w0 wb g a len cap zs (x.setCell ⟨b,i,none⟩ v):=by
 obtain ⟨j,y,hj,c0,c1,c2,f1,f2⟩:=h.cells
 have hc:∀ q,(x.setCell ⟨b,i,none⟩ v).cell? ⟨g,q,none⟩=x.cell? ⟨g,q,none⟩:=fun q=>World.cell?_setCell_other x _ _ v (fun e=>hne (congrArg Addr.block e))
 refine ⟨h.bytes,h.most,Below.setCell h.bel (p:=⟨b,i,none⟩) h0 v,h.low,?_,h.touch.putN h1 i v,j,y,hj,(hc 0).trans c0,(hc 1).trans c1,(hc 2).trans c2,?_,?_⟩
 ·have:=h.here
  simpa [World.setCell] using this
 ·rw [World.frozen?_setCell];exact f1
 ·rw [World.frozen?_setCell];exact f2
end
end Go.Proofs.YtmigalhmlofbkaaGreatDoor
