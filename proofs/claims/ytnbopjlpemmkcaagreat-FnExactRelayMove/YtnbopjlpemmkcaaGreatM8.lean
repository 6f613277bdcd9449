/-
  Bytes of texts that are cut and put together.
  What OutPut, OutTake and OutDone answer; contracts of spec's.
  What OutDone answers; contract of spec's.
-/
import Derived.Test.YtnbopjlpemmkcaaGreatM4
import Derived.Test.YtnbopjlpemmkcaaGreatOut
import Derived.Test.YtnbopjlpemmkcaaGreatM2
import Derived.Laws.Concat
import Derived.RegionTactic
namespace Go.Proofs.YtnbopjlpemmkcaaGreat
open Go.ChangeShapes Go.WideShapes Go.ChangeAt Go.RowKit
set_option linter.unusedVariables false
set_option maxRecDepth 10000

theorem bt_cut (s:ByteArray) (a b i:Nat) (hb:b≤s.size) (hi:a+i<b):byteAt (s.extract a b) i=byteAt s (a+i):=by
 rw [byteAt_in _ _ (by rw [ByteArray.size_extract];omega),byteAt_in _ _ (by omega),ByteArray.getElem_extract]

theorem bt_left (a b:ByteArray) (i:Nat) (h:i<a.size):byteAt (a++b) i=byteAt a i:=by
 rw [byteAt_in _ _ (by rw [ByteArray.size_append];omega),byteAt_in _ _ h,ByteArray.getElem_append_left h]

theorem bt_right (a b:ByteArray) (i:Nat) (h:i<b.size):byteAt (a++b) (a.size+i)=byteAt b i:=by
 rw [byteAt_in _ _ (by rw [ByteArray.size_append];omega),byteAt_in _ _ h,ByteArray.getElem_append_right (by omega)]
 simp

theorem textOf_ext (f g:Nat→Int) (n:Nat) (h:∀ i,i<n→f i=g i):textOf f n=textOf g n:=by
 unfold textOf
 congr 1
 apply List.map_congr_left
 intro i hi
 exact h i (List.mem_range.1 hi)

theorem textOf_is (f:Nat→Int) (n:Nat) (s:ByteArray) (hn:s.size=n) (h:∀ i,i<n→f i=byteAt s i):textOf f n=s:=by
 subst hn
 rw [textOf_ext f (byteAt s) _ h,textOf_bytes]

theorem textOf_join (f:Nat→Int) (n:Nat) (a b:ByteArray) (hn:a.size+b.size=n) (h1:∀ i,i<a.size→f i=byteAt a i) (h2:∀ i,i<b.size→f (a.size+i)=byteAt b i):textOf f n=a++b:=by
 refine textOf_is f n _ (by rw [ByteArray.size_append];exact hn) fun i hi=>?_
 by_cases h:i<a.size
 ·rw [h1 i h,bt_left _ _ _ h]
 ·obtain ⟨j,rfl⟩:∃ j,i=a.size+j:=⟨i - a.size,by omega⟩
  rw [h2 j (by omega),bt_right _ _ _ (by omega)]
end Go.Proofs.YtnbopjlpemmkcaaGreat

namespace Go.Proofs.YtnbopjlpemmkcaaGreat
open Go.ChangeShapes Go.WideShapes Go.ChangeAt Go.RowKit Go.Deep
set_option linter.unusedVariables false
set_option maxRecDepth 10000
set_option maxRecDepth 10000

def putN (d:ByteArray) (r:Int) (s:ByteArray):Nat:=if outOk d r then min (r.toNat - d.size) s.size else 0

def putD (d:ByteArray) (r:Int) (s:ByteArray):ByteArray:=if outOk d r then d++s.extract 0 (putN d r s) else d

theorem stored3 {b:Nat} {x:World} {c0 c1 c2:Value} (B:Blk b x #[c0,c1,c2]) (v0 v1 v2:Value) :
  (((x.setCell ⟨b,0,none⟩ v0).setCell ⟨b,1,none⟩ v1).setCell ⟨b,2,none⟩ v2).cell? ⟨b,0,none⟩=some v0∧(((x.setCell ⟨b,0,none⟩ v0).setCell ⟨b,1,none⟩ v1).setCell ⟨b,2,none⟩ v2).cell? ⟨b,1,none⟩=some v1∧(((x.setCell ⟨b,0,none⟩ v0).setCell ⟨b,1,none⟩ v1).setCell ⟨b,2,none⟩ v2).cell? ⟨b,2,none⟩=some v2:=by
 have k:=((B.put 0 v0 (by simp)).put 1 v1 (by simp)).put 2 v2 (by simp)
 exact ⟨by simpa using k.cell 0,by simpa using k.cell 1,by simpa using k.cell 2⟩

theorem since_put3 {w x:World} {b:Nat} (h:Since w x) (hb:w.heap.size≤b) (v0 v1 v2:Value):Since w (((x.setCell ⟨b,0,none⟩ v0).setCell ⟨b,1,none⟩ v1).setCell ⟨b,2,none⟩ v2):=since_put1 (since_put1 (since_put1 h hb _ _) hb _ _) hb _ _

theorem specOutPut (f:Int) (d:ByteArray) (r:Int) (s:ByteArray) (hd:d.size≤1048576) (hs:s.size≤1048576) (w:World) :
  Calls Tryz.prog 81 #[outVal f d r,.string s] w fun e w'=>e=.returned (.tuple #[outVal f (putD d r s) r,.int .i64 (putN d r s)])∧Since w w':=by
 have ho:=fun wx=>specOutOk f d r wx
 have G:Since w ((w.alloc (.cells #[.int .u32 f,.string d,.int .i64 r] 43)).alloc (.cells #[.int .u32 0,.string ByteArray.empty,.int .i64 0] 43)):=((Since.refl _).alloc _).alloc _
 have A:=(Blk.new w #[.int .u32 f,.string d,.int .i64 r] 43).since ((Since.refl _).alloc (.cells #[.int .u32 0,.string ByteArray.empty,.int .i64 0] 43))
 have B:=Blk.new (w.alloc (.cells #[.int .u32 f,.string d,.int .i64 r] 43)) #[.int .u32 0,.string ByteArray.empty,.int .i64 0] 43
 simp only [World.size_alloc] at A B
 unfold putD putN
 by_cases hk:outOk d r=true
 ·obtain ⟨h1,h2,h3⟩:=(outOk_iff d r).1 hk
  obtain ⟨m,rfl⟩:=Int.eq_ofNat_of_zero_le (show 0≤r by omega)
  rw [if_pos hk,if_pos hk]
  rw [hk] at ho
  obtain ⟨n,hn⟩:∃ n,min (((m:Nat):Int).toNat - d.size) s.size=n:=⟨_,rfl⟩
  rw [hn]
  unfold outVal at *
  have hn1:n≤s.size:=by omega
  by_cases hlt:(s.size:Int)<(m:Int) - (d.size:Int)
  ·have hns:n=s.size:=by omega
   have es:s.extract 0 n=s:=by rw [hns];simp
   rw [es,hns]
   clear hn hk hn1 hns es
   go_enter Tryz.func81,Tryz.ntmps81
   go_wp2_with (fail)
   refine (ho _).mono ?_
   rintro _ w1 ⟨rfl,g1⟩
   replace G:=G.trans g1
   replace A:=A.since g1
   replace B:=B.since g1
   have a0:=A.cell 0
   have a1:=A.cell 1
   have a2:=A.cell 2
   have b0:=B.cell 0
   have b1:=B.cell 1
   have b2:=B.cell 2
   simp at a0 a1 a2 b0 b1 b2
   have y1:=A.fz 1
   have z0:=B.fz 0
   have z1:=B.fz 1
   have z2:=B.fz 2
   have hadd:=run_string_add_sum (P:=Tryz.prog) w1.drew d (s) (by omega)
   have A1:=A.put 1 (.string (d++s)) (by simp)
   have B1:=B.other (show w.heap.size+1≠w.heap.size by omega) 1 (.string (d++s))
   go_wp2
   go_region
   go_wp2
   refine bodyPost_ret (v:=.tuple #[.agg #[.int .u32 f,.string (d++s),.int .i64 m],.int .i64 s.size]) ?_ rfl ⟨rfl,?_⟩
   ·simp [results,go_sem,(stored3 B1 (.int .u32 f) (.string (d++s)) (.int .i64 m)).1,(stored3 B1 (.int .u32 f) (.string (d++s)) (.int .i64 m)).2.1,(stored3 B1 (.int .u32 f) (.string (d++s)) (.int .i64 m)).2.2]
   ·exact (since_put3 (since_put1 G (by omega) _ _) (by omega) _ _ _).drew
  ·have hmn:(m:Int) - (d.size:Int)=(n:Int):=by omega
   clear hn hk
   go_enter Tryz.func81,Tryz.ntmps81
   go_wp2_with (fail)
   refine (ho _).mono ?_
   rintro _ w1 ⟨rfl,g1⟩
   replace G:=G.trans g1
   replace A:=A.since g1
   replace B:=B.since g1
   have a0:=A.cell 0
   have a1:=A.cell 1
   have a2:=A.cell 2
   have b0:=B.cell 0
   have b1:=B.cell 1
   have b2:=B.cell 2
   simp at a0 a1 a2 b0 b1 b2
   have y1:=A.fz 1
   have z0:=B.fz 0
   have z1:=B.fz 1
   have z2:=B.fz 2
   have hadd:=run_string_add_sum (P:=Tryz.prog) w1.drew d (s.extract 0 n) (by rw [ByteArray.size_extract];omega)
   have A1:=A.put 1 (.string (d++s.extract 0 n)) (by simp)
   have B1:=B.other (show w.heap.size+1≠w.heap.size by omega) 1 (.string (d++s.extract 0 n))
   go_wp2
   go_region
   go_wp2
   refine bodyPost_ret (v:=.tuple #[.agg #[.int .u32 f,.string (d++s.extract 0 n),.int .i64 m],.int .i64 n]) ?_ rfl ⟨rfl,?_⟩
   ·simp [results,go_sem,(stored3 B1 (.int .u32 f) (.string (d++s.extract 0 n)) (.int .i64 m)).1,(stored3 B1 (.int .u32 f) (.string (d++s.extract 0 n)) (.int .i64 m)).2.1,(stored3 B1 (.int .u32 f) (.string (d++s.extract 0 n)) (.int .i64 m)).2.2]
   ·exact (since_put3 (since_put1 G (by omega) _ _) (by omega) _ _ _).drew
 ·have hk':outOk d r=false:=by simpa using hk
  rw [if_neg hk,if_neg hk]
  rw [hk'] at ho
  unfold outVal at *
  clear hk hk'
  go_enter Tryz.func81,Tryz.ntmps81
  go_wp2_with (fail)
  refine (ho _).mono ?_
  rintro _ w1 ⟨rfl,g1⟩
  replace G:=G.trans g1
  replace A:=A.since g1
  replace B:=B.since g1
  have a0:=A.cell 0
  have a1:=A.cell 1
  have a2:=A.cell 2
  have b0:=B.cell 0
  have b1:=B.cell 1
  have b2:=B.cell 2
  simp at a0 a1 a2 b0 b1 b2
  have z0:=B.fz 0
  have z1:=B.fz 1
  have z2:=B.fz 2
  go_wp2
  refine bodyPost_ret (v:=.tuple #[.agg #[.int .u32 f,.string d,.int .i64 r],.int .i64 0]) ?_ rfl ⟨rfl,?_⟩
  ·simp [results,go_sem,(stored3 B (.int .u32 f) (.string d) (.int .i64 r)).1,(stored3 B (.int .u32 f) (.string d) (.int .i64 r)).2.1,(stored3 B (.int .u32 f) (.string d) (.int .i64 r)).2.2]
  ·exact since_put3 G (by omega) _ _ _
end Go.Proofs.YtnbopjlpemmkcaaGreat

namespace Go.Proofs.YtnbopjlpemmkcaaGreat
open Go.ChangeShapes Go.WideShapes Go.ChangeAt Go.RowKit Go.Deep
set_option linter.unusedVariables false
set_option maxRecDepth 10000
set_option maxRecDepth 10000

def doneOk (d:ByteArray) (r at':Int):Prop:=outOk d r=true∧0≤at'∧at'≤d.size

instance (d:ByteArray) (r at':Int):Decidable (doneOk d r at'):=by unfold doneOk;infer_instance
end Go.Proofs.YtnbopjlpemmkcaaGreat
