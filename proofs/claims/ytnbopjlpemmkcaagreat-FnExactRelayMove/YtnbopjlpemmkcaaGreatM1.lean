/-
  Contracts of the functions on places: what impl's and spec's SeqDist, SeqLess, SeqLessEq and SeqMax answer, at every two words; no condition but that the arguments are words.
  Contracts of the functions on windows: InWindow, Overlaps and Unwrap, impl's and spec's, at every argument; no condition but that words are words and ints are ints.
  Contracts of the ones sum of a number: impl's folded and spec's l02Fold at every number from 0 to 1099511627775; of isHalf; of impl's and spec's SumUpdate at every argument.
  Contracts of impl's and spec's PacketOk, and of the laws' copying of a packet, at every packet.
-/
import Derived.Test.YtnbopjlpemmkcaaGreatRows
import Derived.WalkKit
import Derived.ProofKit
import Derived.OpenShut
import Derived.WalkSpells
import Derived.Below
import Derived.Laws.BitsAllLaws
import Derived.Laws.ByValue
namespace Go.Proofs.YtnbopjlpemmkcaaGreat
open Go.ChangeShapes Go.WideShapes Go.ChangeAt Go.RowKit
set_option linter.unusedVariables false
set_option maxRecDepth 10000

def Newer (w w':World):Prop:=Grown w w'∧Below w.heap.size w w'

theorem Newer.refl (w:World):Newer w w:=⟨Grown.refl _,Below.refl _ _⟩

theorem Newer.trans {a b c:World} (h:Newer a b) (k:Newer b c):Newer a c:=
 ⟨⟨World.keptBut_trans h.1.1 k.1.1,fun x=>(k.1.2.1 x).trans (h.1.2.1 x),Nat.le_trans h.1.2.2 k.1.2.2⟩,h.2.trans (k.2.mono h.1.2.2)⟩

theorem Newer.size {a b:World} (h:Newer a b):a.heap.size≤b.heap.size:=h.1.2.2

theorem Newer.alloc {a b:World} (h:Newer a b) (c:Array Value) (t:TypeId):Newer a (b.alloc (.cells c t)):=
 ⟨Grown.alloc h.1 c t,h.2.alloc h.1.2.2 _⟩

theorem Newer.drew {a b:World} (h:Newer a b):Newer a b.drew:=⟨Grown.drew h.1,h.2.drew⟩

theorem Newer.setCell {a b:World} (h:Newer a b) {p:Addr} (hp:a.heap.size≤p.block) (v:Value):Newer a (b.setCell p v):=
 ⟨Grown.setCell h.1 hp v,h.2.setCell hp v⟩

theorem tmod_small (x m:Int) (h1:-m<x) (h2:x<m):x.tmod m=x:=by
 by_cases h:0≤x
 ·rw [Int.tmod_eq_emod_of_nonneg h,Int.emod_eq_of_lt h h2]
 ·have e:x=-(-x):=by omega
  rw [e,Int.neg_tmod,Int.tmod_eq_emod_of_nonneg (by omega),Int.emod_eq_of_lt (by omega) (by omega)]

def IsWord (x:Int):Prop:=0≤x∧x<4294967296

theorem isWord_wf {x:Int} (h:(Lit.int .u32 x).wf=true):IsWord x:=by
 have:=bounds_u32 h
 unfold IsWord
 omega

def IsDist (a b d:Int):Prop:=-2147483648≤d∧d<2147483648∧(b - a - d) % 4294967296=0

theorem distTo (a b d:Int) (ha:IsWord a) (hb:IsWord b) (hd:IsDist a b d) (w:World) :
  Calls Tryz.prog 105 #[.int .u32 a,.int .u32 b] w fun e w'=>e=.returned (.int .i64 d)∧w=w':=by
 obtain ⟨ha,ha'⟩:=ha
 obtain ⟨hb,hb'⟩:=hb
 go_enter Tryz.func105,Tryz.ntmps105
 go_wp2
 go_ret
 refine ⟨?_,rfl⟩
 have e:wrap64 (wrap32 ((b - a) % 4294967296))=d:=by
  obtain ⟨h1,h2,h3⟩:=hd
  unfold wrap64 wrap32
  omega
 simp [e]

theorem specDist (a b d:Int) (ha:IsWord a) (hb:IsWord b) (hd:IsDist a b d) (w:World) :
  Calls Tryz.prog 51 #[.int .u32 a,.int .u32 b] w fun e w'=>e=.returned (.int .i64 d)∧w=w':=by
 obtain ⟨ha,ha'⟩:=ha
 obtain ⟨hb,hb'⟩:=hb
 have ht:=tmod_small (b - a) 4294967296 (by omega) (by omega)
 go_enter Tryz.func51,Tryz.ntmps51
 go_wp2
 all_goals go_ret
 all_goals refine ⟨?_,rfl⟩
 all_goals obtain ⟨h1,h2,h3⟩:=hd
 all_goals simp
 all_goals omega
end Go.Proofs.YtnbopjlpemmkcaaGreat

namespace Go.Proofs.YtnbopjlpemmkcaaGreat
open Go.ChangeShapes Go.WideShapes Go.ChangeAt Go.RowKit
set_option linter.unusedVariables false
set_option maxRecDepth 10000

def IsInt (x:Int):Prop:=-9223372036854775808≤x∧x≤9223372036854775807

theorem specIn (x a b:Int) (w:World) :
  Calls Tryz.prog 46 #[.int .i64 x,.int .i64 a,.int .i64 b] w fun e w'=>e=.returned (.bool (decide (a≤x∧x≤b)))∧w=w':=by
 by_cases h1:a≤x
 ·have e1:decide (a≤x∧x≤b)=decide (x≤b):=by simp [h1]
  rw [e1]
  clear e1
  go_enter Tryz.func46,Tryz.ntmps46
  go_wp2
  go_ret
  exact ⟨rfl,rfl⟩
 ·have e1:decide (a≤x∧x≤b)=false:=by simp [h1]
  rw [e1]
  clear e1
  go_enter Tryz.func46,Tryz.ntmps46
  go_wp2
  go_ret
  exact ⟨rfl,rfl⟩
end Go.Proofs.YtnbopjlpemmkcaaGreat

namespace Go.Proofs.YtnbopjlpemmkcaaGreat
open Go.ChangeShapes Go.WideShapes Go.ChangeAt Go.RowKit
set_option linter.unusedVariables false
set_option maxRecDepth 10000

def foldOf (n:Int):Int:=if n=0 then 0 else (n - 1) % 65535+1

theorem isHalf (n:Int) (w:World) :
  Calls Tryz.prog 64 #[.int .i64 n] w fun e w'=>e=.returned (.bool (decide (0≤n∧n≤65535)))∧w=w':=by
 by_cases h1:0≤n
 ·have e1:decide (0≤n∧n≤65535)=decide (n≤65535):=by simp [h1]
  rw [e1]
  clear e1
  go_enter Tryz.func64,Tryz.ntmps64
  go_wp2
  go_ret
  exact ⟨rfl,rfl⟩
 ·have e1:decide (0≤n∧n≤65535)=false:=by simp [h1]
  rw [e1]
  clear e1
  go_enter Tryz.func64,Tryz.ntmps64
  go_wp2
  go_ret
  exact ⟨rfl,rfl⟩
end Go.Proofs.YtnbopjlpemmkcaaGreat

namespace Go.Proofs.YtnbopjlpemmkcaaGreat
open Go.ChangeShapes Go.WideShapes Go.ChangeAt Go.RowKit
set_option linter.unusedVariables false
set_option maxRecDepth 10000

def Since (a b:World):Prop:=Below a.heap.size a b

theorem ret_bool {b c:Bool} (h:b=c):Ending.returned (Value.bool b)=Ending.returned (Value.bool c):=by rw [h]

theorem ret_int {b c:Int} (h:b=c):Ending.returned (Value.int .i64 b)=Ending.returned (Value.int .i64 c):=by rw [h]

theorem Since.refl (w:World):Since w w:=Below.refl _ _

theorem Since.trans {a b c:World} (h:Since a b) (k:Since b c):Since a c:=Below.trans h (Below.mono k (Below.size h))

theorem Since.drew {a b:World} (h:Since a b):Since a b.drew:=Below.drew h

theorem Since.alloc {a b:World} (h:Since a b) (o:Obj):Since a (b.alloc o):=Below.alloc h (Below.size h) o

theorem Since.of {a b:World} (h:Newer a b):Since a b:=h.2

theorem Since.le {a b:World} (h:Since a b):a.heap.size≤b.heap.size:=Below.size h
end Go.Proofs.YtnbopjlpemmkcaaGreat
