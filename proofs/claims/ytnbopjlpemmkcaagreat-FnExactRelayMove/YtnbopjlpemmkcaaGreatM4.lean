/-
  Contracts of impl's halves (a function that tells the halves of a text to a yield) and of its OnesSum, at every text.
  Contract of impl's OnesSum, at every text.
  Contracts of impl's and spec's Turned, at every text of at most 1048576 bytes, every place and every number.
-/
import Derived.Test.YtnbopjlpemmkcaaGreatM1
import Derived.RangeFuncNested
import Derived.RangeFuncBound
import Derived.RangeFuncCalls
import Derived.RangeFuncLeaves
import Derived.Shelf.Abstract
import Derived.Shelf.RegionOpen
import Derived.OwnWalkIn
import Derived.TacticsInMore
import Derived.LoopNIn
import Derived.LoopIn
import Derived.Laws.IdiomStrings
import Derived.Laws.BytesArg
import Derived.Lib.LazyBuf
import Derived.WalkLawsBesides
namespace Go.Proofs.YtnbopjlpemmkcaaGreat
open Go.ChangeShapes Go.WideShapes Go.ChangeAt Go.RowKit Go.Shelf
attribute [local go_sem] Oper.semAt_some
set_option linter.unusedVariables false
set_option maxRecDepth 10000

def part (f:Nat→Int):Nat→Int
 | 0=>0
 | i+1=>part f i+(if i % 2=0 then 256*f i else f i)

def byteAt (s:ByteArray) (i:Nat):Int:=if h:i<s.size then (s[i].toNat:Int) else 0

theorem byteAt_in (s:ByteArray) (i:Nat) (h:i<s.size):byteAt s i=(s[i].toNat:Int):=by
 simp [byteAt,h]

theorem byteAt_range (s:ByteArray) (i:Nat):0≤byteAt s i∧byteAt s i<256:=by
 unfold byteAt
 split
 ·have:=UInt8.toNat_lt s[i]
  omega
 ·omega
end Go.Proofs.YtnbopjlpemmkcaaGreat

namespace Go.Proofs.YtnbopjlpemmkcaaGreat
open Go.ChangeShapes Go.WideShapes Go.ChangeAt Go.RowKit Go.Shelf
attribute [local go_sem] Oper.semAt_some
set_option linter.unusedVariables false
set_option maxRecDepth 10000

def ones (s:ByteArray):Int:=if 2000<s.size then -1 else foldOf (part (byteAt s) s.size)
end Go.Proofs.YtnbopjlpemmkcaaGreat

namespace Go.Proofs.YtnbopjlpemmkcaaGreat
open Go.ChangeShapes Go.WideShapes Go.ChangeAt Go.RowKit
set_option linter.unusedVariables false
set_option maxRecDepth 10000

def textOf (f:Nat→Int) (n:Nat):ByteArray:=strOfNums ((List.range n).map f)

theorem textOf_size (f:Nat→Int) (n:Nat):(textOf f n).size=n:=by
 simp [textOf,strOfNums_size]

theorem byteAt_textOf (f:Nat→Int) (n i:Nat) (hi:i<n) (h:0≤f i∧f i<256):byteAt (textOf f n) i=f i:=by
 rw [byteAt_in _ _ (by rw [textOf_size];exact hi)]
 have e:(textOf f n)[i]'(by rw [textOf_size];exact hi)=UInt8.ofNat (f i).toNat:=by
  show (textOf f n).data[i]'_=_
  simp [textOf,strOfNums]
 rw [e,UInt8.toNat_ofNat']
 omega

theorem text_ext (s t:ByteArray) (h:s.size=t.size) (hb:∀ i,i<s.size→byteAt s i=byteAt t i):s=t:=by
 have hd:s.data=t.data:=by
  apply Array.ext
  ·exact h
  ·intro i h1 h2
   have:=hb i h1
   rw [byteAt_in s i h1,byteAt_in t i h2] at this
   exact UInt8.toNat_inj.1 (by exact_mod_cast this)
 cases s
 cases t
 exact congrArg ByteArray.mk hd

theorem textOf_bytes (s:ByteArray):textOf (byteAt s) s.size=s:=
 text_ext _ _ (textOf_size _ _) fun i hi=>by
  rw [textOf_size] at hi
  exact byteAt_textOf _ _ _ hi (byteAt_range s i)

theorem bytesBack (f:Nat→Int) (n cap b:Nat) (w:World) (hc:∀ i,i<n→w.cell? ⟨b,i,none⟩=some (.int .u8 (f i))) :
  (convert 127 9 (.slice (some ⟨b,0,none⟩) n cap)).run Tryz.prog w=.ok (.string (textOf f n)) w:=by
 refine run_convert_bytes_arg _ 127 5 Tryz.underlying127 Tryz.underlying5 b 0 n cap _ (by simp) ?_ 9 Tryz.underlying9
 intro i hi
 rw [Nat.zero_add,hc i hi]
 simp [List.getD,hi]
end Go.Proofs.YtnbopjlpemmkcaaGreat
