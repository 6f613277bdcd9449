/-
  A segment as a value, and lists of segments.
-/
import Derived.Test.YtnbopjlpemmkcaaGreatM3
import Derived.Test.YtnbopjlpemmkcaaGreatM1
import Derived.Deep.WholeRow
namespace Go.Proofs.YtnbopjlpemmkcaaGreat
open Go.ChangeShapes Go.WideShapes Go.ChangeAt Go.RowKit
set_option linter.unusedVariables false
set_option maxRecDepth 10000

structure Sg where
 fr:Int
 tt:Int
 sq:Int
 ak:Int
 fl:Int
 wn:Int
 ms:Int
 d:ByteArray

def sgCells (s:Sg):Array Value:=#[.int .i64 s.fr,.int .i64 s.tt,.int .u32 s.sq,.int .u32 s.ak,.int .i64 s.fl,.int .i64 s.wn,.int .i64 s.ms,.string s.d]

def shG:Shape Sg:=⟨99,8,fun s=>[.int .i64 s.fr,.int .i64 s.tt,.int .u32 s.sq,.int .u32 s.ak,.int .i64 s.fl,.int .i64 s.wn,.int .i64 s.ms,.string s.d],fun _=>rfl,fun x v hv=>by simp at hv;rcases hv with rfl|rfl|rfl|rfl|rfl|rfl|rfl|rfl<;>rfl,⟨0,0,0,0,0,0,0,ByteArray.empty⟩,by decide⟩

theorem heldG0 (w:World):Held shG (w.alloc (.cells #[] 99)) w.heap.size w.heap.size 0 0 []:=
 Held.mk' (cur:=#[]) rfl (Nat.le_refl _) (heap_alloc_last w _) (by omega) (by unfold maxLen;omega) rfl rfl

theorem heldG1 (w:World) (s:Sg):Held shG (w.alloc (.cells (sgCells s) 99)) w.heap.size w.heap.size 1 1 [s]:=
 Held.mk' (cur:=sgCells s) rfl (Nat.le_refl _) (heap_alloc_last w _) (by omega) (by unfold maxLen;omega) rfl rfl
end Go.Proofs.YtnbopjlpemmkcaaGreat
