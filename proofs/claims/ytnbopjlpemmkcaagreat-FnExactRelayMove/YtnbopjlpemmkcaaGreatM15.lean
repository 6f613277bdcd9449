/-
  Lists of segments that grow.
  A list of segments that grows, behind the veil.
-/
import Derived.Test.YtnbopjlpemmkcaaGreatSegTab
import Derived.Test.YtnbopjlpemmkcaaGreatM24
import Derived.Test.YtnbopjlpemmkcaaGreatM10
import Derived.Test.YtnbopjlpemmkcaaGreatVl
namespace Go.Proofs.YtnbopjlpemmkcaaGreat
open Go.ChangeShapes Go.WideShapes Go.ChangeAt Go.RowKit
set_option linter.unusedVariables false
set_option maxRecDepth 10000

theorem info_G:(Tryz.prog.info? 99).map (fun i=>(i.zero,i.size,i.bytes))=some (some (.agg #[.int .i64 0,.int .i64 0,.int .u32 0,.int .u32 0,.int .i64 0,.int .i64 0,.int .i64 0,.string ⟨#[]⟩]),8,64):=by kernel_rfl

theorem laidG:Laid shG 51 64:=by
 obtain ⟨ii,hi,hz0,hz1,hz2⟩:=info_parts info_G
 exact ⟨Tryz.underlying51,ii,_,hi,hz0,hz1,hz2,rfl⟩

theorem touch_grownG {w w':World} {g n c:Nat} (h:w.grownBy w' (Value.slice (some ⟨g,0,none⟩) n c).ownBlock):Touch g w w':=⟨h.os,h.tape,h.output,h.size,fun k hk hne=>h.block k hk (by simp [Value.ownBlock];omega)⟩

theorem own_or {g n c g' H:Nat} (h:(Value.slice (some ⟨g,0,none⟩) n c).ownBlock=some g'∨g'=H):g=g'∨g'=H:=by
 rcases h with h|h
 ·exact Or.inl (by simpa [Value.ownBlock] using h)
 ·exact Or.inr h
end Go.Proofs.YtnbopjlpemmkcaaGreat

namespace Go.Proofs.YtnbopjlpemmkcaaGreat
open Go.ChangeShapes Go.WideShapes Go.ChangeAt Go.RowKit
set_option linter.unusedVariables false
set_option maxRecDepth 10000

theorem vA {ops:Array Oper} {rest:List Oper} {o:Oper} {a:Act} {w:World} {Q:Exit→Act→World→Prop} {B n g c:Nat} {xs:List Sg} {ad:Addr} {ys:List Sg} {s x:Operand} (T:Held shG w B g n c xs) (R:Rd shG w (some ad) 1 ys) (hmax:n+1≤maxLen) (hby:(n+1)*64≤140737488355328) (hB:B≤w.heap.size)
  (k:∀ g' cap w',Held shG w' B g' (n+1) cap (xs++ys)→w.grownBy w' (Value.slice (some ⟨g,0,none⟩) n c).ownBlock→((Value.slice (some ⟨g,0,none⟩) n c).ownBlock=some g'∨g'=w.heap.size)→VL ops Q rest (a.put o.dst (.slice (some ⟨g',0,none⟩) (n+1) cap)) w')
  (ho:o.op=.call {callee:=.builtin .append,args:=#[s,x],argTypes:=#[51,51]}:=by rfl) (hg:o.guard=none:=by rfl) (hs:a.eval s=.slice (some ⟨g,0,none⟩) n c:=by kernel_rfl) (hx:a.eval x=.slice (some ad) 1 1:=by kernel_rfl):VL ops Q (o :: rest) a w:=
 ⟨app_own laidG hg s x ho hs T hx R (by decide) hmax hby hB _ rfl fun g' cap w' p q r=>(k g' cap w' p q r).out⟩
end Go.Proofs.YtnbopjlpemmkcaaGreat
