/- A part of the proof. -/
import Derived.Test.YtmigalhmlofbkaaGreatDoorM6
set_option linter.unusedVariables false
set_option maxRecDepth 10000
namespace Go.Proofs.YtmigalhmlofbkaaGreatDoor
open Go.ChangeShapes Go.WideShapes Go.ChangeAt Go.RowKit
theorem moved (p n q:Int) (hp:IsWord p) (hq:IsWord q) (h:(p+n - q) % 4294967296=0) (w:World) :
  Calls Tryz.prog 158 #[.int .u32 p,.int .i64 n] w fun e w'=>e=.returned (.int .u32 q)∧w=w':=by
 obtain ⟨hp,hp'⟩:=hp
 obtain ⟨hq,hq'⟩:=hq
 go_enter Tryz.func158,Tryz.ntmps158
 go_wp2
 go_ret
 have e1:(p+n % 4294967296) % 4294967296=q:=by omega
 exact ⟨by simp [e1],rfl⟩
theorem implOverlaps (s n l z m k:Int) (hs:IsWord s) (hl:IsWord l) (hm:IsAhead l s m) (hk:IsAhead s l k) (w:World) :
  Calls Tryz.prog 134 #[.int .u32 s,.int .i64 n,.int .u32 l,.int .i64 z] w fun e w'=>e=.returned (.bool (decide (1≤n∧n≤100000∧1≤z∧z≤2147483647∧(m<z∨k<n))))∧w=w':=by
 obtain ⟨m1,m2,m3⟩:=hm
 obtain ⟨k1,k2,k3⟩:=hk
 by_cases h1:1≤n
 ·by_cases h2:n≤100000
  ·by_cases h3:1≤z
   ·by_cases h4:z≤2147483647
    ·obtain ⟨q,hq⟩:∃ q,IsWord q∧(l+(1 - n) - q) % 4294967296=0:=⟨(l+(1 - n)) % 4294967296,by unfold IsWord;omega⟩
     obtain ⟨hq,hq2⟩:=hq
     obtain ⟨j,hj⟩:=isAhead_ex q s
     have e1:decide (1≤n∧n≤100000∧1≤z∧z≤2147483647∧(m<z∨k<n))=decide (j<z+n - 1):=by
      obtain ⟨j1,j2,j3⟩:=hj
      have hq':=hq.1
      have hq'':=hq.2
      simp only [decide_eq_decide]
      omega
     rw [e1]
     clear e1
     go_enter Tryz.func134,Tryz.ntmps134
     go_wp2_with (first|(go_at_call 158;refine (moved l (1 - n) q hl hq hq2 _).mono ?_;rintro _ _ ⟨rfl,rfl⟩)|(go_at_call 157;refine (within s q (z+n - 1) j hs hq hj _).mono ?_;rintro _ _ ⟨rfl,rfl⟩))
     go_ret
     exact ⟨rfl,rfl⟩
    ·have e1:decide (1≤n∧n≤100000∧1≤z∧z≤2147483647∧(m<z∨k<n))=false:=by simp [h4]
     rw [e1]
     clear e1
     go_enter Tryz.func134,Tryz.ntmps134
     go_wp2
     go_ret
     exact ⟨rfl,rfl⟩
   ·have e1:decide (1≤n∧n≤100000∧1≤z∧z≤2147483647∧(m<z∨k<n))=false:=by simp [h3]
    rw [e1]
    clear e1
    go_enter Tryz.func134,Tryz.ntmps134
    go_wp2
    go_ret
    exact ⟨rfl,rfl⟩
  ·have e1:decide (1≤n∧n≤100000∧1≤z∧z≤2147483647∧(m<z∨k<n))=false:=by simp [h2]
   rw [e1]
   clear e1
   go_enter Tryz.func134,Tryz.ntmps134
   go_wp2
   go_ret
   exact ⟨rfl,rfl⟩
 ·have e1:decide (1≤n∧n≤100000∧1≤z∧z≤2147483647∧(m<z∨k<n))=false:=by simp [h1]
  rw [e1]
  clear e1
  go_enter Tryz.func134,Tryz.ntmps134
  go_wp2
  go_ret
  exact ⟨rfl,rfl⟩
def segSpanOf (fl:Int) (n:Int):Int:=n+(if hasF fl 2=true then 1 else 0)+(if hasF fl 1=true then 1 else 0)
theorem implSpan (fr to sq ak fl wn ms:Int) (d:ByteArray) (hf:IsInt fl) (hd:d.size≤1048576) (w:World) :
  Calls Tryz.prog 133 #[segVal fr to sq ak fl wn ms d] w fun e w'=>e=.returned (.int .i64 (segSpanOf fl (d.size:Int)))∧Since w w':=by
 have i1:=fun wx=>hasFlag fl 2 hf (by simp [IsFlag]) wx
 have i2:=fun wx=>hasFlag fl 1 hf (by simp [IsFlag]) wx
 unfold segVal
 unfold segSpanOf
 generalize hasF fl 2=b1 at i1 ⊢
 generalize hasF fl 1=b2 at i2 ⊢
 have G:=Since.refl (w.alloc (.cells #[.int .i64 fr,.int .i64 to,.int .u32 sq,.int .u32 ak,.int .i64 fl,.int .i64 wn,.int .i64 ms,.string d] 41))
 cases b1<;>cases b2
 all_goals
  go_enter Tryz.func133,Tryz.ntmps133
  go_wp2_with (first|(go_at_call 85;refine (i1 _).mono ?_;clear i1;rintro _ _ ⟨rfl,rfl⟩)|(go_at_call 85;refine (i2 _).mono ?_;clear i2;rintro _ _ ⟨rfl,rfl⟩))
  go_ret
  exact ⟨by simp;try omega,((Since.refl _).alloc _).trans G⟩
end Go.Proofs.YtmigalhmlofbkaaGreatDoor
