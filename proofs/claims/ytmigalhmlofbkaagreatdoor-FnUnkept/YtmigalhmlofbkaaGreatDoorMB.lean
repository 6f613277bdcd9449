/- A part of the proof. -/
import Derived.Test.YtmigalhmlofbkaaGreatDoorM0
set_option linter.unusedVariables false
set_option maxRecDepth 10000
namespace Go.Proofs.YtmigalhmlofbkaaGreatDoor
open Go.ChangeShapes Go.WideShapes Go.ChangeAt Go.RowKit
def rttVal (a:Bool) (s v h:Int):Value:=.agg #[.bool a,.int .i64 s,.int .i64 v,.int .i64 h]
def rttOk (a:Bool) (s v h:Int):Bool:=decide (0≤s∧s≤800000) && (decide (0≤v∧v≤400000) && (decide (0≤h∧h≤8) && (a || (decide (s=0) && decide (v=0)))))
theorem implRttOk (a:Bool) (s v h:Int) (w:World) :
  Calls Tryz.prog 88 #[rttVal a s v h] w fun e w'=>e=.returned (.bool (rttOk a s v h))∧w'=w.alloc (.cells #[.bool a,.int .i64 s,.int .i64 v,.int .i64 h] 35):=by
 unfold rttVal
 go_enter Tryz.func88,Tryz.ntmps88
 go_wp2
 all_goals go_ret
 all_goals refine ⟨ret_bool ?_,by first|rfl|simp [*]⟩
 all_goals rw [Bool.eq_iff_iff]
 all_goals simp [rttOk, *]
 all_goals omega
theorem ok_bounds {a:Bool} {s v h:Int} (k:rttOk a s v h=true):0≤s∧s≤800000∧0≤v∧v≤400000∧0≤h∧h≤8∧(a=true∨s=0∧v=0):=by
 simp [rttOk] at k
 obtain ⟨⟨k1,k2⟩,⟨k3,k4⟩,⟨k5,k6⟩,k7⟩:=k
 exact ⟨k1,k2,k3,k4,k5,k6,k7⟩
theorem implDist (a b d:Int) (ha:IsWord a) (hb:IsWord b) (hd:IsDist a b d) (w:World) :
  Calls Tryz.prog 90 #[.int .u32 a,.int .u32 b] w fun e w'=>e=.returned (.int .i64 d)∧w=w':=by
 go_enter Tryz.func90,Tryz.ntmps90
 go_wp2_with (go_at_call 126;refine (distTo a b d ha hb hd _).mono ?_;rintro _ _ ⟨rfl,rfl⟩)
 go_ret
 exact ⟨rfl,rfl⟩
theorem less (a b d:Int) (ha:IsWord a) (hb:IsWord b) (hd:IsDist a b d) (w:World) :
  Calls Tryz.prog 136 #[.int .u32 a,.int .u32 b] w fun e w'=>e=.returned (.bool (decide (0<d)))∧w=w':=by
 go_enter Tryz.func136,Tryz.ntmps136
 go_wp2_with (go_at_call 126;refine (distTo a b d ha hb hd _).mono ?_;rintro _ _ ⟨rfl,rfl⟩)
 go_ret
 exact ⟨rfl,rfl⟩
theorem implLess (a b d:Int) (ha:IsWord a) (hb:IsWord b) (hd:IsDist a b d) (w:World) :
  Calls Tryz.prog 107 #[.int .u32 a,.int .u32 b] w fun e w'=>e=.returned (.bool (decide (0<d)))∧w=w':=by
 go_enter Tryz.func107,Tryz.ntmps107
 go_wp2_with (go_at_call 136;refine (less a b d ha hb hd _).mono ?_;rintro _ _ ⟨rfl,rfl⟩)
 go_ret
 exact ⟨rfl,rfl⟩
theorem implLessEq (a b d:Int) (ha:IsWord a) (hb:IsWord b) (hd:IsDist a b d) (w:World) :
  Calls Tryz.prog 91 #[.int .u32 a,.int .u32 b] w fun e w'=>e=.returned (.bool (decide (0≤d)))∧w=w':=by
 by_cases h:a=b
 ·have hp:decide (0≤d)=true:=by
   obtain ⟨h1,h2,h3⟩:=hd
   simp
   omega
  have he:(a == b)=true:=by simpa using h
  go_enter Tryz.func91,Tryz.ntmps91
  go_wp2
  go_ret
  rw [hp]
  exact ⟨rfl,rfl⟩
 ·have he:(a == b)=false:=by simpa using h
  go_enter Tryz.func91,Tryz.ntmps91
  go_wp2_with (go_at_call 107;refine (implLess a b d ha hb hd _).mono ?_;rintro _ _ ⟨rfl,rfl⟩)
  go_ret
  have hp:decide (0<d)=decide (0≤d):=by
   obtain ⟨h1,h2,h3⟩:=hd
   obtain ⟨h4,h5⟩:=ha
   obtain ⟨h6,h7⟩:=hb
   simp
   omega
  rw [← hp]
  exact ⟨rfl,rfl⟩
theorem implMax (a b d:Int) (ha:IsWord a) (hb:IsWord b) (hd:IsDist a b d) (w:World) :
  Calls Tryz.prog 139 #[.int .u32 a,.int .u32 b] w fun e w'=>e=.returned (.int .u32 (if 0<d then b else a))∧w=w':=by
 by_cases h:0<d
 ·rw [if_pos h]
  go_enter Tryz.func139,Tryz.ntmps139
  go_wp2_with (go_at_call 107;refine (implLess a b d ha hb hd _).mono ?_;rintro _ _ ⟨rfl,rfl⟩)
  go_ret
  exact ⟨rfl,rfl⟩
 ·rw [if_neg h]
  go_enter Tryz.func139,Tryz.ntmps139
  go_wp2_with (go_at_call 107;refine (implLess a b d ha hb hd _).mono ?_;rintro _ _ ⟨rfl,rfl⟩)
  go_ret
  exact ⟨rfl,rfl⟩
theorem isSample (r:Int) (w:World) :
  Calls Tryz.prog 166 #[.int .i64 r] w fun e w'=>e=.returned (.bool (decide (0≤r∧r≤100000)))∧w=w':=by
 go_enter Tryz.func166,Tryz.ntmps166
 go_wp2
 all_goals go_ret
 all_goals refine ⟨ret_bool ?_,by first|rfl|simp [*]⟩
 all_goals rw [Bool.eq_iff_iff]
 all_goals simp [*]
 all_goals omega
theorem implMean (a:Bool) (s v h:Int) (h0:0≤s) (h1:s≤800000) (w:World) :
  Calls Tryz.prog 176 #[rttVal a s v h] w fun e w'=>e=.returned (.int .i64 (s / 8))∧w'=w.alloc (.cells #[.bool a,.int .i64 s,.int .i64 v,.int .i64 h] 35):=by
 unfold rttVal
 go_enter Tryz.func176,Tryz.ntmps176
 go_wp2
 go_ret
 exact ⟨rfl,rfl⟩
theorem implBegun (a:Bool) (s v h r:Int) (h0:0≤r) (h1:r≤100000) (w:World) :
  Calls Tryz.prog 167 #[rttVal a s v h,.int .i64 r] w fun e w'=>e=.returned (rttVal a (8*r) (2*r) h)∧∃ x y:Array Value,w'=(w.alloc (.cells x 35)).alloc (.cells y 35):=by
 unfold rttVal
 go_enter Tryz.func167,Tryz.ntmps167
 go_wp2
 rw [show 4*r / 2=2*r by omega]
 refine bodyPost_ret (v:=.agg #[.bool a,.int .i64 (8*r),.int .i64 (2*r),.int .i64 h]) ?_ rfl ⟨rfl,_,_,rfl⟩
 simp [results,go_sem]
theorem implSmoothed (a:Bool) (s v d r:Int) (h0:0≤r) (h1:r≤100000) (h2:0≤s) (h3:s≤800000) (h4:0≤v) (h5:v≤400000) (w:World) :
  Calls Tryz.prog 168 #[rttVal a s v d,.int .i64 r] w fun e w'=>e=.returned (rttVal a (s+(r - s / 8)) (v+(max (r - s / 8) (-(r - s / 8)) - v / 4)) d)∧∃ x y z:Array Value,w'=((w.alloc (.cells x 35)).alloc (.cells y 35)).alloc (.cells z 35):=by
 have hm:=fun wx=>implMean a s v d h2 h3 wx
 unfold rttVal at hm ⊢
 go_enter Tryz.func168,Tryz.ntmps168
 go_wp2_with (go_at_call 176;refine (hm _).mono ?_;rintro _ _ ⟨rfl,rfl⟩)
 ·rw [Int.max_eq_right (by omega)]
  refine bodyPost_ret (v:=.agg #[.bool a,.int .i64 (s+(r - s / 8)),.int .i64 (v+(-(r - s / 8) - v / 4)),.int .i64 d]) ?_ rfl ⟨rfl,_,_,_,rfl⟩
  simp [results,go_sem]
 ·rw [Int.max_eq_left (by omega)]
  refine bodyPost_ret (v:=.agg #[.bool a,.int .i64 (s+(r - s / 8)),.int .i64 (v+(r - s / 8 - v / 4)),.int .i64 d]) ?_ rfl ⟨rfl,_,_,_,rfl⟩
  simp [results,go_sem]
def sampleS (a:Bool) (s r:Int):Int:=if a then s+(r - s / 8) else 8*r
def sampleV (a:Bool) (s v r:Int):Int:=if a then v+(max (r - s / 8) (-(r - s / 8)) - v / 4) else 2*r
theorem implSample (a:Bool) (s v h r:Int) (w:World) :
  Calls Tryz.prog 156 #[rttVal a s v h,.int .i64 r] w fun e w'=>e=.returned (if rttOk a s v h && decide (0≤r∧r≤100000) then rttVal true (sampleS a s r) (sampleV a s v r) 0 else rttVal false 0 0 0)∧Since w w':=by
 have ho:=fun wx=>implRttOk a s v h wx
 have hs:=fun wx=>isSample r wx
 unfold rttVal at ho
 by_cases hk:rttOk a s v h=true
 ·have hb:=ok_bounds hk
  rw [hk] at ho ⊢
  by_cases hr:0≤r∧r≤100000
  ·have hd:decide (0≤r∧r≤100000)=true:=by simp [hr]
   rw [hd] at hs ⊢
   simp only [Bool.and_self,if_true]
   cases a
   ·have hl:=fun wx=>implBegun false s v h r hr.1 hr.2 wx
    unfold rttVal sampleS sampleV at *
    clear hb hd hk hr
    simp only [Bool.false_eq_true,if_false]
    go_enter Tryz.func156,Tryz.ntmps156
    go_wp2_with (first|(go_at_call 88;refine (ho _).mono ?_;rintro _ _ ⟨rfl,rfl⟩)|(go_at_call 166;refine (hs _).mono ?_;rintro _ _ ⟨rfl,rfl⟩)|(go_at_call 167;refine (hl _).mono ?_;rintro _ _ ⟨rfl,x,y,rfl⟩))
    refine bodyPost_ret (v:=.agg #[.bool true,.int .i64 (8*r),.int .i64 (2*r),.int .i64 0]) ?_ rfl ⟨rfl,by repeat (first|exact Since.refl _|apply Since.drew|apply Since.alloc)⟩
    simp [results,go_sem]
   ·have hl:=fun wx=>implSmoothed true s v h r hr.1 hr.2 hb.1 hb.2.1 hb.2.2.1 hb.2.2.2.1 wx
    unfold sampleS sampleV
    simp only [if_true]
    generalize s+(r - s / 8)=s' at hl ⊢
    generalize v+(max (r - s / 8) (-(r - s / 8)) - v / 4)=v' at hl ⊢
    unfold rttVal at *
    clear hb hd hk hr
    go_enter Tryz.func156,Tryz.ntmps156
    go_wp2_with (first|(go_at_call 88;refine (ho _).mono ?_;rintro _ _ ⟨rfl,rfl⟩)|(go_at_call 166;refine (hs _).mono ?_;rintro _ _ ⟨rfl,rfl⟩)|(go_at_call 168;refine (hl _).mono ?_;rintro _ _ ⟨rfl,x,y,z,rfl⟩))
    refine bodyPost_ret (v:=.agg #[.bool true,.int .i64 s',.int .i64 v',.int .i64 0]) ?_ rfl ⟨rfl,by repeat (first|exact Since.refl _|apply Since.drew|apply Since.alloc)⟩
    simp [results,go_sem]
  ·have hd:decide (0≤r∧r≤100000)=false:=by simp [hr]
   rw [hd] at hs ⊢
   clear hb hd hk hr
   simp only [Bool.and_false,Bool.false_eq_true,if_false]
   unfold rttVal
   go_enter Tryz.func156,Tryz.ntmps156
   go_wp2_with (first|(go_at_call 88;refine (ho _).mono ?_;rintro _ _ ⟨rfl,rfl⟩)|(go_at_call 166;refine (hs _).mono ?_;rintro _ _ ⟨rfl,rfl⟩))
   refine bodyPost_ret (v:=.agg #[.bool false,.int .i64 0,.int .i64 0,.int .i64 0]) ?_ rfl ⟨rfl,by repeat (first|exact Since.refl _|apply Since.drew|apply Since.alloc)⟩
   simp [results,go_sem]
 ·have hk':rttOk a s v h=false:=by simpa using hk
  rw [hk'] at ho ⊢
  clear hk hk'
  simp only [Bool.false_and,Bool.false_eq_true,if_false]
  unfold rttVal
  go_enter Tryz.func156,Tryz.ntmps156
  go_wp2_with (go_at_call 88;refine (ho _).mono ?_;rintro _ _ ⟨rfl,rfl⟩)
  refine bodyPost_ret (v:=.agg #[.bool false,.int .i64 0,.int .i64 0,.int .i64 0]) ?_ rfl ⟨rfl,by repeat (first|exact Since.refl _|apply Since.drew|apply Since.alloc)⟩
  simp [results,go_sem]
end Go.Proofs.YtmigalhmlofbkaaGreatDoor
