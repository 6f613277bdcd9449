/-
  Contracts of impl's and spec's RttOk and of the laws' copying of a wait, at every wait.
  Contracts of impl's and spec's SeqDist, SeqLess, SeqLessEq, SeqMax over those of Seq: at every two words; no condition but that the arguments are words.
  Contracts of impl's and spec's CongOk, CongStart and CongLost, of impl's small methods over what may be under way, of spec's clipping, and of the laws' copying, at every value.
-/
import Derived.Test.YtnbopjlpemmkcaaGreatM1
namespace Go.Proofs.YtnbopjlpemmkcaaGreat
open Go.ChangeShapes Go.WideShapes Go.ChangeAt Go.RowKit
set_option linter.unusedVariables false
set_option maxRecDepth 10000

def rttVal (a:Bool) (s v h:Int):Value:=.agg #[.bool a,.int .i64 s,.int .i64 v,.int .i64 h]

def rttOk (a:Bool) (s v h:Int):Bool:=decide (0≤s∧s≤800000) && (decide (0≤v∧v≤400000) && (decide (0≤h∧h≤8) && (a || (decide (s=0) && decide (v=0)))))

theorem implRttOk (a:Bool) (s v h:Int) (w:World) :
  Calls Tryz.prog 88 #[rttVal a s v h] w fun e w'=>e=.returned (.bool (rttOk a s v h))∧w'=w.alloc (.cells #[.bool a,.int .i64 s,.int .i64 v,.int .i64 h] 47):=by
 unfold rttVal
 go_enter Tryz.func88,Tryz.ntmps88
 go_wp2
 all_goals go_ret
 all_goals refine ⟨ret_bool ?_,by first|rfl|simp [*]⟩
 all_goals rw [Bool.eq_iff_iff]
 all_goals simp [rttOk, *]
 all_goals omega

theorem specRttOk (a:Bool) (s v h:Int) (w:World) :
  Calls Tryz.prog 49 #[rttVal a s v h] w fun e w'=>e=.returned (.bool (rttOk a s v h))∧w'=w.alloc (.cells #[.bool a,.int .i64 s,.int .i64 v,.int .i64 h] 47):=by
 unfold rttVal rttOk
 have i1:=fun wx=>specIn s 0 800000 wx
 have i2:=fun wx=>specIn v 0 400000 wx
 have i3:=fun wx=>specIn h 0 8 wx
 generalize decide (0≤s∧s≤800000)=b1 at i1 ⊢
 generalize decide (0≤v∧v≤400000)=b2 at i2 ⊢
 generalize decide (0≤h∧h≤8)=b3 at i3 ⊢
 go_enter Tryz.func49,Tryz.ntmps49
 cases b1
 ·go_wp2_with (go_at_call 46;refine (i1 _).mono ?_;clear i1;rintro _ _ ⟨rfl,rfl⟩)
  go_ret
  exact ⟨rfl,rfl⟩
 cases b2
 ·go_wp2_with (first|(go_at_call 46;refine (i1 _).mono ?_;clear i1;rintro _ _ ⟨rfl,rfl⟩)|(go_at_call 46;refine (i2 _).mono ?_;rintro _ _ ⟨rfl,rfl⟩))
  go_ret
  exact ⟨rfl,rfl⟩
 go_wp2_with (first|(go_at_call 46;refine (i1 _).mono ?_;clear i1;rintro _ _ ⟨rfl,rfl⟩)|(go_at_call 46;refine (i2 _).mono ?_;clear i2;rintro _ _ ⟨rfl,rfl⟩)|(go_at_call 46;refine (i3 _).mono ?_;clear i3;rintro _ _ ⟨rfl,rfl⟩))
 all_goals go_ret
 all_goals refine ⟨ret_bool ?_,by first|rfl|simp [*]⟩
 all_goals rw [Bool.eq_iff_iff]
 all_goals simp_all

theorem toRtt (a:Bool) (s v h:Int) (w:World) :
  Calls Tryz.prog 28 #[rttVal a s v h] w fun e w'=>e=.returned (rttVal a s v h)∧Since w w':=by
 unfold rttVal
 go_enter Tryz.func28,Tryz.ntmps28
 go_wp2
 refine bodyPost_ret (v:=.agg #[.bool a,.int .i64 s,.int .i64 v,.int .i64 h]) ?_ rfl ⟨rfl,by repeat (first|exact Since.refl _|apply Since.drew|apply Since.alloc)⟩
 simp [results,go_sem]

theorem eqRtt (a:Bool) (s v h:Int) (w:World) :
  Calls Tryz.prog 38 #[rttVal a s v h,rttVal a s v h] w fun e w'=>e=.returned (.bool true)∧Since w w':=by
 unfold rttVal
 go_enter Tryz.func38,Tryz.ntmps38
 go_wp2
 go_ret
 exact ⟨rfl,by repeat (first|exact Since.refl _|apply Since.drew|apply Since.alloc)⟩
end Go.Proofs.YtnbopjlpemmkcaaGreat

namespace Go.Proofs.YtnbopjlpemmkcaaGreat
open Go.ChangeShapes Go.WideShapes Go.ChangeAt Go.RowKit
set_option linter.unusedVariables false
set_option maxRecDepth 10000

theorem implDist (a b d:Int) (ha:IsWord a) (hb:IsWord b) (hd:IsDist a b d) (w:World) :
  Calls Tryz.prog 90 #[.int .u32 a,.int .u32 b] w fun e w'=>e=.returned (.int .i64 d)∧w=w':=by
 go_enter Tryz.func90,Tryz.ntmps90
 go_wp2_with (go_at_call 105;refine (distTo a b d ha hb hd _).mono ?_;rintro _ _ ⟨rfl,rfl⟩)
 go_ret
 exact ⟨rfl,rfl⟩

theorem less (a b d:Int) (ha:IsWord a) (hb:IsWord b) (hd:IsDist a b d) (w:World) :
  Calls Tryz.prog 124 #[.int .u32 a,.int .u32 b] w fun e w'=>e=.returned (.bool (decide (0<d)))∧w=w':=by
 go_enter Tryz.func124,Tryz.ntmps124
 go_wp2_with (go_at_call 105;refine (distTo a b d ha hb hd _).mono ?_;rintro _ _ ⟨rfl,rfl⟩)
 go_ret
 exact ⟨rfl,rfl⟩

theorem implLess (a b d:Int) (ha:IsWord a) (hb:IsWord b) (hd:IsDist a b d) (w:World) :
  Calls Tryz.prog 106 #[.int .u32 a,.int .u32 b] w fun e w'=>e=.returned (.bool (decide (0<d)))∧w=w':=by
 go_enter Tryz.func106,Tryz.ntmps106
 go_wp2_with (go_at_call 124;refine (less a b d ha hb hd _).mono ?_;rintro _ _ ⟨rfl,rfl⟩)
 go_ret
 exact ⟨rfl,rfl⟩

theorem specLess (a b d:Int) (ha:IsWord a) (hb:IsWord b) (hd:IsDist a b d) (w:World) :
  Calls Tryz.prog 78 #[.int .u32 a,.int .u32 b] w fun e w'=>e=.returned (.bool (decide (0<d)))∧w=w':=by
 go_enter Tryz.func78,Tryz.ntmps78
 go_wp2_with (go_at_call 51;refine (specDist a b d ha hb hd _).mono ?_;rintro _ _ ⟨rfl,rfl⟩)
 go_ret
 exact ⟨rfl,rfl⟩

theorem implLessEq (a b d:Int) (ha:IsWord a) (hb:IsWord b) (hd:IsDist a b d) (w:World) :
  Calls Tryz.prog 91 #[.int .u32 a,.int .u32 b] w fun e w'=>e=.returned (.bool (decide (0≤d)))∧w=w':=by
 by_cases h:a=b
 ·have hp:decide (0≤d)=true:=by
   obtain ⟨h1,h2,h3⟩:=hd
   simp
   omega
  have he:(a == b)=true:=by simpa using h
  go_enter Tryz.func91,Tryz.ntmps91
  go_wp2
  go_ret
  rw [hp]
  exact ⟨rfl,rfl⟩
 ·have he:(a == b)=false:=by simpa using h
  go_enter Tryz.func91,Tryz.ntmps91
  go_wp2_with (go_at_call 106;refine (implLess a b d ha hb hd _).mono ?_;rintro _ _ ⟨rfl,rfl⟩)
  go_ret
  have hp:decide (0<d)=decide (0≤d):=by
   obtain ⟨h1,h2,h3⟩:=hd
   obtain ⟨h4,h5⟩:=ha
   obtain ⟨h6,h7⟩:=hb
   simp
   omega
  rw [← hp]
  exact ⟨rfl,rfl⟩

theorem specLessEq (a b d:Int) (ha:IsWord a) (hb:IsWord b) (hd:IsDist a b d) (w:World) :
  Calls Tryz.prog 52 #[.int .u32 a,.int .u32 b] w fun e w'=>e=.returned (.bool (decide (0≤d)))∧w=w':=by
 by_cases h:a=b
 ·have hp:decide (0≤d)=true:=by
   obtain ⟨h1,h2,h3⟩:=hd
   simp
   omega
  have he:(a == b)=true:=by simpa using h
  go_enter Tryz.func52,Tryz.ntmps52
  go_wp2
  go_ret
  rw [hp]
  exact ⟨rfl,rfl⟩
 ·have he:(a == b)=false:=by simpa using h
  go_enter Tryz.func52,Tryz.ntmps52
  go_wp2_with (go_at_call 78;refine (specLess a b d ha hb hd _).mono ?_;rintro _ _ ⟨rfl,rfl⟩)
  go_ret
  have hp:decide (0<d)=decide (0≤d):=by
   obtain ⟨h1,h2,h3⟩:=hd
   obtain ⟨h4,h5⟩:=ha
   obtain ⟨h6,h7⟩:=hb
   simp
   omega
  rw [← hp]
  exact ⟨rfl,rfl⟩
end Go.Proofs.YtnbopjlpemmkcaaGreat

namespace Go.Proofs.YtnbopjlpemmkcaaGreat
open Go.ChangeShapes Go.WideShapes Go.ChangeAt Go.RowKit
set_option linter.unusedVariables false
set_option maxRecDepth 10000

def congVal (x t d:Int) (f:Bool) (r:Int):Value:=.agg #[.int .i64 x,.int .i64 t,.int .i64 d,.bool f,.int .u32 r]

def congOk (x t d:Int):Bool:=decide (100≤x∧x≤8000) && (decide (200≤t∧t≤8000) && decide (0≤d∧d≤1000000))

theorem implCongOk (x t d:Int) (f:Bool) (r:Int) (w:World) :
  Calls Tryz.prog 89 #[congVal x t d f r] w fun e w'=>e=.returned (.bool (congOk x t d))∧w'=w.alloc (.cells #[.int .i64 x,.int .i64 t,.int .i64 d,.bool f,.int .u32 r] 48):=by
 unfold congVal
 go_enter Tryz.func89,Tryz.ntmps89
 go_wp2
 all_goals go_ret
 all_goals refine ⟨ret_bool ?_,by first|rfl|simp [*]⟩
 all_goals rw [Bool.eq_iff_iff]
 all_goals simp [congOk, *]
 all_goals omega

theorem specCongOk (x t d:Int) (f:Bool) (r:Int) (w:World) :
  Calls Tryz.prog 50 #[congVal x t d f r] w fun e w'=>e=.returned (.bool (congOk x t d))∧w'=w.alloc (.cells #[.int .i64 x,.int .i64 t,.int .i64 d,.bool f,.int .u32 r] 48):=by
 unfold congVal congOk
 have i1:=fun wx=>specIn x 100 8000 wx
 have i2:=fun wx=>specIn t 200 8000 wx
 have i3:=fun wx=>specIn d 0 1000000 wx
 generalize decide (100≤x∧x≤8000)=b1 at i1 ⊢
 generalize decide (200≤t∧t≤8000)=b2 at i2 ⊢
 generalize decide (0≤d∧d≤1000000)=b3 at i3 ⊢
 go_enter Tryz.func50,Tryz.ntmps50
 cases b1
 ·go_wp2_with (go_at_call 46;refine (i1 _).mono ?_;clear i1;rintro _ _ ⟨rfl,rfl⟩)
  go_ret
  exact ⟨rfl,rfl⟩
 cases b2
 ·go_wp2_with (first|(go_at_call 46;refine (i1 _).mono ?_;clear i1;rintro _ _ ⟨rfl,rfl⟩)|(go_at_call 46;refine (i2 _).mono ?_;rintro _ _ ⟨rfl,rfl⟩))
  go_ret
  exact ⟨rfl,rfl⟩
 go_wp2_with (first|(go_at_call 46;refine (i1 _).mono ?_;clear i1;rintro _ _ ⟨rfl,rfl⟩)|(go_at_call 46;refine (i2 _).mono ?_;clear i2;rintro _ _ ⟨rfl,rfl⟩)|(go_at_call 46;refine (i3 _).mono ?_;clear i3;rintro _ _ ⟨rfl,rfl⟩))
 all_goals go_ret
 all_goals refine ⟨ret_bool ?_,by first|rfl|simp [*]⟩
 all_goals rw [Bool.eq_iff_iff]
 all_goals simp_all

theorem toCong (x t d:Int) (f:Bool) (r:Int) (w:World) :
  Calls Tryz.prog 29 #[congVal x t d f r] w fun e w'=>e=.returned (congVal x t d f r)∧Since w w':=by
 unfold congVal
 go_enter Tryz.func29,Tryz.ntmps29
 go_wp2
 refine bodyPost_ret (v:=.agg #[.int .i64 x,.int .i64 t,.int .i64 d,.bool f,.int .u32 r]) ?_ rfl ⟨rfl,by repeat (first|exact Since.refl _|apply Since.drew|apply Since.alloc)⟩
 simp [results,go_sem]

theorem eqCong (x t d:Int) (f:Bool) (r:Int) (w:World) :
  Calls Tryz.prog 39 #[congVal x t d f r,congVal x t d f r] w fun e w'=>e=.returned (.bool true)∧Since w w':=by
 unfold congVal
 go_enter Tryz.func39,Tryz.ntmps39
 go_wp2
 go_ret
 exact ⟨rfl,by repeat (first|exact Since.refl _|apply Since.drew|apply Since.alloc)⟩

theorem specClip (x a b:Int) (h:a≤b) (w:World) :
  Calls Tryz.prog 56 #[.int .i64 x,.int .i64 a,.int .i64 b] w fun e w'=>e=.returned (.int .i64 (min (max x a) b))∧w=w':=by
 go_enter Tryz.func56,Tryz.ntmps56
 go_wp2
 all_goals go_ret
 all_goals exact ⟨ret_int (by omega),rfl⟩
end Go.Proofs.YtnbopjlpemmkcaaGreat
